/-
  Texts of this proof, joined: LWrites, LWritesV, LCmtN, LCommits.
-/
import Derived.Test.YtljdconhplgipaaGreatWrMem
import Derived.Test.YtljdconhplgipaaGreatRJoined
import Derived.Deep.RegionHeld3
import Derived.Deep.RegionWith
import Derived.Handy
import Derived.Test.YtljdconhplgipaaGreatPart4
/-
  The walks of the document's WriteCopy and of canopylaw's writes.
-/
namespace Go.Proofs.YtljdconhplgipaaGreat
open Go.RowKit
set_option maxRecDepth 100000 in
set_option maxHeartbeats 2000000 in
theorem writeCopy_any (w : World) (v : Value) (p : Plc) (hv : WriteIs w v p) (hp : PlcFits p) :
    Calls Tryz.prog 38 #[v] w fun e w' => ∃ na nc ka kc va vc, e = .returned (.agg #[.slice na p.name.length nc, .slice ka p.key.length kc, .bool p.gone, .slice va p.value.length vc]) ∧ PartIs 0 w' (.slice na p.name.length nc) p.name ∧ PartIs 0 w' (.slice ka p.key.length kc) p.key ∧ PartIs 0 w' (.slice va p.value.length vc) p.value ∧ w.grownBy w' none := by
  obtain ⟨vn, vk, vv, rfl, s1, s2, s3⟩ := hv
  obtain ⟨p1, p2, p3⟩ := hp
  obtain ⟨na, nc, rfl⟩ := s1.shape
  obtain ⟨ka, kc, rfl⟩ := s2.shape
  obtain ⟨va, vc, rfl⟩ := s3.shape
  obtain ⟨W1, hW1⟩ : ∃ W1 : World, W1 = (w.alloc (.cells #[.slice na p.name.length nc, .slice ka p.key.length kc, .bool p.gone, .slice va p.value.length vc] 40)).alloc (.cells #[.slice none 0 0, .slice none 0 0, .bool false, .slice none 0 0] 40) := ⟨_, rfl⟩
  have hgW : w.grownBy W1 none := by rw [hW1]; exact grown_alloc (World.grownBy_alloc _ _ _) _
  have HW1 : Hid (W1 = (w.alloc (.cells #[.slice na p.name.length nc, .slice ka p.key.length kc, .bool p.gone, .slice va p.value.length vc] 40)).alloc (.cells #[.slice none 0 0, .slice none 0 0, .bool false, .slice none 0 0] 40)) := hW1
  have bP : W1.heap[w.heap.size]? = some (.cells #[.slice na p.name.length nc, .slice ka p.key.length kc, .bool p.gone, .slice va p.value.length vc] 40) := by
    rw [hW1]; exact pair_old (World.grownBy_alloc _ _ _) (heap_alloc_new w _)
  have bR : Hid (W1.heap[w.heap.size + 1]? = some (.cells #[.slice none 0 0, .slice none 0 0, .bool false, .slice none 0 0] 40)) := by
    have := heap_alloc_new (w.alloc (.cells #[.slice na p.name.length nc, .slice ka p.key.length kc, .bool p.gone, .slice va p.value.length vc] 40)) (.cells #[.slice none 0 0, .slice none 0 0, .bool false, .slice none 0 0] 40)
    rw [World.size_alloc] at this
    show _ = _
    rw [hW1]; exact this
  obtain ⟨⟨a0, a1, a2, a3⟩, _⟩ := quad_room (grown_refl W1 none) bP
  have J1 : Hid (∀ w', W1.grownBy w' none → Calls Tryz.prog 17 #[.slice na p.name.length nc, .slice none 0 0] w' fun e w'' => ∃ v', e = .returned v' ∧ Own w'.heap.size w'' v' p.name ∧ w'.grownBy w'' none) := fun w' hg' => by
    have := joined_gen w' _ (.slice none 0 0) p.name [] (s1.grown (grown_trans hgW hg')) (sliceIs_nil _) (by simp; omega)
    rw [List.append_nil] at this
    exact this
  have J2 : Hid (∀ w', W1.grownBy w' none → Calls Tryz.prog 17 #[.slice ka p.key.length kc, .slice none 0 0] w' fun e w'' => ∃ v', e = .returned v' ∧ Own w'.heap.size w'' v' p.key ∧ w'.grownBy w'' none) := fun w' hg' => by
    have := joined_gen w' _ (.slice none 0 0) p.key [] (s2.grown (grown_trans hgW hg')) (sliceIs_nil _) (by simp; omega)
    rw [List.append_nil] at this
    exact this
  have J3 : Hid (∀ w', W1.grownBy w' none → Calls Tryz.prog 17 #[.slice va p.value.length vc, .slice none 0 0] w' fun e w'' => ∃ v', e = .returned v' ∧ Own w'.heap.size w'' v' p.value ∧ w'.grownBy w'' none) := fun w' hg' => by
    have := joined_gen w' _ (.slice none 0 0) p.value [] (s3.grown (grown_trans hgW hg')) (sliceIs_nil _) (by simp; omega)
    rw [List.append_nil] at this
    exact this
  have hgd := grown_drew (grown_refl W1 none)
  have e0 := hgd.cell a0 (by simp)
  have e1 := hgd.cell a1 (by simp)
  have e2 := hgd.cell a2 (by simp)
  have e3 := hgd.cell a3 (by simp)
  have hne : w.heap.size ≠ w.heap.size + 1 := by omega
  clear s1 s2 s3 p1 p2 p3 hW1 bP
  go_enter Tryz.func38, Tryz.ntmps38
  go_upto_region 1 with fail
  rw [← HW1.out]
  go_region_held3 (fun w' => w'.cell? ⟨w.heap.size, 0, none⟩ = some (.slice na p.name.length nc) ∧ w'.cell? ⟨w.heap.size, 1, none⟩ = some (.slice ka p.key.length kc) ∧ w'.cell? ⟨w.heap.size, 2, none⟩ = some (.bool p.gone) ∧ w'.cell? ⟨w.heap.size, 3, none⟩ = some (.slice va p.value.length vc))
    (first | with_reducible exact ⟨e0, e1, e2, e3⟩ | with_reducible exact ⟨f0, f1, f2, f3⟩ | with_reducible exact ⟨g0, g1, g2, g3⟩ | with_reducible exact ⟨h0, h1, h2, h3⟩ | (refine ⟨?_, ?_, ?_, ?_⟩ <;> (rw [World.cell?_setCell_other _ _ _ _ (by intro e; injection e with e1 e2; omega), World.cell?_setCell_other _ _ _ _ (by intro e; injection e with e1 e2; omega), World.cell?_setCell_other _ _ _ _ (by intro e; injection e with e1 e2; omega), World.cell?_setCell_other _ _ _ _ (by intro e; injection e with e1 e2; omega)]; assumption)))
    (first
      | (go_at_call_of 17 (Value.slice na p.name.length nc); with_reducible refine (J1.out _ hgd).mono ?_; rintro e w2 ⟨v2, rfl, ho2, hg2⟩; obtain ⟨xa, xc, rfl⟩ := ho2.shape; have hgd2 := grown_trans hgd hg2; have f0 := hgd2.cell a0 (by simp); have f1 := hgd2.cell a1 (by simp); have f2 := hgd2.cell a2 (by simp); have f3 := hgd2.cell a3 (by simp))
      | (go_at_call_of 17 (Value.slice ka p.key.length kc); with_reducible refine (J2.out _ hgd2).mono ?_; rintro e w3 ⟨v3, rfl, ho3, hg3⟩; obtain ⟨ya, yc, rfl⟩ := ho3.shape; have hgd3 := grown_trans hgd2 hg3; have g0 := hgd3.cell a0 (by simp); have g1 := hgd3.cell a1 (by simp); have g2 := hgd3.cell a2 (by simp); have g3 := hgd3.cell a3 (by simp))
      | (go_at_call_of 17 (Value.slice va p.value.length vc); with_reducible refine (J3.out _ hgd3).mono ?_; rintro e w4 ⟨v4, rfl, ho4, hg4⟩; obtain ⟨za, zc, rfl⟩ := ho4.shape; have hgd4 := grown_trans hgd3 hg4; have h0 := hgd4.cell a0 (by simp); have h1 := hgd4.cell a1 (by simp); have h2 := hgd4.cell a2 (by simp); have h3 := hgd4.cell a3 (by simp)
         have hR := pair_old hgd4 bR.out
         obtain ⟨⟨y0, y1, y2, y3⟩, k0, k1, k2, k3, _⟩ := quad_room (grown_refl w4 none) hR
         have HR : Hid (w4.heap[w.heap.size + 1]? = some (.cells #[.slice none 0 0, .slice none 0 0, .bool false, .slice none 0 0] 40)) := hR
         clear hR))
  all_goals (
    obtain ⟨q, q0, q1, q2, q3⟩ := quad_set HR.out (.slice xa p.name.length xc) (.slice ya p.key.length yc) (.bool p.gone) (.slice za p.value.length zc)
    obtain ⟨⟨r0, r1, r2, r3⟩, _⟩ := quad_room (grown_refl _ none) q
    have hg := grown_set (grown_set (grown_set (grown_set (grown_refl w4 (some (w.heap.size + 1))) 0 (.slice xa p.name.length xc)) 1 (.slice ya p.key.length yc)) 2 (.bool p.gone)) 3 (.slice za p.value.length zc)
    have hrow : (some (w.heap.size + 1) : Option Nat) = none ∨ ∃ g cur t fz, (some (w.heap.size + 1) : Option Nat) = some g ∧ 0 ≤ g ∧ w4.heap[g]? = some (.cells cur t fz) ∧ t ≠ 5 := .inr ⟨_, _, _, _, rfl, Nat.zero_le _, HR.out, wrT5⟩
    have P1 : Hid (PartIs 0 _ (.slice xa p.name.length xc) p.name) := ((ho2.grownNone (grown_trans hg3 hg4)).part (base := 0)).keptT hg hrow
    have P2 : Hid (PartIs 0 _ (.slice ya p.key.length yc) p.key) := ((ho3.grownNone hg4).part (base := 0)).keptT hg hrow
    have P3 : Hid (PartIs 0 _ (.slice za p.value.length zc) p.value) := (ho4.part (base := 0)).keptT hg hrow
    have hgq := grown_new (grown_trans hgW hgd4) (by omega) hg
    clear ho2 ho3 ho4 hrow
    go_wp2
    refine bodyPost_ret (v := .agg #[.slice xa p.name.length xc, .slice ya p.key.length yc, .bool p.gone, .slice za p.value.length zc]) (by simp [results, Tryz.results38, go_sem, r0, r1, r2, r3]) rfl ?_
    exact ⟨xa, xc, ya, yc, za, zc, rfl, P1.out, P2.out, P3.out, hgq⟩)
set_option maxRecDepth 100000 in
set_option maxHeartbeats 2000000 in
theorem writes_any (w : World) (v : Value) (l : List Plc) (hv : WritesIs w v l) (hl : FitsW l) :
    Calls Tryz.prog 21 #[v] w fun e w' => ∃ v', e = .returned v' ∧ OwnW w.heap.size w' v' l ∧ w.grownBy w' none := by
  obtain ⟨a, cap, rfl⟩ := hv.shape
  have hmany := hl.many
  have HF : Hid (FitsW l) := hl
  clear hl
  go_enter Tryz.func21, Tryz.ntmps21
  go_wp2_with fail
  go_loopw [3, 4] (fun cv i wr => ∃ m : Nat, m ≤ l.length ∧ i = .int .i64 (m : Int) ∧ OwnW w.heap.size wr cv (l.take m) ∧ w.grownBy wr none) (fun _ i _ => l.length - (intOf i).toNat)
  case atStart => exact ⟨0, by omega, rfl, ownW_nil _ _, grown_refl _ _⟩
  case round =>
    obtain ⟨m, hm, rfl, hown, hg⟩ := hrel
    obtain ⟨ca, ccap, rfl⟩ := hown.shape
    by_cases hlt : m < l.length
    · obtain ⟨b, o, rfl, hat⟩ := hv.at m hlt
      obtain ⟨vn, vk, vv, c1, c2, c3, c4, s1, s2, s3⟩ := hat.grown hg
      have HT : Hid (l.take (m + 1) = l.take m ++ [l.getD m noPlc]) := by
        show _ = _
        rw [List.take_succ_eq_append_getElem hlt]; simp [hlt]
      have hTl : (l.take m).length = m := by simp; omega
      have hpf := HF.out.each m hlt
      generalize l.getD m noPlc = P at *
      generalize l.take m = T at *
      have CP : Hid (Calls Tryz.prog 38 #[.agg #[vn, vk, .bool P.gone, vv]] wr fun e w' => ∃ na nc ka kc va vc, e = .returned (.agg #[.slice na P.name.length nc, .slice ka P.key.length kc, .bool P.gone, .slice va P.value.length vc]) ∧ PartIs 0 w' (.slice na P.name.length nc) P.name ∧ PartIs 0 w' (.slice ka P.key.length kc) P.key ∧ PartIs 0 w' (.slice va P.value.length vc) P.value ∧ wr.grownBy w' none) := writeCopy_any wr _ P ⟨vn, vk, vv, rfl, s1, s2, s3⟩ hpf
      obtain ⟨a1, k1, rfl⟩ := s1.shape
      obtain ⟨a2, k2, rfl⟩ := s2.shape
      obtain ⟨a3, k3, rfl⟩ := s3.shape
      rw [hTl] at hown ⊢
      have HOW : Hid (OwnW w.heap.size wr (.slice ca m ccap) T) := hown
      have i1 : (m : Int) < (l.length : Int) := by omega
      clear hat s1 s2 s3 hpf hown
      go_wp2_with fail
      refine CP.out.mono ?_
      rintro e w1 ⟨na, nc, ka, kc, va, vc, rfl, h1, h2, h3, hg1⟩
      have hgw1 := grown_trans hg hg1
      have hsz := hgw1.size
      obtain ⟨W2, hW2⟩ : ∃ W2 : World, W2 = w1.alloc (.cells #[.slice na P.name.length nc, .slice ka P.key.length kc, .bool P.gone, .slice va P.value.length vc] 40) := ⟨_, rfl⟩
      have HW2 : Hid (W2 = w1.alloc (.cells #[.slice na P.name.length nc, .slice ka P.key.length kc, .bool P.gone, .slice va P.value.length vc] 40)) := hW2
      have hga : w1.grownBy W2 none := by rw [hW2]; exact World.grownBy_alloc _ _ _
      obtain ⟨⟨y0, y1, y2, y3⟩, _⟩ := quad_room (grown_refl W2 none) (by rw [hW2]; exact heap_alloc_new w1 _ : W2.heap[w1.heap.size]? = some (.cells #[.slice na P.name.length nc, .slice ka P.key.length kc, .bool P.gone, .slice va P.value.length vc] 40))
      have hsz2 := hga.size
      have hg3 := World.grownBy_alloc W2 (.cells #[.slice na P.name.length nc, .slice ka P.key.length kc, .bool P.gone, .slice va P.value.length vc] 40) none
      have hg13 := grown_trans hga hg3
      have HO3 : Hid (OwnW w.heap.size (W2.alloc (.cells #[.slice na P.name.length nc, .slice ka P.key.length kc, .bool P.gone, .slice va P.value.length vc] 40)) (.slice ca m ccap) T) := HOW.out.grownNone (grown_trans hg1 hg13)
      have H1 : Hid (PartIs w.heap.size (W2.alloc (.cells #[.slice na P.name.length nc, .slice ka P.key.length kc, .bool P.gone, .slice va P.value.length vc] 40)) (.slice na P.name.length nc) P.name) := (h1.keptT hg13 (.inl rfl)).mono (Nat.zero_le _)
      have H2 : Hid (PartIs w.heap.size (W2.alloc (.cells #[.slice na P.name.length nc, .slice ka P.key.length kc, .bool P.gone, .slice va P.value.length vc] 40)) (.slice ka P.key.length kc) P.key) := (h2.keptT hg13 (.inl rfl)).mono (Nat.zero_le _)
      have H3 : Hid (PartIs w.heap.size (W2.alloc (.cells #[.slice na P.name.length nc, .slice ka P.key.length kc, .bool P.gone, .slice va P.value.length vc] 40)) (.slice va P.value.length vc) P.value) := (h3.keptT hg13 (.inl rfl)).mono (Nat.zero_le _)
      have hgw3 := grown_trans hgw1 hg13
      have hl80 : (T.length + 1) * 80 ≤ 140737488355328 := by omega
      have hbs : w.heap.size ≤ (W2.alloc (.cells #[.slice na P.name.length nc, .slice ka P.key.length kc, .bool P.gone, .slice va P.value.length vc] 40)).heap.size := hgw3.size
      have HBS : Hid (w.heap.size ≤ (W2.alloc (.cells #[.slice na P.name.length nc, .slice ka P.key.length kc, .bool P.gone, .slice va P.value.length vc] 40)).heap.size) := hbs
      clear hW2 h1 h2 h3 c1 c2 c3 c4 CP hbs
      go_upto_region 6 with fail
      rw [← HW2.out]
      go_wp2_with (at_builtin; refine wpList_append_wr rfl _ _ rfl w.heap.size (.slice ca m ccap) T rfl HO3.out (.slice na P.name.length nc) (.slice ka P.key.length kc) (.slice va P.value.length vc) P H1.out H2.out H3.out W2.heap.size (heap_alloc_new W2 _) rfl hl80 HBS.out ?_; intro v4 w4 ho4 hg4)
      have hgw4 : w.grownBy w4 none := grown_ownW hgw3 HO3.out (Nat.le_refl _) hg4
      go_roundw
      case rel => exact ⟨m + 1, by omega, by go_num, by rw [HT.out]; exact ho4, hgw4⟩
      case measure => simp [intOf]; omega
    · obtain rfl : m = l.length := by omega
      rw [List.take_length] at hown
      rw [List.take_length]
      go_wp2
      go_ret
      exact ⟨_, rfl, hown, hg⟩
end Go.Proofs.YtljdconhplgipaaGreat

/-
  The walk of canopylaw's writes: what it hands back is all new.
-/
namespace Go.Proofs.YtljdconhplgipaaGreat
open Go.RowKit
set_option maxRecDepth 100000 in
set_option maxHeartbeats 2000000 in
theorem writesV_any (w : World) (v : Value) (l : List Plc) (hv : WritesIs w v l) (hl : FitsW l) :
    Calls Tryz.prog 21 #[v] w fun e w' => ∃ v', e = .returned v' ∧ OwnV w.heap.size 0 w' v' l ∧ w.grownBy w' none := by
  obtain ⟨a, cap, rfl⟩ := hv.shape
  have hmany := hl.many
  have HF : Hid (FitsW l) := hl
  clear hl
  go_enter Tryz.func21, Tryz.ntmps21
  go_wp2_with fail
  go_loopw [3, 4] (fun cv i wr => ∃ m : Nat, m ≤ l.length ∧ i = .int .i64 (m : Int) ∧ OwnV w.heap.size 0 wr cv (l.take m) ∧ w.grownBy wr none) (fun _ i _ => l.length - (intOf i).toNat)
  case atStart => exact ⟨0, by omega, rfl, ownV_nil _ _ _, grown_refl _ _⟩
  case round =>
    obtain ⟨m, hm, rfl, hown, hg⟩ := hrel
    obtain ⟨ca, ccap, rfl⟩ := hown.shape
    by_cases hlt : m < l.length
    · obtain ⟨b, o, rfl, hat⟩ := hv.at m hlt
      obtain ⟨vn, vk, vv, c1, c2, c3, c4, s1, s2, s3⟩ := hat.grown hg
      have HT : Hid (l.take (m + 1) = l.take m ++ [l.getD m noPlc]) := by
        show _ = _
        rw [List.take_succ_eq_append_getElem hlt]; simp [hlt]
      have hTl : (l.take m).length = m := by simp; omega
      have hpf := HF.out.each m hlt
      generalize l.getD m noPlc = P at *
      generalize l.take m = T at *
      have CP : Hid (Calls Tryz.prog 38 #[.agg #[vn, vk, .bool P.gone, vv]] wr fun e w' => ∃ na nc ka kc va vc, e = .returned (.agg #[.slice na P.name.length nc, .slice ka P.key.length kc, .bool P.gone, .slice va P.value.length vc]) ∧ PartIs 0 w' (.slice na P.name.length nc) P.name ∧ PartIs 0 w' (.slice ka P.key.length kc) P.key ∧ PartIs 0 w' (.slice va P.value.length vc) P.value ∧ wr.grownBy w' none) := writeCopy_any wr _ P ⟨vn, vk, vv, rfl, s1, s2, s3⟩ hpf
      obtain ⟨a1, k1, rfl⟩ := s1.shape
      obtain ⟨a2, k2, rfl⟩ := s2.shape
      obtain ⟨a3, k3, rfl⟩ := s3.shape
      rw [hTl] at hown ⊢
      have HOW : Hid (OwnV w.heap.size 0 wr (.slice ca m ccap) T) := hown
      have i1 : (m : Int) < (l.length : Int) := by omega
      clear hat s1 s2 s3 hpf hown
      go_wp2_with fail
      refine CP.out.mono ?_
      rintro e w1 ⟨na, nc, ka, kc, va, vc, rfl, h1, h2, h3, hg1⟩
      have hgw1 := grown_trans hg hg1
      have hsz := hgw1.size
      obtain ⟨W2, hW2⟩ : ∃ W2 : World, W2 = w1.alloc (.cells #[.slice na P.name.length nc, .slice ka P.key.length kc, .bool P.gone, .slice va P.value.length vc] 40) := ⟨_, rfl⟩
      have HW2 : Hid (W2 = w1.alloc (.cells #[.slice na P.name.length nc, .slice ka P.key.length kc, .bool P.gone, .slice va P.value.length vc] 40)) := hW2
      have hga : w1.grownBy W2 none := by rw [hW2]; exact World.grownBy_alloc _ _ _
      obtain ⟨⟨y0, y1, y2, y3⟩, _⟩ := quad_room (grown_refl W2 none) (by rw [hW2]; exact heap_alloc_new w1 _ : W2.heap[w1.heap.size]? = some (.cells #[.slice na P.name.length nc, .slice ka P.key.length kc, .bool P.gone, .slice va P.value.length vc] 40))
      have hsz2 := hga.size
      have hg3 := World.grownBy_alloc W2 (.cells #[.slice na P.name.length nc, .slice ka P.key.length kc, .bool P.gone, .slice va P.value.length vc] 40) none
      have hg13 := grown_trans hga hg3
      have HO3 : Hid (OwnV w.heap.size 0 (W2.alloc (.cells #[.slice na P.name.length nc, .slice ka P.key.length kc, .bool P.gone, .slice va P.value.length vc] 40)) (.slice ca m ccap) T) := HOW.out.grownNone (grown_trans hg1 hg13)
      have H1 : Hid (PartIs 0 (W2.alloc (.cells #[.slice na P.name.length nc, .slice ka P.key.length kc, .bool P.gone, .slice va P.value.length vc] 40)) (.slice na P.name.length nc) P.name) := (h1.keptT hg13 (.inl rfl))
      have H2 : Hid (PartIs 0 (W2.alloc (.cells #[.slice na P.name.length nc, .slice ka P.key.length kc, .bool P.gone, .slice va P.value.length vc] 40)) (.slice ka P.key.length kc) P.key) := (h2.keptT hg13 (.inl rfl))
      have H3 : Hid (PartIs 0 (W2.alloc (.cells #[.slice na P.name.length nc, .slice ka P.key.length kc, .bool P.gone, .slice va P.value.length vc] 40)) (.slice va P.value.length vc) P.value) := (h3.keptT hg13 (.inl rfl))
      have hgw3 := grown_trans hgw1 hg13
      have hl80 : (T.length + 1) * 80 ≤ 140737488355328 := by omega
      have hbs : w.heap.size ≤ (W2.alloc (.cells #[.slice na P.name.length nc, .slice ka P.key.length kc, .bool P.gone, .slice va P.value.length vc] 40)).heap.size := hgw3.size
      have HBS : Hid (w.heap.size ≤ (W2.alloc (.cells #[.slice na P.name.length nc, .slice ka P.key.length kc, .bool P.gone, .slice va P.value.length vc] 40)).heap.size) := hbs
      clear hW2 h1 h2 h3 c1 c2 c3 c4 CP hbs
      go_upto_region 6 with fail
      rw [← HW2.out]
      go_wp2_with (at_builtin; refine wpList_append_wrV rfl _ _ rfl w.heap.size (.slice ca m ccap) T rfl HO3.out (.slice na P.name.length nc) (.slice ka P.key.length kc) (.slice va P.value.length vc) P H1.out H2.out H3.out W2.heap.size (heap_alloc_new W2 _) rfl hl80 HBS.out ?_; intro v4 w4 ho4 hg4)
      have hgw4 : w.grownBy w4 none := grown_ownV hgw3 HO3.out (Nat.le_refl _) hg4
      go_roundw
      case rel => exact ⟨m + 1, by omega, by go_num, by rw [HT.out]; exact ho4, hgw4⟩
      case measure => simp [intOf]; omega
    · obtain rfl : m = l.length := by omega
      rw [List.take_length] at hown
      rw [List.take_length]
      go_wp2
      go_ret
      exact ⟨_, rfl, hown, hg⟩
end Go.Proofs.YtljdconhplgipaaGreat

/-
  The walk of canopylaw's commit: what it hands back is all new.
-/
namespace Go.Proofs.YtljdconhplgipaaGreat
open Go.RowKit
theorem alloc_namedN (w : World) (o : Obj) : ∃ W : World, Hid (W = w.alloc o) ∧ w.grownBy W none ∧ Hid (W.heap[w.heap.size]? = some o) := ⟨w.alloc o, rfl, World.grownBy_alloc _ _ _, heap_alloc_new w o⟩
set_option maxRecDepth 100000 in
theorem commitV_any (w : World) (v : Value) (c : Cmt) (hv : CommitIs w v c) (hl : FitsW c.writes) :
    Calls Tryz.prog 9 #[v] w fun e w' => ∃ vs, e = .returned (.agg #[.int .i64 c.turn, vs]) ∧ OwnV w.heap.size 0 w' vs c.writes ∧ w.grownBy w' none := by
  obtain ⟨a, cap, rfl⟩ := hv.agg
  obtain ⟨U0, HU0, hgU, BU⟩ := alloc_namedN w (.cells #[.int .i64 c.turn, .slice a c.writes.length cap] 32)
  obtain ⟨W0, HW0, hgA, B0⟩ := alloc_namedN U0 (.cells #[.int .i64 0, .slice none 0 0] 32)
  have HW : Hid (W0 = (w.alloc (.cells #[.int .i64 c.turn, .slice a c.writes.length cap] 32)).alloc (.cells #[.int .i64 0, .slice none 0 0] 32)) := by show _ = _; rw [HW0.out, HU0.out]
  have hsz : U0.heap.size = w.heap.size + 1 := by rw [HU0.out]; simp
  rw [hsz] at B0
  clear hsz
  have hg0 := grown_trans hgU hgA
  have B1 : Hid (W0.heap[w.heap.size]? = some (.cells #[.int .i64 c.turn, .slice a c.writes.length cap] 32)) := by
    show _ = _
    rw [hgA.block _ (Array.getElem?_eq_some_iff.1 BU.out).1 (by simp)]; exact BU.out
  obtain ⟨c0, c1, _, _⟩ := pair_room (grown_refl W0 none) B1.out
  have WR : Hid (∀ w', W0.grownBy w' none → Calls Tryz.prog 21 #[.slice a c.writes.length cap] w' fun e w'' => ∃ v', e = .returned v' ∧ OwnV w'.heap.size 0 w'' v' c.writes ∧ w'.grownBy w'' none) := fun w' hg => writesV_any w' _ _ ((hv.writes.2.grown hg0).grown hg) hl
  have hsz0 := hg0.size
  have hgd := grown_drew (grown_refl W0 none)
  clear hv hl
  go_enter Tryz.func9, Tryz.ntmps9
  go_upto_region 1 with fail
  rw [← HW.out]
  go_region_with (go_at_call 21; refine (WR.out _ hgd).mono ?_; rintro e w1 ⟨v1, rfl, h1, hg1⟩; have hg01 := grown_trans hgd hg1; obtain ⟨d0, d1, _, _⟩ := pair_room hg01 B1.out; obtain ⟨r0, r1, r2, r3⟩ := pair_room hg01 B0.out; obtain ⟨xa, xc, rfl⟩ := h1.shape; obtain ⟨z0, z1⟩ := pair_set hg01 B0.out (.int .i64 c.turn) (.slice xa c.writes.length xc); have hb1 : w1.heap[w.heap.size + 1]? = some (.cells #[.int .i64 0, .slice none 0 0] 32) := pair_old hg01 B0.out)
  all_goals
    go_wp2_with fail
    refine bodyPost_ret (v := .agg #[.int .i64 c.turn, .slice xa c.writes.length xc]) (by simp [results, Tryz.results9, go_sem, z0, z1]) rfl ?_
    exact ⟨_, rfl, ((h1.down _ hsz0).setOther hb1 cmtT5 cmtTW (Nat.zero_le _) _).setOther (set_self hb1) cmtT5 cmtTW (Nat.zero_le _) _, grown_setNew (grown_setNew (grown_trans hg0 hg01) _ (by omega) _ _) _ (by omega) _ _⟩
end Go.Proofs.YtljdconhplgipaaGreat

/-
  The walk of canopylaw's commits.
-/
namespace Go.Proofs.YtljdconhplgipaaGreat
open Go.RowKit
set_option maxRecDepth 100000 in
set_option maxHeartbeats 2000000 in
theorem commits_any (w : World) (v : Value) (l : List Cmt) (hv : CommitsIs w v l) (hl : FitsCs l) :
    Calls Tryz.prog 4 #[v] w fun e w' => ∃ v', e = .returned v' ∧ OwnC w.heap.size w' v' l ∧ w.grownBy w' none := by
  obtain ⟨a, cap, rfl⟩ := hv.shape
  have hmany := hl.many
  have HF : Hid (∀ i, i < l.length → FitsC (l.getD i noCmt)) := hl.each
  have HV : Hid (CommitsIs w (.slice a l.length cap) l) := hv
  clear hl hv
  go_enter Tryz.func4, Tryz.ntmps4
  go_wp2_with fail
  go_loopw [3, 4] (fun cv i wr => ∃ m : Nat, m ≤ l.length ∧ i = .int .i64 (m : Int) ∧ OwnC w.heap.size wr cv (l.take m) ∧ w.grownBy wr none) (fun _ i _ => l.length - (intOf i).toNat)
  case atStart => exact ⟨0, by omega, rfl, ownC_nil _ _, grown_refl _ _⟩
  case round =>
    obtain ⟨m, hm, rfl, hown, hg⟩ := hrel
    obtain ⟨ca, ccap, rfl⟩ := hown.shape
    by_cases hlt : m < l.length
    · obtain ⟨b, o, rfl, hat⟩ := HV.out.at m hlt
      obtain ⟨vs, c1, c2, s1⟩ := hat.grown hg
      have HT : Hid (l.take (m + 1) = l.take m ++ [l.getD m noCmt]) := by
        show _ = _
        rw [List.take_succ_eq_append_getElem hlt]; simp [hlt]
      have hTl : (l.take m).length = m := by simp; omega
      have hpf := HF.out m hlt
      generalize l.getD m noCmt = C at *
      generalize l.take m = T at *
      have CP : Hid (Calls Tryz.prog 9 #[.agg #[.int .i64 C.turn, vs]] wr fun e w' => ∃ x, e = .returned (.agg #[.int .i64 C.turn, x]) ∧ OwnV wr.heap.size 0 w' x C.writes ∧ wr.grownBy w' none) := commitV_any wr _ C ⟨vs, rfl, s1⟩ hpf.writes
      obtain ⟨a1, k1, rfl⟩ := s1.shape
      rw [hTl] at hown ⊢
      have HOW : Hid (OwnC w.heap.size wr (.slice ca m ccap) T) := hown
      have i1 : (m : Int) < (l.length : Int) := by omega
      clear hat s1 hpf hown
      go_wp2_with fail
      refine CP.out.mono ?_
      rintro e w1 ⟨x, rfl, h1, hg1⟩
      obtain ⟨xa, xn, xc, rfl⟩ := h1.any
      have hgw1 := grown_trans hg hg1
      obtain ⟨W2, HW2, hga, B2⟩ := alloc_namedN w1 (.cells #[.int .i64 C.turn, .slice xa xn xc] 32)
      obtain ⟨y0, y1, _, _⟩ := pair_room (grown_refl W2 none) B2.out
      obtain ⟨W3, HW3, hg3, B3⟩ := alloc_namedN W2 (.cells #[.int .i64 C.turn, .slice xa xn xc] 32)
      have hg13 := grown_trans hga hg3
      have HO3 : Hid (OwnC w.heap.size W3 (.slice ca m ccap) T) := HOW.out.grownNone (grown_trans hg1 hg13)
      have H1 : Hid (WritesB w.heap.size W3 (.slice xa xn xc) C.writes) := (h1.grownNone hg13).writesB.mono (Nat.zero_le _)
      have hgw3 := grown_trans hgw1 hg13
      have hl32 : (T.length + 1) * 32 ≤ 140737488355328 := by omega
      have HBS : Hid (w.heap.size ≤ W3.heap.size) := hgw3.size
      clear h1 c1 c2 CP
      go_upto_region 6 with fail
      rw [← HW2.out]
      go_wp2_with (at_builtin; rw [← HW3.out]; refine wpList_append_cmt rfl _ _ rfl w.heap.size (.slice ca m ccap) T rfl HO3.out (.slice xa xn xc) C H1.out W2.heap.size B3.out rfl hl32 HBS.out ?_; intro v4 w4 ho4 hg4)
      have hgw4 : w.grownBy w4 none := grown_ownC hgw3 HO3.out (Nat.le_refl _) hg4
      go_roundw
      case rel => exact ⟨m + 1, by omega, by go_num, by rw [HT.out]; exact ho4, hgw4⟩
      case measure => simp [intOf]; omega
    · obtain rfl : m = l.length := by omega
      rw [List.take_length] at hown
      rw [List.take_length]
      go_wp2
      go_ret
      exact ⟨_, rfl, hown, hg⟩
end Go.Proofs.YtljdconhplgipaaGreat
