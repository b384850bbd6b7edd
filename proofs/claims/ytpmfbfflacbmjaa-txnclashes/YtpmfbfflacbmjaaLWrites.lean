/-
  The walks of the document's WriteCopy and of canopylaw's writes.
-/
import Derived.Test.YtpmfbfflacbmjaaWrMem
import Derived.Test.YtpmfbfflacbmjaaRJoined
import Derived.Deep.RegionHeld3
import Derived.Deep.RegionWith
import Derived.Handy
namespace Go.Proofs.Ytpmfbfflacbmjaa
open Go.RowKit
set_option maxRecDepth 100000 in
set_option maxHeartbeats 2000000 in
theorem writeCopy_any (w : World) (v : Value) (p : Plc) (hv : WriteIs w v p) (hp : PlcFits p) :
    Calls Try.prog 17 #[v] w fun e w' => ∃ na nc ka kc va vc, e = .returned (.agg #[.slice na p.name.length nc, .slice ka p.key.length kc, .bool p.gone, .slice va p.value.length vc]) ∧ PartIs 0 w' (.slice na p.name.length nc) p.name ∧ PartIs 0 w' (.slice ka p.key.length kc) p.key ∧ PartIs 0 w' (.slice va p.value.length vc) p.value ∧ w.grownBy w' none := by
  obtain ⟨vn, vk, vv, rfl, s1, s2, s3⟩ := hv
  obtain ⟨p1, p2, p3⟩ := hp
  obtain ⟨na, nc, rfl⟩ := s1.shape
  obtain ⟨ka, kc, rfl⟩ := s2.shape
  obtain ⟨va, vc, rfl⟩ := s3.shape
  obtain ⟨W1, hW1⟩ : ∃ W1 : World, W1 = (w.alloc (.cells #[.slice na p.name.length nc, .slice ka p.key.length kc, .bool p.gone, .slice va p.value.length vc] 39)).alloc (.cells #[.slice none 0 0, .slice none 0 0, .bool false, .slice none 0 0] 39) := ⟨_, rfl⟩
  have hgW : w.grownBy W1 none := by rw [hW1]; exact grown_alloc (World.grownBy_alloc _ _ _) _
  have HW1 : Hid (W1 = (w.alloc (.cells #[.slice na p.name.length nc, .slice ka p.key.length kc, .bool p.gone, .slice va p.value.length vc] 39)).alloc (.cells #[.slice none 0 0, .slice none 0 0, .bool false, .slice none 0 0] 39)) := hW1
  have bP : W1.heap[w.heap.size]? = some (.cells #[.slice na p.name.length nc, .slice ka p.key.length kc, .bool p.gone, .slice va p.value.length vc] 39) := by
    rw [hW1]; exact pair_old (World.grownBy_alloc _ _ _) (heap_alloc_new w _)
  have bR : Hid (W1.heap[w.heap.size + 1]? = some (.cells #[.slice none 0 0, .slice none 0 0, .bool false, .slice none 0 0] 39)) := by
    have := heap_alloc_new (w.alloc (.cells #[.slice na p.name.length nc, .slice ka p.key.length kc, .bool p.gone, .slice va p.value.length vc] 39)) (.cells #[.slice none 0 0, .slice none 0 0, .bool false, .slice none 0 0] 39)
    rw [World.size_alloc] at this
    show _ = _
    rw [hW1]; exact this
  obtain ⟨⟨a0, a1, a2, a3⟩, _⟩ := quad_room (grown_refl W1 none) bP
  have J1 : Hid (∀ w', W1.grownBy w' none → Calls Try.prog 44 #[.slice na p.name.length nc, .slice none 0 0] w' fun e w'' => ∃ v', e = .returned v' ∧ Own w'.heap.size w'' v' p.name ∧ w'.grownBy w'' none) := fun w' hg' => by
    have := joined_gen w' _ (.slice none 0 0) p.name [] (s1.grown (grown_trans hgW hg')) (sliceIs_nil _) (by simp; omega)
    rw [List.append_nil] at this
    exact this
  have J2 : Hid (∀ w', W1.grownBy w' none → Calls Try.prog 44 #[.slice ka p.key.length kc, .slice none 0 0] w' fun e w'' => ∃ v', e = .returned v' ∧ Own w'.heap.size w'' v' p.key ∧ w'.grownBy w'' none) := fun w' hg' => by
    have := joined_gen w' _ (.slice none 0 0) p.key [] (s2.grown (grown_trans hgW hg')) (sliceIs_nil _) (by simp; omega)
    rw [List.append_nil] at this
    exact this
  have J3 : Hid (∀ w', W1.grownBy w' none → Calls Try.prog 44 #[.slice va p.value.length vc, .slice none 0 0] w' fun e w'' => ∃ v', e = .returned v' ∧ Own w'.heap.size w'' v' p.value ∧ w'.grownBy w'' none) := fun w' hg' => by
    have := joined_gen w' _ (.slice none 0 0) p.value [] (s3.grown (grown_trans hgW hg')) (sliceIs_nil _) (by simp; omega)
    rw [List.append_nil] at this
    exact this
  have hgd := grown_drew (grown_refl W1 none)
  have e0 := hgd.cell a0 (by simp)
  have e1 := hgd.cell a1 (by simp)
  have e2 := hgd.cell a2 (by simp)
  have e3 := hgd.cell a3 (by simp)
  have hne : w.heap.size ≠ w.heap.size + 1 := by omega
  clear s1 s2 s3 p1 p2 p3 hW1 bP
  go_enter Try.func17, Try.ntmps17
  go_upto_region 1 with fail
  rw [← HW1.out]
  go_region_held3 (fun w' => w'.cell? ⟨w.heap.size, 0, none⟩ = some (.slice na p.name.length nc) ∧ w'.cell? ⟨w.heap.size, 1, none⟩ = some (.slice ka p.key.length kc) ∧ w'.cell? ⟨w.heap.size, 2, none⟩ = some (.bool p.gone) ∧ w'.cell? ⟨w.heap.size, 3, none⟩ = some (.slice va p.value.length vc))
    (first | with_reducible exact ⟨e0, e1, e2, e3⟩ | with_reducible exact ⟨f0, f1, f2, f3⟩ | with_reducible exact ⟨g0, g1, g2, g3⟩ | with_reducible exact ⟨h0, h1, h2, h3⟩ | (refine ⟨?_, ?_, ?_, ?_⟩ <;> (rw [World.cell?_setCell_other _ _ _ _ (by intro e; injection e with e1 e2; omega), World.cell?_setCell_other _ _ _ _ (by intro e; injection e with e1 e2; omega), World.cell?_setCell_other _ _ _ _ (by intro e; injection e with e1 e2; omega), World.cell?_setCell_other _ _ _ _ (by intro e; injection e with e1 e2; omega)]; assumption)))
    (first
      | (go_at_call_of 44 (Value.slice na p.name.length nc); with_reducible refine (J1.out _ hgd).mono ?_; rintro e w2 ⟨v2, rfl, ho2, hg2⟩; obtain ⟨xa, xc, rfl⟩ := ho2.shape; have hgd2 := grown_trans hgd hg2; have f0 := hgd2.cell a0 (by simp); have f1 := hgd2.cell a1 (by simp); have f2 := hgd2.cell a2 (by simp); have f3 := hgd2.cell a3 (by simp))
      | (go_at_call_of 44 (Value.slice ka p.key.length kc); with_reducible refine (J2.out _ hgd2).mono ?_; rintro e w3 ⟨v3, rfl, ho3, hg3⟩; obtain ⟨ya, yc, rfl⟩ := ho3.shape; have hgd3 := grown_trans hgd2 hg3; have g0 := hgd3.cell a0 (by simp); have g1 := hgd3.cell a1 (by simp); have g2 := hgd3.cell a2 (by simp); have g3 := hgd3.cell a3 (by simp))
      | (go_at_call_of 44 (Value.slice va p.value.length vc); with_reducible refine (J3.out _ hgd3).mono ?_; rintro e w4 ⟨v4, rfl, ho4, hg4⟩; obtain ⟨za, zc, rfl⟩ := ho4.shape; have hgd4 := grown_trans hgd3 hg4; have h0 := hgd4.cell a0 (by simp); have h1 := hgd4.cell a1 (by simp); have h2 := hgd4.cell a2 (by simp); have h3 := hgd4.cell a3 (by simp)
         have hR := pair_old hgd4 bR.out
         obtain ⟨⟨y0, y1, y2, y3⟩, k0, k1, k2, k3, _⟩ := quad_room (grown_refl w4 none) hR
         have HR : Hid (w4.heap[w.heap.size + 1]? = some (.cells #[.slice none 0 0, .slice none 0 0, .bool false, .slice none 0 0] 39)) := hR
         clear hR))
  all_goals (
    obtain ⟨q, q0, q1, q2, q3⟩ := quad_set HR.out (.slice xa p.name.length xc) (.slice ya p.key.length yc) (.bool p.gone) (.slice za p.value.length zc)
    obtain ⟨⟨r0, r1, r2, r3⟩, _⟩ := quad_room (grown_refl _ none) q
    have hg := grown_set (grown_set (grown_set (grown_set (grown_refl w4 (some (w.heap.size + 1))) 0 (.slice xa p.name.length xc)) 1 (.slice ya p.key.length yc)) 2 (.bool p.gone)) 3 (.slice za p.value.length zc)
    have hrow : (some (w.heap.size + 1) : Option Nat) = none ∨ ∃ g cur t fz, (some (w.heap.size + 1) : Option Nat) = some g ∧ 0 ≤ g ∧ w4.heap[g]? = some (.cells cur t fz) ∧ t ≠ 5 := .inr ⟨_, _, _, _, rfl, Nat.zero_le _, HR.out, wrT5⟩
    have P1 : Hid (PartIs 0 _ (.slice xa p.name.length xc) p.name) := ((ho2.grownNone (grown_trans hg3 hg4)).part (base := 0)).keptT hg hrow
    have P2 : Hid (PartIs 0 _ (.slice ya p.key.length yc) p.key) := ((ho3.grownNone hg4).part (base := 0)).keptT hg hrow
    have P3 : Hid (PartIs 0 _ (.slice za p.value.length zc) p.value) := (ho4.part (base := 0)).keptT hg hrow
    have hgq := grown_new (grown_trans hgW hgd4) (by omega) hg
    clear ho2 ho3 ho4 hrow
    go_wp2
    refine bodyPost_ret (v := .agg #[.slice xa p.name.length xc, .slice ya p.key.length yc, .bool p.gone, .slice za p.value.length zc]) (by simp [results, Try.results17, go_sem, r0, r1, r2, r3]) rfl ?_
    exact ⟨xa, xc, ya, yc, za, zc, rfl, P1.out, P2.out, P3.out, hgq⟩)
set_option maxRecDepth 100000 in
set_option maxHeartbeats 2000000 in
theorem writes_any (w : World) (v : Value) (l : List Plc) (hv : WritesIs w v l) (hl : FitsW l) :
    Calls Try.prog 97 #[v] w fun e w' => ∃ v', e = .returned v' ∧ OwnW w.heap.size w' v' l ∧ w.grownBy w' none := by
  obtain ⟨a, cap, rfl⟩ := hv.shape
  have hmany := hl.many
  have HF : Hid (FitsW l) := hl
  clear hl
  go_enter Try.func97, Try.ntmps97
  go_wp2_with fail
  go_loopw [3, 4] (fun cv i wr => ∃ m : Nat, m ≤ l.length ∧ i = .int .i64 (m : Int) ∧ OwnW w.heap.size wr cv (l.take m) ∧ w.grownBy wr none) (fun _ i _ => l.length - (intOf i).toNat)
  case atStart => exact ⟨0, by omega, rfl, ownW_nil _ _, grown_refl _ _⟩
  case round =>
    obtain ⟨m, hm, rfl, hown, hg⟩ := hrel
    obtain ⟨ca, ccap, rfl⟩ := hown.shape
    by_cases hlt : m < l.length
    · obtain ⟨b, o, rfl, hat⟩ := hv.at m hlt
      obtain ⟨vn, vk, vv, c1, c2, c3, c4, s1, s2, s3⟩ := hat.grown hg
      have HT : Hid (l.take (m + 1) = l.take m ++ [l.getD m noPlc]) := by
        show _ = _
        rw [List.take_succ_eq_append_getElem hlt]; simp [hlt]
      have hTl : (l.take m).length = m := by simp; omega
      have hpf := HF.out.each m hlt
      generalize l.getD m noPlc = P at *
      generalize l.take m = T at *
      have CP : Hid (Calls Try.prog 17 #[.agg #[vn, vk, .bool P.gone, vv]] wr fun e w' => ∃ na nc ka kc va vc, e = .returned (.agg #[.slice na P.name.length nc, .slice ka P.key.length kc, .bool P.gone, .slice va P.value.length vc]) ∧ PartIs 0 w' (.slice na P.name.length nc) P.name ∧ PartIs 0 w' (.slice ka P.key.length kc) P.key ∧ PartIs 0 w' (.slice va P.value.length vc) P.value ∧ wr.grownBy w' none) := writeCopy_any wr _ P ⟨vn, vk, vv, rfl, s1, s2, s3⟩ hpf
      obtain ⟨a1, k1, rfl⟩ := s1.shape
      obtain ⟨a2, k2, rfl⟩ := s2.shape
      obtain ⟨a3, k3, rfl⟩ := s3.shape
      rw [hTl] at hown ⊢
      have HOW : Hid (OwnW w.heap.size wr (.slice ca m ccap) T) := hown
      have i1 : (m : Int) < (l.length : Int) := by omega
      clear hat s1 s2 s3 hpf hown
      go_wp2_with fail
      refine CP.out.mono ?_
      rintro e w1 ⟨na, nc, ka, kc, va, vc, rfl, h1, h2, h3, hg1⟩
      have hgw1 := grown_trans hg hg1
      have hsz := hgw1.size
      obtain ⟨W2, hW2⟩ : ∃ W2 : World, W2 = w1.alloc (.cells #[.slice na P.name.length nc, .slice ka P.key.length kc, .bool P.gone, .slice va P.value.length vc] 39) := ⟨_, rfl⟩
      have HW2 : Hid (W2 = w1.alloc (.cells #[.slice na P.name.length nc, .slice ka P.key.length kc, .bool P.gone, .slice va P.value.length vc] 39)) := hW2
      have hga : w1.grownBy W2 none := by rw [hW2]; exact World.grownBy_alloc _ _ _
      obtain ⟨⟨y0, y1, y2, y3⟩, _⟩ := quad_room (grown_refl W2 none) (by rw [hW2]; exact heap_alloc_new w1 _ : W2.heap[w1.heap.size]? = some (.cells #[.slice na P.name.length nc, .slice ka P.key.length kc, .bool P.gone, .slice va P.value.length vc] 39))
      have hsz2 := hga.size
      have hg3 := World.grownBy_alloc W2 (.cells #[.slice na P.name.length nc, .slice ka P.key.length kc, .bool P.gone, .slice va P.value.length vc] 39) none
      have hg13 := grown_trans hga hg3
      have HO3 : Hid (OwnW w.heap.size (W2.alloc (.cells #[.slice na P.name.length nc, .slice ka P.key.length kc, .bool P.gone, .slice va P.value.length vc] 39)) (.slice ca m ccap) T) := HOW.out.grownNone (grown_trans hg1 hg13)
      have H1 : Hid (PartIs w.heap.size (W2.alloc (.cells #[.slice na P.name.length nc, .slice ka P.key.length kc, .bool P.gone, .slice va P.value.length vc] 39)) (.slice na P.name.length nc) P.name) := (h1.keptT hg13 (.inl rfl)).mono (Nat.zero_le _)
      have H2 : Hid (PartIs w.heap.size (W2.alloc (.cells #[.slice na P.name.length nc, .slice ka P.key.length kc, .bool P.gone, .slice va P.value.length vc] 39)) (.slice ka P.key.length kc) P.key) := (h2.keptT hg13 (.inl rfl)).mono (Nat.zero_le _)
      have H3 : Hid (PartIs w.heap.size (W2.alloc (.cells #[.slice na P.name.length nc, .slice ka P.key.length kc, .bool P.gone, .slice va P.value.length vc] 39)) (.slice va P.value.length vc) P.value) := (h3.keptT hg13 (.inl rfl)).mono (Nat.zero_le _)
      have hgw3 := grown_trans hgw1 hg13
      have hl80 : (T.length + 1) * 80 ≤ 140737488355328 := by omega
      have hbs : w.heap.size ≤ (W2.alloc (.cells #[.slice na P.name.length nc, .slice ka P.key.length kc, .bool P.gone, .slice va P.value.length vc] 39)).heap.size := hgw3.size
      have HBS : Hid (w.heap.size ≤ (W2.alloc (.cells #[.slice na P.name.length nc, .slice ka P.key.length kc, .bool P.gone, .slice va P.value.length vc] 39)).heap.size) := hbs
      clear hW2 h1 h2 h3 c1 c2 c3 c4 CP hbs
      go_upto_region 6 with fail
      rw [← HW2.out]
      go_wp2_with (at_builtin; refine wpList_append_wr rfl _ _ rfl w.heap.size (.slice ca m ccap) T rfl HO3.out (.slice na P.name.length nc) (.slice ka P.key.length kc) (.slice va P.value.length vc) P H1.out H2.out H3.out W2.heap.size (heap_alloc_new W2 _) rfl hl80 HBS.out ?_; intro v4 w4 ho4 hg4)
      have hgw4 : w.grownBy w4 none := grown_ownW hgw3 HO3.out (Nat.le_refl _) hg4
      go_roundw
      case rel => exact ⟨m + 1, by omega, by go_num, by rw [HT.out]; exact ho4, hgw4⟩
      case measure => simp [intOf]; omega
    · obtain rfl : m = l.length := by omega
      rw [List.take_length] at hown
      rw [List.take_length]
      go_wp2
      go_ret
      exact ⟨_, rfl, hown, hg⟩
end Go.Proofs.Ytpmfbfflacbmjaa
