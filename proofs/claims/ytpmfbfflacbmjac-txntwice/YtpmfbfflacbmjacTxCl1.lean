/-
  txn.clonedRead, txn.clonedWrite, txn.cloned, as they landed: new memory.
-/
import Derived.Test.YtpmfbfflacbmjacPart2
import Derived.Test.YtpmfbfflacbmjacCloneP
import Derived.Deep.RegionHeld3
import Derived.Deep.RegionWith
import Derived.Handy
namespace Go.Proofs.Ytpmfbfflacbmjac
open Go.RowKit
set_option maxRecDepth 100000 in
set_option maxHeartbeats 2000000 in
theorem clonedWrite_any (w : World) (v : Value) (p : Plc) (hv : WriteIs w v p) (hp : PlcFits p) :
    Calls Try.prog 49 #[v] w fun e w' => ∃ na nc ka kc va vc, e = .returned (.agg #[.slice na p.name.length nc, .slice ka p.key.length kc, .bool p.gone, .slice va p.value.length vc]) ∧ PartIs 0 w' (.slice na p.name.length nc) p.name ∧ PartIs 0 w' (.slice ka p.key.length kc) p.key ∧ PartIs 0 w' (.slice va p.value.length vc) p.value ∧ w.grownBy w' none := by
  obtain ⟨vn, vk, vv, rfl, s1, s2, s3⟩ := hv
  obtain ⟨p1, p2, p3⟩ := hp
  obtain ⟨na, nc, rfl⟩ := s1.shape
  obtain ⟨ka, kc, rfl⟩ := s2.shape
  obtain ⟨va, vc, rfl⟩ := s3.shape
  obtain ⟨W1, hW1⟩ : ∃ W1 : World, W1 = (w.alloc (.cells #[.slice na p.name.length nc, .slice ka p.key.length kc, .bool p.gone, .slice va p.value.length vc] 53)).alloc (.cells #[.slice none 0 0, .slice none 0 0, .bool false, .slice none 0 0] 53) := ⟨_, rfl⟩
  have hgW : w.grownBy W1 none := by rw [hW1]; exact grown_alloc (World.grownBy_alloc _ _ _) _
  have HW1 : Hid (W1 = (w.alloc (.cells #[.slice na p.name.length nc, .slice ka p.key.length kc, .bool p.gone, .slice va p.value.length vc] 53)).alloc (.cells #[.slice none 0 0, .slice none 0 0, .bool false, .slice none 0 0] 53)) := hW1
  have bP : W1.heap[w.heap.size]? = some (.cells #[.slice na p.name.length nc, .slice ka p.key.length kc, .bool p.gone, .slice va p.value.length vc] 53) := by
    rw [hW1]; exact pair_old (World.grownBy_alloc _ _ _) (heap_alloc_new w _)
  have bR : Hid (W1.heap[w.heap.size + 1]? = some (.cells #[.slice none 0 0, .slice none 0 0, .bool false, .slice none 0 0] 53)) := by
    have := heap_alloc_new (w.alloc (.cells #[.slice na p.name.length nc, .slice ka p.key.length kc, .bool p.gone, .slice va p.value.length vc] 53)) (.cells #[.slice none 0 0, .slice none 0 0, .bool false, .slice none 0 0] 53)
    rw [World.size_alloc] at this
    show _ = _
    rw [hW1]; exact this
  obtain ⟨⟨a0, a1, a2, a3⟩, _⟩ := quad_room (grown_refl W1 none) bP
  have J1 : Hid (∀ w', W1.grownBy w' none → Calls Try.prog 44 #[.slice na p.name.length nc] w' fun e w'' => ∃ v', e = .returned v' ∧ Own w'.heap.size w'' v' p.name ∧ w'.grownBy w'' none) := fun w' hg' => clone_any w' _ p.name (s1.grown (grown_trans hgW hg')) (by omega)
  have J2 : Hid (∀ w', W1.grownBy w' none → Calls Try.prog 44 #[.slice ka p.key.length kc] w' fun e w'' => ∃ v', e = .returned v' ∧ Own w'.heap.size w'' v' p.key ∧ w'.grownBy w'' none) := fun w' hg' => clone_any w' _ p.key (s2.grown (grown_trans hgW hg')) (by omega)
  have J3 : Hid (∀ w', W1.grownBy w' none → Calls Try.prog 44 #[.slice va p.value.length vc] w' fun e w'' => ∃ v', e = .returned v' ∧ Own w'.heap.size w'' v' p.value ∧ w'.grownBy w'' none) := fun w' hg' => clone_any w' _ p.value (s3.grown (grown_trans hgW hg')) (by omega)
  have hgd := grown_drew (grown_refl W1 none)
  have e0 := hgd.cell a0 (by simp)
  have e1 := hgd.cell a1 (by simp)
  have e2 := hgd.cell a2 (by simp)
  have e3 := hgd.cell a3 (by simp)
  have hne : w.heap.size ≠ w.heap.size + 1 := by omega
  clear s1 s2 s3 p1 p2 p3 hW1 bP
  go_enter Try.func49, Try.ntmps49
  go_upto_region 1 with fail
  rw [← HW1.out]
  go_region_held3 (fun w' => w'.cell? ⟨w.heap.size, 0, none⟩ = some (.slice na p.name.length nc) ∧ w'.cell? ⟨w.heap.size, 1, none⟩ = some (.slice ka p.key.length kc) ∧ w'.cell? ⟨w.heap.size, 2, none⟩ = some (.bool p.gone) ∧ w'.cell? ⟨w.heap.size, 3, none⟩ = some (.slice va p.value.length vc))
    (first | with_reducible exact ⟨e0, e1, e2, e3⟩ | with_reducible exact ⟨f0, f1, f2, f3⟩ | with_reducible exact ⟨g0, g1, g2, g3⟩ | with_reducible exact ⟨h0, h1, h2, h3⟩ | (refine ⟨?_, ?_, ?_, ?_⟩ <;> (rw [World.cell?_setCell_other _ _ _ _ (by intro e; injection e with e1 e2; omega), World.cell?_setCell_other _ _ _ _ (by intro e; injection e with e1 e2; omega), World.cell?_setCell_other _ _ _ _ (by intro e; injection e with e1 e2; omega), World.cell?_setCell_other _ _ _ _ (by intro e; injection e with e1 e2; omega)]; assumption)))
    (first
      | (go_at_call_of 44 (Value.slice na p.name.length nc); with_reducible refine (J1.out _ hgd).mono ?_; rintro e w2 ⟨v2, rfl, ho2, hg2⟩; obtain ⟨xa, xc, rfl⟩ := ho2.shape; have hgd2 := grown_trans hgd hg2; have f0 := hgd2.cell a0 (by simp); have f1 := hgd2.cell a1 (by simp); have f2 := hgd2.cell a2 (by simp); have f3 := hgd2.cell a3 (by simp))
      | (go_at_call_of 44 (Value.slice ka p.key.length kc); with_reducible refine (J2.out _ hgd2).mono ?_; rintro e w3 ⟨v3, rfl, ho3, hg3⟩; obtain ⟨ya, yc, rfl⟩ := ho3.shape; have hgd3 := grown_trans hgd2 hg3; have g0 := hgd3.cell a0 (by simp); have g1 := hgd3.cell a1 (by simp); have g2 := hgd3.cell a2 (by simp); have g3 := hgd3.cell a3 (by simp))
      | (go_at_call_of 44 (Value.slice va p.value.length vc); with_reducible refine (J3.out _ hgd3).mono ?_; rintro e w4 ⟨v4, rfl, ho4, hg4⟩; obtain ⟨za, zc, rfl⟩ := ho4.shape; have hgd4 := grown_trans hgd3 hg4; have h0 := hgd4.cell a0 (by simp); have h1 := hgd4.cell a1 (by simp); have h2 := hgd4.cell a2 (by simp); have h3 := hgd4.cell a3 (by simp)
         have hR := pair_old hgd4 bR.out
         obtain ⟨⟨y0, y1, y2, y3⟩, k0, k1, k2, k3, _⟩ := quad_room (grown_refl w4 none) hR
         have HR : Hid (w4.heap[w.heap.size + 1]? = some (.cells #[.slice none 0 0, .slice none 0 0, .bool false, .slice none 0 0] 53)) := hR
         clear hR))
  all_goals (
    obtain ⟨q, q0, q1, q2, q3⟩ := quad_set HR.out (.slice xa p.name.length xc) (.slice ya p.key.length yc) (.bool p.gone) (.slice za p.value.length zc)
    obtain ⟨⟨r0, r1, r2, r3⟩, _⟩ := quad_room (grown_refl _ none) q
    have hg := grown_set (grown_set (grown_set (grown_set (grown_refl w4 (some (w.heap.size + 1))) 0 (.slice xa p.name.length xc)) 1 (.slice ya p.key.length yc)) 2 (.bool p.gone)) 3 (.slice za p.value.length zc)
    have hrow : (some (w.heap.size + 1) : Option Nat) = none ∨ ∃ g cur t fz, (some (w.heap.size + 1) : Option Nat) = some g ∧ 0 ≤ g ∧ w4.heap[g]? = some (.cells cur t fz) ∧ t ≠ 5 := .inr ⟨_, _, _, _, rfl, Nat.zero_le _, HR.out, wrT5⟩
    have P1 : Hid (PartIs 0 _ (.slice xa p.name.length xc) p.name) := ((ho2.grownNone (grown_trans hg3 hg4)).part (base := 0)).keptT hg hrow
    have P2 : Hid (PartIs 0 _ (.slice ya p.key.length yc) p.key) := ((ho3.grownNone hg4).part (base := 0)).keptT hg hrow
    have P3 : Hid (PartIs 0 _ (.slice za p.value.length zc) p.value) := (ho4.part (base := 0)).keptT hg hrow
    have hgq := grown_new (grown_trans hgW hgd4) (by omega) hg
    clear ho2 ho3 ho4 hrow
    go_wp2
    refine bodyPost_ret (v := .agg #[.slice xa p.name.length xc, .slice ya p.key.length yc, .bool p.gone, .slice za p.value.length zc]) (by simp [results, Try.results49, go_sem, r0, r1, r2, r3]) rfl ?_
    exact ⟨xa, xc, ya, yc, za, zc, rfl, P1.out, P2.out, P3.out, hgq⟩)
set_option maxRecDepth 100000 in
set_option maxHeartbeats 2000000 in
theorem clonedRead_any (w : World) (v : Value) (p : Rd) (hv : ReadIs w v p) (hp : RdFits p) :
    Calls Try.prog 36 #[v] w fun e w' => ∃ na nc ka kc va vc, e = .returned (.agg #[.slice na p.name.length nc, .slice ka p.key.length kc, .bool p.wide, .slice va p.last.length vc]) ∧ PartIs 0 w' (.slice na p.name.length nc) p.name ∧ PartIs 0 w' (.slice ka p.key.length kc) p.key ∧ PartIs 0 w' (.slice va p.last.length vc) p.last ∧ w.grownBy w' none := by
  obtain ⟨vn, vk, vv, rfl, s1, s2, s3⟩ := hv
  obtain ⟨p1, p2, p3⟩ := hp
  obtain ⟨na, nc, rfl⟩ := s1.shape
  obtain ⟨ka, kc, rfl⟩ := s2.shape
  obtain ⟨va, vc, rfl⟩ := s3.shape
  obtain ⟨W1, hW1⟩ : ∃ W1 : World, W1 = (w.alloc (.cells #[.slice na p.name.length nc, .slice ka p.key.length kc, .bool p.wide, .slice va p.last.length vc] 40)).alloc (.cells #[.slice none 0 0, .slice none 0 0, .bool false, .slice none 0 0] 40) := ⟨_, rfl⟩
  have hgW : w.grownBy W1 none := by rw [hW1]; exact grown_alloc (World.grownBy_alloc _ _ _) _
  have HW1 : Hid (W1 = (w.alloc (.cells #[.slice na p.name.length nc, .slice ka p.key.length kc, .bool p.wide, .slice va p.last.length vc] 40)).alloc (.cells #[.slice none 0 0, .slice none 0 0, .bool false, .slice none 0 0] 40)) := hW1
  have bP : W1.heap[w.heap.size]? = some (.cells #[.slice na p.name.length nc, .slice ka p.key.length kc, .bool p.wide, .slice va p.last.length vc] 40) := by
    rw [hW1]; exact pair_old (World.grownBy_alloc _ _ _) (heap_alloc_new w _)
  have bR : Hid (W1.heap[w.heap.size + 1]? = some (.cells #[.slice none 0 0, .slice none 0 0, .bool false, .slice none 0 0] 40)) := by
    have := heap_alloc_new (w.alloc (.cells #[.slice na p.name.length nc, .slice ka p.key.length kc, .bool p.wide, .slice va p.last.length vc] 40)) (.cells #[.slice none 0 0, .slice none 0 0, .bool false, .slice none 0 0] 40)
    rw [World.size_alloc] at this
    show _ = _
    rw [hW1]; exact this
  obtain ⟨⟨a0, a1, a2, a3⟩, _⟩ := quad_room (grown_refl W1 none) bP
  have J1 : Hid (∀ w', W1.grownBy w' none → Calls Try.prog 44 #[.slice na p.name.length nc] w' fun e w'' => ∃ v', e = .returned v' ∧ Own w'.heap.size w'' v' p.name ∧ w'.grownBy w'' none) := fun w' hg' => clone_any w' _ p.name (s1.grown (grown_trans hgW hg')) (by omega)
  have J2 : Hid (∀ w', W1.grownBy w' none → Calls Try.prog 44 #[.slice ka p.key.length kc] w' fun e w'' => ∃ v', e = .returned v' ∧ Own w'.heap.size w'' v' p.key ∧ w'.grownBy w'' none) := fun w' hg' => clone_any w' _ p.key (s2.grown (grown_trans hgW hg')) (by omega)
  have J3 : Hid (∀ w', W1.grownBy w' none → Calls Try.prog 44 #[.slice va p.last.length vc] w' fun e w'' => ∃ v', e = .returned v' ∧ Own w'.heap.size w'' v' p.last ∧ w'.grownBy w'' none) := fun w' hg' => clone_any w' _ p.last (s3.grown (grown_trans hgW hg')) (by omega)
  have hgd := grown_drew (grown_refl W1 none)
  have e0 := hgd.cell a0 (by simp)
  have e1 := hgd.cell a1 (by simp)
  have e2 := hgd.cell a2 (by simp)
  have e3 := hgd.cell a3 (by simp)
  have hne : w.heap.size ≠ w.heap.size + 1 := by omega
  clear s1 s2 s3 p1 p2 p3 hW1 bP
  go_enter Try.func36, Try.ntmps36
  go_upto_region 1 with fail
  rw [← HW1.out]
  go_region_held3 (fun w' => w'.cell? ⟨w.heap.size, 0, none⟩ = some (.slice na p.name.length nc) ∧ w'.cell? ⟨w.heap.size, 1, none⟩ = some (.slice ka p.key.length kc) ∧ w'.cell? ⟨w.heap.size, 2, none⟩ = some (.bool p.wide) ∧ w'.cell? ⟨w.heap.size, 3, none⟩ = some (.slice va p.last.length vc))
    (first | with_reducible exact ⟨e0, e1, e2, e3⟩ | with_reducible exact ⟨f0, f1, f2, f3⟩ | with_reducible exact ⟨g0, g1, g2, g3⟩ | with_reducible exact ⟨h0, h1, h2, h3⟩ | (refine ⟨?_, ?_, ?_, ?_⟩ <;> (rw [World.cell?_setCell_other _ _ _ _ (by intro e; injection e with e1 e2; omega), World.cell?_setCell_other _ _ _ _ (by intro e; injection e with e1 e2; omega), World.cell?_setCell_other _ _ _ _ (by intro e; injection e with e1 e2; omega), World.cell?_setCell_other _ _ _ _ (by intro e; injection e with e1 e2; omega)]; assumption)))
    (first
      | (go_at_call_of 44 (Value.slice na p.name.length nc); with_reducible refine (J1.out _ hgd).mono ?_; rintro e w2 ⟨v2, rfl, ho2, hg2⟩; obtain ⟨xa, xc, rfl⟩ := ho2.shape; have hgd2 := grown_trans hgd hg2; have f0 := hgd2.cell a0 (by simp); have f1 := hgd2.cell a1 (by simp); have f2 := hgd2.cell a2 (by simp); have f3 := hgd2.cell a3 (by simp))
      | (go_at_call_of 44 (Value.slice ka p.key.length kc); with_reducible refine (J2.out _ hgd2).mono ?_; rintro e w3 ⟨v3, rfl, ho3, hg3⟩; obtain ⟨ya, yc, rfl⟩ := ho3.shape; have hgd3 := grown_trans hgd2 hg3; have g0 := hgd3.cell a0 (by simp); have g1 := hgd3.cell a1 (by simp); have g2 := hgd3.cell a2 (by simp); have g3 := hgd3.cell a3 (by simp))
      | (go_at_call_of 44 (Value.slice va p.last.length vc); with_reducible refine (J3.out _ hgd3).mono ?_; rintro e w4 ⟨v4, rfl, ho4, hg4⟩; obtain ⟨za, zc, rfl⟩ := ho4.shape; have hgd4 := grown_trans hgd3 hg4; have h0 := hgd4.cell a0 (by simp); have h1 := hgd4.cell a1 (by simp); have h2 := hgd4.cell a2 (by simp); have h3 := hgd4.cell a3 (by simp)
         have hR := pair_old hgd4 bR.out
         obtain ⟨⟨y0, y1, y2, y3⟩, k0, k1, k2, k3, _⟩ := quad_room (grown_refl w4 none) hR
         have HR : Hid (w4.heap[w.heap.size + 1]? = some (.cells #[.slice none 0 0, .slice none 0 0, .bool false, .slice none 0 0] 40)) := hR
         clear hR))
  all_goals (
    obtain ⟨q, q0, q1, q2, q3⟩ := quad_set HR.out (.slice xa p.name.length xc) (.slice ya p.key.length yc) (.bool p.wide) (.slice za p.last.length zc)
    obtain ⟨⟨r0, r1, r2, r3⟩, _⟩ := quad_room (grown_refl _ none) q
    have hg := grown_set (grown_set (grown_set (grown_set (grown_refl w4 (some (w.heap.size + 1))) 0 (.slice xa p.name.length xc)) 1 (.slice ya p.key.length yc)) 2 (.bool p.wide)) 3 (.slice za p.last.length zc)
    have hrow : (some (w.heap.size + 1) : Option Nat) = none ∨ ∃ g cur t fz, (some (w.heap.size + 1) : Option Nat) = some g ∧ 0 ≤ g ∧ w4.heap[g]? = some (.cells cur t fz) ∧ t ≠ 5 := .inr ⟨_, _, _, _, rfl, Nat.zero_le _, HR.out, rdT5⟩
    have P1 : Hid (PartIs 0 _ (.slice xa p.name.length xc) p.name) := ((ho2.grownNone (grown_trans hg3 hg4)).part (base := 0)).keptT hg hrow
    have P2 : Hid (PartIs 0 _ (.slice ya p.key.length yc) p.key) := ((ho3.grownNone hg4).part (base := 0)).keptT hg hrow
    have P3 : Hid (PartIs 0 _ (.slice za p.last.length zc) p.last) := (ho4.part (base := 0)).keptT hg hrow
    have hgq := grown_new (grown_trans hgW hgd4) (by omega) hg
    clear ho2 ho3 ho4 hrow
    go_wp2
    refine bodyPost_ret (v := .agg #[.slice xa p.name.length xc, .slice ya p.key.length yc, .bool p.wide, .slice za p.last.length zc]) (by simp [results, Try.results36, go_sem, r0, r1, r2, r3]) rfl ?_
    exact ⟨xa, xc, ya, yc, za, zc, rfl, P1.out, P2.out, P3.out, hgq⟩)
end Go.Proofs.Ytpmfbfflacbmjac
