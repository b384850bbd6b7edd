/-
  Texts of this proof, joined: LSame, LSamePair.
-/
import Derived.Test.YtkkcjnhfbblgiabDoorBase
import Derived.Test.YtkkcjnhfbblgiabDoorPairMem
import Derived.Deep.RegionWith
import Derived.Handy
/-
  The walk of canopylaw.sameBytes.
-/
namespace Go.Proofs.YtkkcjnhfbblgiabDoor
open Go.RowKit
theorem sameBytes_any (w : World) (v1 v2 : Value) (b1 b2 : List UInt8) (h1 : SliceIs w v1 b1) (h2 : SliceIs w v2 b2) :
    Calls Tryd.prog 32 #[v1, v2] w fun e w' => e = .returned (.bool (decide (b1 = b2))) ∧ w' = w := by
  have c1 := conv_bytes w v1 b1 h1
  have c2 := conv_bytes w v2 b2 h2
  go_enter Tryd.func32, Tryd.ntmps32
  go_wp2
  go_ret
  refine ⟨?_, rfl⟩
  have e : ((textOf b1).toList == (textOf b2).toList) = decide (b1 = b2) := by rw [textOf_list, textOf_list]; by_cases h : b1 = b2 <;> simp [h]
  rw [← e]
  rfl
end Go.Proofs.YtkkcjnhfbblgiabDoor

/-
  The walk of canopylaw.samePair.
-/
namespace Go.Proofs.YtkkcjnhfbblgiabDoor
open Go.RowKit
set_option maxRecDepth 100000 in
set_option maxHeartbeats 1000000 in
theorem samePair_any (w : World) (v u : Value) (p q : Pr) (hv : PairIs w v p) (hu : PairIs w u q) :
    Calls Tryd.prog 31 #[v, u] w fun e w' => e = .returned (.bool (decide (p = q))) ∧ w.grownBy w' none := by
  obtain ⟨vk, vv, rfl, s1, s2⟩ := hv
  obtain ⟨uk, uv, rfl, r1, r2⟩ := hu
  obtain ⟨W0, hW0⟩ : ∃ W0 : World, W0 = (w.alloc (.cells #[vk, vv] 27)).alloc (.cells #[uk, uv] 27) := ⟨_, rfl⟩
  have hgW : w.grownBy W0 none := by rw [hW0]; exact grown_alloc (grown_alloc (grown_refl _ _) _) _
  have S1 : Hid (SliceIs W0 vk p.1) := s1.grown hgW
  have S2 : Hid (SliceIs W0 vv p.2) := s2.grown hgW
  have R1 : Hid (SliceIs W0 uk q.1) := r1.grown hgW
  have R2 : Hid (SliceIs W0 uv q.2) := r2.grown hgW
  have HW0 : Hid (W0 = (w.alloc (.cells #[vk, vv] 27)).alloc (.cells #[uk, uv] 27)) := hW0
  have HE : Hid (decide (p = q) = (decide (p.1 = q.1) && decide (p.2 = q.2))) := by
    show _ = _
    by_cases h1 : p.1 = q.1 <;> by_cases h2 : p.2 = q.2 <;> simp [Prod.ext_iff, h1, h2]
  have c1 : W0.cell? ⟨w.heap.size, 0, none⟩ = some vk := by rw [hW0]; simp
  have c2 : W0.cell? ⟨w.heap.size, 1, none⟩ = some vv := by rw [hW0]; simp
  have c3 : W0.cell? ⟨w.heap.size + 1, 0, none⟩ = some uk := by rw [hW0]; simp
  have c4 : W0.cell? ⟨w.heap.size + 1, 1, none⟩ = some uv := by rw [hW0]; simp
  clear s1 s2 r1 r2 hW0
  go_enter Tryd.func31, Tryd.ntmps31
  go_wp2_with fail
  rw [← HW0.out]
  refine (sameBytes_any _ _ _ _ _ S1.out R1.out).mono ?_
  rintro e w1 ⟨rfl, rfl⟩
  cases hb : decide (p.1 = q.1) with
  | true =>
    go_wp2_with fail
    refine (sameBytes_any _ _ _ _ _ S2.out R2.out).mono ?_
    rintro e w1 ⟨rfl, rfl⟩
    go_wp2
    go_ret
    exact ⟨by rw [HE.out, hb]; rfl, hgW⟩
  | false =>
    go_wp2
    go_ret
    exact ⟨by rw [HE.out, hb]; rfl, hgW⟩
end Go.Proofs.YtkkcjnhfbblgiabDoor
