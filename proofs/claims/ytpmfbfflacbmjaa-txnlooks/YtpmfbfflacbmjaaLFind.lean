/-
  The walk of canopylaw.sameFinding.
-/
import Derived.Test.YtpmfbfflacbmjaaPart2
import Derived.Test.YtpmfbfflacbmjaaLSame
namespace Go.Proofs.Ytpmfbfflacbmjaa
open Go.RowKit
set_option maxRecDepth 100000 in
set_option maxHeartbeats 1000000 in
theorem sameFinding_any (w : World) (f g : Bool) (v u : Value) (a b : List UInt8) (hv : SliceIs w v a) (hu : SliceIs w u b) :
    Calls Try.prog 23 #[.agg #[.bool f, v], .agg #[.bool g, u]] w fun e w' => e = .returned (.bool (f == g && decide (a = b))) ∧ w.grownBy w' none := by
  obtain ⟨W0, hW0⟩ : ∃ W0 : World, W0 = (w.alloc (.cells #[.bool f, v] 45)).alloc (.cells #[.bool g, u] 45) := ⟨_, rfl⟩
  have hgW : w.grownBy W0 none := by rw [hW0]; exact grown_alloc (grown_alloc (grown_refl _ _) _) _
  have S1 : Hid (SliceIs W0 v a) := hv.grown hgW
  have R1 : Hid (SliceIs W0 u b) := hu.grown hgW
  have HW0 : Hid (W0 = (w.alloc (.cells #[.bool f, v] 45)).alloc (.cells #[.bool g, u] 45)) := hW0
  have c1 : W0.cell? ⟨w.heap.size, 1, none⟩ = some v := by rw [hW0]; simp
  have c2 : W0.cell? ⟨w.heap.size + 1, 1, none⟩ = some u := by rw [hW0]; simp
  clear hv hu hW0
  go_enter Try.func23, Try.ntmps23
  cases hb : f == g with
  | true =>
    go_wp2_with fail
    rw [← HW0.out]
    refine (sameBytes_any _ _ _ _ _ S1.out R1.out).mono ?_
    rintro e w1 ⟨rfl, rfl⟩
    go_wp2
    go_ret
    exact ⟨by simp, hgW⟩
  | false =>
    go_wp2_with fail
    rw [← HW0.out]
    go_wp2
    go_ret
    exact ⟨by simp, hgW⟩
end Go.Proofs.Ytpmfbfflacbmjaa
