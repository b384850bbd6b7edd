/-
  The document's answer: lengthAnd.
-/
import Derived.Test.YtghjikifflpeiaaDoorRJoined
import Derived.Test.YtghjikifflpeiaaDoorTapeF
import Derived.Test.YtghjikifflpeiaaDoorSlM
namespace Go.Proofs.YtghjikifflpeiaaDoor
open Go.RowKit
/-- Bytes behind their length. -/
theorem lengthAnd_any (w : World) (v : Value) (p : List UInt8) (hv : SliceIs w v p) (hl : p.length ≤ 100000) :
    Calls Tryd.prog 36 #[v] w fun e w' => ∃ v', e = .returned v' ∧ Own w.heap.size w' v' (lenAnd p) ∧ w.grownBy w' none := by
  obtain ⟨a, cap, rfl⟩ := hv.shape
  obtain ⟨x, hx⟩ : ∃ x : Int, x = ((UInt8.ofNat p.length).toNat : Int) := ⟨_, rfl⟩
  obtain ⟨W0, HW0, hg0, B0⟩ := alloc_namedR w (.cells #[.int .u8 x] 5)
  have s1 : SliceIs W0 (.slice (some ⟨w.heap.size, 0, none⟩) 1 1) [UInt8.ofNat p.length] := by
    rw [HW0.out, hx]; exact one_slice w _ 5
  have JN : Hid (Calls Tryd.prog 37 #[.slice (some ⟨w.heap.size, 0, none⟩) 1 1, .slice a p.length cap] W0 fun e w' => ∃ v', e = .returned v' ∧ Own W0.heap.size w' v' (lenAnd p) ∧ W0.grownBy w' none) := joined_gen W0 _ _ _ _ s1 (hv.grown hg0) (by simp; omega)
  have hcv : IntKind.u8.wrap (p.length : Int) = x := by
    rw [hx]; simp [IntKind.wrap_u8]
  have hsz := hg0.size
  clear hx s1 hv
  go_enter Tryd.func36, Tryd.ntmps36
  go_wp2_with fail
  rw [← HW0.out]
  refine JN.out.mono ?_
  rintro e w1 ⟨v1, rfl, h1, hg1⟩
  go_wp2
  go_ret
  exact ⟨_, rfl, own_mono h1 hsz, grown_trans hg0 hg1⟩
end Go.Proofs.YtghjikifflpeiaaDoor
