/-
  The walk of canopylaw.LinesChecks, over what the code must keep.
-/
import Derived.Test.YtpefggkhjocanaaLnCk
import Derived.Test.YtpefggkhjocanaaRAct1
namespace Go.Proofs.Ytpefggkhjocanaa
open Go.RowKit
set_option maxRecDepth 100000 in
set_option maxHeartbeats 2000000 in
theorem linesChecks_walk (hC : LnCheckOK) (w : World) (v : Value) (a : Ac) (hv : AcIs w v a) (hf : AcFits a) :
    Calls Try.prog 3 #[v] w fun e w' => e = .returned (.bool true) ∧ w.grownBy w' none := by
  obtain ⟨da, dc, rfl, _⟩ := hv.agg
  obtain ⟨W0, HW0, hg0, B0⟩ := alloc_namedR w (.cells #[.int .i64 a.kind, .int .i64 a.sess, .int .i64 a.keep, .slice da a.data.length dc] 24)
  obtain ⟨⟨c0, c1, c2, c3⟩, _⟩ := quad_room (grown_refl W0 none) B0.out
  have CK : Hid (Calls Try.prog 4 #[.agg #[.int .i64 a.kind, .int .i64 a.sess, .int .i64 a.keep, .slice da a.data.length dc]] W0 fun e w' => e = .returned (.int .i64 (actE a)) ∧ W0.grownBy w' none) := hC W0 _ a (hv.grown hg0) hf
  have RF : Hid (∀ w', W0.grownBy w' none → Calls Try.prog 5 #[.agg #[.int .i64 a.kind, .int .i64 a.sess, .int .i64 a.keep, .slice da a.data.length dc]] w' fun e w'' => e = .returned (.int .i64 (actE a)) ∧ w'.grownBy w'' none) := fun w' h => actFault_any w' _ a (hv.grown (grown_trans hg0 h)) hf
  generalize actE a = z at *
  have hzz : (z == z) = true := by simp
  clear hv hf hC
  generalize a.kind = K at *
  generalize a.sess = s at *
  generalize a.keep = q at *
  generalize a.data.length = n at *
  go_enter Try.func3, Try.ntmps3
  go_upto_region 1 with fail
  rw [← HW0.out]
  obtain ⟨IB, hIB⟩ : ∃ IB, IB = w.heap.size := ⟨_, rfl⟩
  rw [← hIB] at B0 c0 c1 c2 c3 ⊢
  clear hIB HW0
  go_wp2_with fail
  refine CK.out.mono ?_
  rintro e w1 ⟨rfl, hg1⟩
  clear c0 c1 c2 c3
  obtain ⟨⟨c0, c1, c2, c3⟩, _⟩ := quad_room hg1 B0.out
  go_wp2_with fail
  refine (RF.out _ hg1).mono ?_
  rintro e w2 ⟨rfl, hg2⟩
  go_wp2
  go_ret
  exact ⟨rfl, grown_trans hg0 (grown_trans hg1 hg2)⟩
end Go.Proofs.Ytpefggkhjocanaa
