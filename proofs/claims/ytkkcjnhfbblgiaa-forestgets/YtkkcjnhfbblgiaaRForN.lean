/-
  The walks of the document's answer to P5: forestAndName.
-/
import Derived.Test.YtkkcjnhfbblgiaaRForF
import Derived.Test.YtkkcjnhfbblgiaaRPsOf
import Derived.Test.YtkkcjnhfbblgiaaPart1
namespace Go.Proofs.Ytkkcjnhfbblgiaa
open Go.RowKit
set_option maxRecDepth 100000 in
set_option maxHeartbeats 1000000 in
theorem forestAndName_any (w : World) (v : Value) (l : FL) (a : Option Addr) (k : List UInt8) (cap : Nat) (hv : TensIs w v l) :
    Calls Try.prog 33 #[v, .slice a k.length cap] w fun e w' => e = .returned (.int .i64 (fnE l k)) ∧ w.grownBy w' none := by
  have FF : Hid (Calls Try.prog 13 #[v] w fun e w' => e = .returned (.int .i64 (forestE l)) ∧ w.grownBy w' none) := forestFault_any w v l hv
  by_cases h : forestE l = 0
  · rw [fnE, if_pos h]
    rw [h] at FF
    generalize k.length = n at *
    clear hv h
    go_enter Try.func33, Try.ntmps33
    go_wp2_with fail
    refine FF.out.mono ?_
    rintro e w1 ⟨rfl, hg1⟩
    go_wp2_with fail
    refine (nameFault_any _ _ _ _).mono ?_
    rintro e w2 ⟨rfl, rfl⟩
    go_wp2
    go_ret
    exact ⟨rfl, hg1⟩
  · rw [fnE, if_neg h]
    generalize forestE l = z at *
    have hz : (z == 0) = false := by simpa using h
    clear hv
    go_enter Try.func33, Try.ntmps33
    go_wp2_with fail
    refine FF.out.mono ?_
    rintro e w1 ⟨rfl, hg1⟩
    go_wp2
    go_ret
    exact ⟨rfl, hg1⟩
end Go.Proofs.Ytkkcjnhfbblgiaa
