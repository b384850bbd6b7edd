/-
  The walk of canopykeep.picked.
-/
import Derived.Test.YtpefggkhjocanaaDoorBase
namespace Go.Proofs.YtpefggkhjocanaaDoor
open Go.RowKit
theorem ret_nat {x : Int} {k : Nat} (h : x = (k : Int)) : Ending.returned (.int .i64 x) = .returned (.int .i64 (k : Int)) := by rw [h]
theorem picked_any (n many : Int) (w : World) (hn0 : -9223372036854775808 ≤ n) (hn1 : n ≤ 9223372036854775807) (h0 : 0 < many) (h1 : many ≤ 2000000) :
    Calls Tryd.prog 16 #[.int .i64 n, .int .i64 many] w fun e w' => ∃ k : Nat, e = .returned (.int .i64 (k : Int)) ∧ (k : Int) < many ∧ w' = w := by
  by_cases hs : n < 0
  · go_enter Tryd.func16, Tryd.ntmps16
    go_wp2
    go_ret
    have e : -(n + 1).tmod many = (-(n + 1)) % many := by rw [← Int.neg_tmod, Int.tmod_eq_emod_of_nonneg (by omega)]
    have b0 := Int.emod_nonneg (-(n + 1)) (show many ≠ 0 by omega)
    have b1 := Int.emod_lt_of_pos (-(n + 1)) h0
    exact ⟨((-(n + 1)) % many).toNat, ret_nat (by rw [e]; omega), by omega, rfl⟩
  · go_enter Tryd.func16, Tryd.ntmps16
    go_wp2
    go_ret
    have b0 := Int.emod_nonneg n (show many ≠ 0 by omega)
    have b1 := Int.emod_lt_of_pos n h0
    exact ⟨(n % many).toNat, ret_nat (by omega), by omega, rfl⟩
end Go.Proofs.YtpefggkhjocanaaDoor
