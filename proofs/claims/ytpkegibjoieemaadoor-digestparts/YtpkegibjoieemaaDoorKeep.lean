/-
  The walks of the helpers of the keeping statements: some, picked.
-/
import Derived.Test.YtpkegibjoieemaaDoorSum
import Derived.Test.YtpkegibjoieemaaDoorOwn
namespace Go.Proofs.YtpkegibjoieemaaDoor
open Go.RowKit
theorem ret_nat {x : Int} {k : Nat} (h : x = (k : Int)) : Ending.returned (.int .i64 x) = .returned (.int .i64 (k : Int)) := by rw [h]
theorem picked_any (n many : Int) (w : World) (hn0 : -9223372036854775808 ≤ n) (hn1 : n ≤ 9223372036854775807) (h0 : 0 < many) (h1 : many ≤ 100000) :
    Calls Tryd.prog 18 #[.int .i64 n, .int .i64 many] w fun e w' => ∃ k : Nat, e = .returned (.int .i64 (k : Int)) ∧ (k : Int) < many ∧ w' = w := by
  by_cases hs : n < 0
  · go_enter Tryd.func18, Tryd.ntmps18
    go_wp2
    go_ret
    have e : -(n + 1).tmod many = (-(n + 1)) % many := by rw [← Int.neg_tmod, Int.tmod_eq_emod_of_nonneg (by omega)]
    have b0 := Int.emod_nonneg (-(n + 1)) (show many ≠ 0 by omega)
    have b1 := Int.emod_lt_of_pos (-(n + 1)) h0
    exact ⟨((-(n + 1)) % many).toNat, ret_nat (by rw [e]; omega), by omega, rfl⟩
  · go_enter Tryd.func18, Tryd.ntmps18
    go_wp2
    go_ret
    have b0 := Int.emod_nonneg n (show many ≠ 0 by omega)
    have b1 := Int.emod_lt_of_pos n h0
    exact ⟨(n % many).toNat, ret_nat (by omega), by omega, rfl⟩
theorem some_any (w : World) (v : Value) (bs : List UInt8) (most : Nat) (hm : most ≤ 100000) (hv : SliceIs w v bs) (hl : bs.length ≤ maxLen) :
    Calls Tryd.prog 17 #[v, .int .i64 (most : Int)] w fun e w' => ∃ v', e = .returned v' ∧ Own w.heap.size w' v' (bs.take most) ∧ w.grownBy w' none := by
  obtain ⟨a, cap, rfl, hc, hrest⟩ := hv
  have hv : SliceIs w (.slice a bs.length cap) bs := ⟨a, cap, rfl, hc, hrest⟩
  clear hrest
  unfold maxLen at hl
  by_cases hlt : bs.length ≤ most
  · have hs := hv.take bs.length (Nat.le_refl _)
    rw [List.take_length] at hs
    rw [List.take_of_length_le hlt]
    have i1 : (bs.length : Int) ≤ (most : Int) := by omega
    go_enter Tryd.func17, Tryd.ntmps17
    go_wp2_with (at_builtin; refine wpList_append_bytes rfl _ _ rfl w.heap.size (.slice none 0 0) [] rfl (own_nil _ _) a bs.length cap bs rfl (by exact hs) (by simp; omega) (Nat.le_refl _) ?_; intro v' w' ho hg)
    go_ret
    exact ⟨v', rfl, ho, hg⟩
  · have hs := hv.take most (by omega)
    have i1 : (most : Int) < (bs.length : Int) := by omega
    go_enter Tryd.func17, Tryd.ntmps17
    go_wp2_with (at_builtin; refine wpList_append_bytes rfl _ _ rfl w.heap.size (.slice none 0 0) [] rfl (own_nil _ _) a most cap _ rfl (by exact hs) (by simp; omega) (Nat.le_refl _) ?_; intro v' w' ho hg)
    go_ret
    exact ⟨v', rfl, ho, hg⟩
end Go.Proofs.YtpkegibjoieemaaDoor
