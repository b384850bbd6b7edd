/-
  The walk of canopykeep.KeyLong.
-/
import Derived.Test.YtdpmfekkieblmabCheckC
import Derived.Test.YtdpmfekkieblmabPicked
namespace Go.Proofs.Ytdpmfekkieblmab
open Go.RowKit

set_option maxRecDepth 100000 in
theorem keyLong_walk (hC : CheckOK) (w : World) (n : Int) (h1 : -9223372036854775808 ≤ n) (h2 : n ≤ 9223372036854775807) :
    Calls Try.prog 4 #[.int .i64 n] w fun e w' => e = .returned (.bool true) ∧ w.grownBy w' none := by
  go_enter Try.func4, Try.ntmps4
  go_wp2_with fail
  refine (picked_any n 40 w h1 h2 (by omega) (by omega)).mono ?_
  rintro e w1 ⟨k, rfl, hk, rfl⟩
  have hk2 : k < 40 := by omega
  have hmk := fun W => make_bytes W (k : Int) k rfl (by omega)
  go_wp2_with fail
  clear hmk
  refine (hC _ _ _ _).mono ?_
  rintro e w2 ⟨rfl, hg2⟩
  have g2 := grown_trans (grown_alloc (grown_refl w1 none) _) hg2
  clear hg2
  by_cases hin : 1 ≤ k ∧ k ≤ 16
  · have t1 : (1 : Int) ≤ (k : Int) := by omega
    have t2 : (k : Int) ≤ 16 := by omega
    rw [keyFaultF, if_pos hin]
    go_wp2
    go_ret
    exact ⟨rfl, g2⟩
  · rw [keyFaultF, if_neg hin]
    by_cases h0 : 1 ≤ k
    · have t1 : (1 : Int) ≤ (k : Int) := by omega
      have t2 : ¬ (k : Int) ≤ 16 := by omega
      have HT : Hid (decide ((k : Int) ≤ 16) = false) := decide_eq_false t2
      go_wp2
      go_ret
      refine ⟨?_, g2⟩
      show Ending.returned (.bool (!decide ((k : Int) ≤ 16))) = _
      rw [HT.out]
      rfl
    · have t1 : ¬ (1 : Int) ≤ (k : Int) := by omega
      go_wp2
      go_ret
      exact ⟨rfl, g2⟩
end Go.Proofs.Ytdpmfekkieblmab
