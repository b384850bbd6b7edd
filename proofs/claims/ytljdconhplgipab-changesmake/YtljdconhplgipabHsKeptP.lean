/-
  history.Kept, as it landed, keeps P7.4.
-/
import Derived.Test.YtljdconhplgipabPart9
namespace Go.Proofs.Ytljdconhplgipab
open Go.RowKit
set_option maxRecDepth 100000 in
set_option maxHeartbeats 2000000 in
theorem hskept_ok : HsKeptOK := by
  intro w n t hn0 hn1 ht0 ht1
  by_cases h0 : t ≥ 0
  · by_cases h1 : t ≤ n
    · have i0 : IntKind.i64.wrap (n - t) = n - t := by rw [IntKind.wrap_i64]; omega
      by_cases h2 : n - t < 6
      · have hk : keptF n t = true := by rw [keptF, decide_eq_true_iff]; omega
        rw [hk]
        go_enter Try.func14, Try.ntmps14
        go_wp2
        go_ret
        exact ⟨rfl, grown_refl _ _⟩
      · have hk : keptF n t = false := by rw [keptF, decide_eq_false_iff_not]; omega
        rw [hk]
        go_enter Try.func14, Try.ntmps14
        go_wp2
        go_ret
        exact ⟨rfl, grown_refl _ _⟩
    · have hk : keptF n t = false := by rw [keptF, decide_eq_false_iff_not]; omega
      rw [hk]
      go_enter Try.func14, Try.ntmps14
      go_wp2
      go_ret
      exact ⟨rfl, grown_refl _ _⟩
  · have hk : keptF n t = false := by rw [keptF, decide_eq_false_iff_not]; omega
    rw [hk]
    go_enter Try.func14, Try.ntmps14
    go_wp2
    go_ret
    exact ⟨rfl, grown_refl _ _⟩
end Go.Proofs.Ytljdconhplgipab
