/-
  The walk of canopylaw.HistoryKepts, over what the code must keep.
-/
import Derived.Test.YtljdconhplgipaaRKept
import Derived.Test.YtljdconhplgipaaHsKept
namespace Go.Proofs.Ytljdconhplgipaa
open Go.RowKit
set_option maxRecDepth 100000 in
theorem historyKepts_walk (hE : HsKeptOK) (w : World) (n t : Int) (hn0 : -9223372036854775808 ≤ n) (hn1 : n ≤ 9223372036854775807) (ht0 : -9223372036854775808 ≤ t) (ht1 : t ≤ 9223372036854775807) :
    Calls Try.prog 5 #[.int .i64 n, .int .i64 t] w fun e w' => e = .returned (.bool true) ∧ w.grownBy w' none := by
  have KE : Hid (Calls Try.prog 14 #[.int .i64 n, .int .i64 t] w fun e w' => e = .returned (.bool (keptF n t)) ∧ w.grownBy w' none) := hE w n t hn0 hn1 ht0 ht1
  have KR : Hid (∀ w', Calls Try.prog 15 #[.int .i64 n, .int .i64 t] w' fun e w'' => e = .returned (.bool (keptF n t)) ∧ w'.grownBy w'' none) := fun w' => keptAt_any w' n t hn1
  generalize keptF n t = Z at *
  clear hE
  go_enter Try.func5, Try.ntmps5
  go_wp2_with fail
  refine KE.out.mono ?_
  rintro e w1 ⟨rfl, hg1⟩
  go_wp2_with fail
  refine (KR.out _).mono ?_
  rintro e w2 ⟨rfl, hg2⟩
  go_wp2
  go_ret
  exact ⟨by simp, grown_trans hg1 hg2⟩
end Go.Proofs.Ytljdconhplgipaa
