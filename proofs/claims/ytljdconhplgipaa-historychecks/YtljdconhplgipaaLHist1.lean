/-
  The walks of canopylaw.HistoryChecks and HistoryFolds, over what the code must keep.
-/
import Derived.Test.YtljdconhplgipaaRHist
import Derived.Test.YtljdconhplgipaaLCommits
import Derived.Test.YtljdconhplgipaaPart5
import Derived.Test.YtljdconhplgipaaLSameT
import Derived.Test.YtljdconhplgipaaPart16
namespace Go.Proofs.Ytljdconhplgipaa
open Go.RowKit
set_option maxRecDepth 100000 in
theorem historyChecks_walk (hE : HsCheckOK) (w : World) (v : Value) (l : List Cmt) (hv : CommitsIs w v l) (hl : FitsCs l) :
    Calls Try.prog 3 #[v] w fun e w' => e = .returned (.bool true) ∧ w.grownBy w' none := by
  obtain ⟨a, cap, rfl⟩ := hv.shape
  have CM : Hid (Calls Try.prog 8 #[.slice a l.length cap] w fun e w' => ∃ v', e = .returned v' ∧ OwnC w.heap.size w' v' l ∧ w.grownBy w' none) := commits_any w _ l hv hl
  have EN : Hid (∀ w' x, CommitsIs w' x l → Calls Try.prog 7 #[x] w' fun e w'' => e = .returned (.int .i64 (histE l)) ∧ w'.grownBy w'' none) := fun w' x h => hE w' x l h hl
  have CB : Hid (∀ w', w.grownBy w' none → Calls Try.prog 9 #[.slice a l.length cap] w' fun e w'' => e = .returned (.int .i64 (histE l)) ∧ w'.grownBy w'' none) := fun w' h => historyFault_any w' _ l (hv.grown h) hl
  generalize histE l = E at *
  have hEE : (E == E) = true := by simp
  clear hv hl hE
  go_enter Try.func3, Try.ntmps3
  go_wp2_with fail
  refine CM.out.mono ?_
  rintro e w1 ⟨x, rfl, h1, hg1⟩
  go_wp2_with fail
  refine (EN.out _ _ h1.list).mono ?_
  rintro e w2 ⟨rfl, hg2⟩
  have hg12 := grown_trans hg1 hg2
  go_wp2_with fail
  refine (CB.out _ hg12).mono ?_
  rintro e w3 ⟨rfl, hg3⟩
  go_wp2
  go_ret
  exact ⟨rfl, grown_trans hg12 hg3⟩
set_option maxRecDepth 100000 in
theorem historyFolds_walk (hE : HsFoldOK) (w : World) (v : Value) (l : List Cmt) (turn : Int) (hv : CommitsIs w v l) (hl : FitsCs l) (ht0 : -9223372036854775808 ≤ turn) (ht1 : turn ≤ 9223372036854775807) :
    Calls Try.prog 4 #[v, .int .i64 turn] w fun e w' => e = .returned (.bool true) ∧ w.grownBy w' none := by
  obtain ⟨a, cap, rfl⟩ := hv.shape
  have hmany := hl.many
  have hFF := foldT_forest l turn
  have CM : Hid (Calls Try.prog 8 #[.slice a l.length cap] w fun e w' => ∃ v', e = .returned v' ∧ OwnC w.heap.size w' v' l ∧ w.grownBy w' none) := commits_any w _ l hv hl
  have EN : Hid (∀ w' x, CommitsIs w' x l → Calls Try.prog 10 #[x, .int .i64 turn] w' fun e w'' => ∃ y, e = .returned (.tuple #[y, .int .i64 (foldE l turn)]) ∧ TensIs w'' y (foldT l turn) ∧ w'.grownBy w'' none) := fun w' x h => hE w' x l turn h hl ht0 ht1
  have CB : Hid (∀ w', w.grownBy w' none → Calls Try.prog 11 #[.slice a l.length cap, .int .i64 turn] w' fun e w'' => ∃ y, e = .returned (.tuple #[y, .int .i64 (foldE l turn)]) ∧ TensIs w'' y (foldT l turn) ∧ w'.grownBy w'' none) := fun w' h => foldOf_any w' _ l turn (hv.grown h) hl
  have ST : Hid (∀ w' x y, TensIs w' x (foldT l turn) → TensIs w' y (foldT l turn) → Calls Try.prog 12 #[x, y] w' fun e w'' => e = .returned (.bool true) ∧ w'.grownBy w'' none) := fun w' x y h1 h2 => sameTenants_same w' x y _ h1 h2 hFF.fits
  have SC : Hid (∀ w' x, w.grownBy w' none → CommitsIs w' x l → Calls Try.prog 13 #[x, .slice a l.length cap] w' fun e w'' => e = .returned (.bool true) ∧ w'.grownBy w'' none) := fun w' x h1 h2 => sameCommits_same w' x _ l h2 (hv.grown h1) (by omega) (fun i hi => (hl.each i hi).writes)
  generalize foldE l turn = E at *
  generalize foldT l turn = T at *
  have hEE : (E == E) = true := by simp
  clear hv hl hE hFF
  go_enter Try.func4, Try.ntmps4
  go_wp2_with fail
  refine CM.out.mono ?_
  rintro e w1 ⟨x, rfl, h1, hg1⟩
  obtain ⟨xa, xc, rfl⟩ := h1.shape
  have H1 : Hid (CommitsIs w1 (.slice xa l.length xc) l) := h1.list
  clear h1
  go_wp2_with fail
  refine (EN.out _ _ H1.out).mono ?_
  rintro e w2 ⟨y, rfl, h2, hg2⟩
  obtain ⟨ya, yc, rfl⟩ := h2.shape
  have H2 : Hid (TensIs w2 (.slice ya T.length yc) T) := h2
  have hg12 := grown_trans hg1 hg2
  clear h2
  go_wp2_with fail
  refine (CB.out _ hg12).mono ?_
  rintro e w3 ⟨y3, rfl, h3, hg3⟩
  obtain ⟨za, zc, rfl⟩ := h3.shape
  have H3 : Hid (TensIs w3 (.slice za T.length zc) T) := h3
  have hg13 := grown_trans hg12 hg3
  clear h3
  go_wp2_with fail
  refine (ST.out _ _ _ (H2.out.grown hg3) H3.out).mono ?_
  rintro e w4 ⟨rfl, hg4⟩
  have hg14 := grown_trans hg13 hg4
  go_wp2_with fail
  refine (SC.out _ _ hg14 (H1.out.grown (grown_trans hg2 (grown_trans hg3 hg4)))).mono ?_
  rintro e w5 ⟨rfl, hg5⟩
  go_wp2
  go_ret
  exact ⟨rfl, grown_trans hg14 hg5⟩
end Go.Proofs.Ytljdconhplgipaa
