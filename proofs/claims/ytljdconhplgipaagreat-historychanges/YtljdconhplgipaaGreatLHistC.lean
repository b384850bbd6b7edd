/-
  The walk of canopylaw.HistoryChanges, over what the code must keep.
-/
import Derived.Test.YtljdconhplgipaaGreatRChg4
import Derived.Test.YtljdconhplgipaaGreatPart23
import Derived.Test.YtljdconhplgipaaGreatPart6
import Derived.Test.YtljdconhplgipaaGreatPart4
import Derived.Test.YtljdconhplgipaaGreatPart24
namespace Go.Proofs.YtljdconhplgipaaGreat
open Go.RowKit
theorem chgW_fits (l : List Cmt) (i j : Int) : FitsW (chgW l i j) := by
  unfold chgW
  split
  · have ha := foldT_forest l i
    have hb := foldT_forest l j
    exact writes_fits (by have := changes_len ha hb; omega) fun w hw => change_ok ha hb hw
  · exact writes_fits (by simp) fun w hw => by simp at hw
set_option maxRecDepth 100000 in
theorem historyChanges_walk (hE : HsChgOK) (w : World) (v : Value) (l : List Cmt) (i j : Int) (hv : CommitsIs w v l) (hl : FitsCs l) (hi0 : -9223372036854775808 ≤ i) (hi1 : i ≤ 9223372036854775807) (hj0 : -9223372036854775808 ≤ j) (hj1 : j ≤ 9223372036854775807) :
    Calls Tryz.prog 3 #[v, .int .i64 i, .int .i64 j] w fun e w' => e = .returned (.bool true) ∧ w.grownBy w' none := by
  obtain ⟨a, cap, rfl⟩ := hv.shape
  have hmany := hl.many
  have hFF := chgW_fits l i j
  have CM : Hid (Calls Tryz.prog 4 #[.slice a l.length cap] w fun e w' => ∃ v', e = .returned v' ∧ OwnC w.heap.size w' v' l ∧ w.grownBy w' none) := commits_any w _ l hv hl
  have EN : Hid (∀ w' x, CommitsIs w' x l → Calls Tryz.prog 5 #[x, .int .i64 i, .int .i64 j] w' fun e w'' => ∃ y, e = .returned (.tuple #[y, .int .i64 (chgE l i j)]) ∧ WritesIs w'' y (chgW l i j) ∧ w'.grownBy w'' none) := fun w' x h => hE w' x l i j h hl hi0 hi1 hj0 hj1
  have CB : Hid (∀ w', w.grownBy w' none → Calls Tryz.prog 6 #[.slice a l.length cap, .int .i64 i, .int .i64 j] w' fun e w'' => ∃ y, e = .returned (.tuple #[y, .int .i64 (chgE l i j)]) ∧ WritesIs w'' y (chgW l i j) ∧ w'.grownBy w'' none) := fun w' h => changesOf_any w' _ l i j (hv.grown h) hl
  have ST : Hid (∀ w' x y, WritesIs w' x (chgW l i j) → WritesIs w' y (chgW l i j) → Calls Tryz.prog 7 #[x, y] w' fun e w'' => e = .returned (.bool true) ∧ w'.grownBy w'' none) := fun w' x y h1 h2 => sameWrites_same w' x y _ h1 h2 hFF
  have SC : Hid (∀ w' x, w.grownBy w' none → CommitsIs w' x l → Calls Tryz.prog 8 #[x, .slice a l.length cap] w' fun e w'' => e = .returned (.bool true) ∧ w'.grownBy w'' none) := fun w' x h1 h2 => sameCommits_same w' x _ l h2 (hv.grown h1) (by omega) (fun i hi => (hl.each i hi).writes)
  generalize chgE l i j = E at *
  generalize chgW l i j = T at *
  have hEE : (E == E) = true := by simp
  clear hv hl hE hFF
  go_enter Tryz.func3, Tryz.ntmps3
  go_wp2_with fail
  refine CM.out.mono ?_
  rintro e w1 ⟨x, rfl, h1, hg1⟩
  obtain ⟨xa, xc, rfl⟩ := h1.shape
  have H1 : Hid (CommitsIs w1 (.slice xa l.length xc) l) := h1.list
  clear h1
  go_wp2_with fail
  refine (EN.out _ _ H1.out).mono ?_
  rintro e w2 ⟨y, rfl, h2, hg2⟩
  obtain ⟨ya, yc, rfl⟩ := h2.shape
  have H2 : Hid (WritesIs w2 (.slice ya T.length yc) T) := h2
  have hg12 := grown_trans hg1 hg2
  clear h2
  go_wp2_with fail
  refine (CB.out _ hg12).mono ?_
  rintro e w3 ⟨y3, rfl, h3, hg3⟩
  obtain ⟨za, zc, rfl⟩ := h3.shape
  have H3 : Hid (WritesIs w3 (.slice za T.length zc) T) := h3
  have hg13 := grown_trans hg12 hg3
  clear h3
  go_wp2_with fail
  refine (ST.out _ _ _ (H2.out.grown hg3) H3.out).mono ?_
  rintro e w4 ⟨rfl, hg4⟩
  have hg14 := grown_trans hg13 hg4
  go_wp2_with fail
  refine (SC.out _ _ hg14 (H1.out.grown (grown_trans hg2 (grown_trans hg3 hg4)))).mono ?_
  rintro e w5 ⟨rfl, hg5⟩
  go_wp2
  go_ret
  exact ⟨rfl, grown_trans hg14 hg5⟩
end Go.Proofs.YtljdconhplgipaaGreat
