/-
  The walk of canopylaw.HistoryRoots, over what the code must keep.
-/
import Derived.Test.YtljdconhplgipaaGreatDoorPart27
import Derived.Test.YtljdconhplgipaaGreatDoorPart28
import Derived.Test.YtljdconhplgipaaGreatDoorLSame
namespace Go.Proofs.YtljdconhplgipaaGreatDoor
open Go.RowKit
set_option maxRecDepth 100000 in
theorem historyRoots_walk (hE : HsRootOK) (w : World) (v : Value) (l : List Cmt) (turn : Int) (hv : CommitsIs w v l) (hl : FitsCs l) (ht0 : -9223372036854775808 ≤ turn) (ht1 : turn ≤ 9223372036854775807) (ht : Tabs w) :
    Calls Tryz.prog 3 #[v, .int .i64 turn] w fun e w' => e = .returned (.bool true) ∧ w.grownBy w' none := by
  obtain ⟨a, cap, rfl⟩ := hv.shape
  have CM : Hid (Calls Tryz.prog 5 #[.slice a l.length cap] w fun e w' => ∃ v', e = .returned v' ∧ OwnC w.heap.size w' v' l ∧ w.grownBy w' none) := commits_any w _ l hv hl
  have EN : Hid (∀ w' x, w.grownBy w' none → CommitsIs w' x l → Calls Tryz.prog 4 #[x, .int .i64 turn] w' fun e w'' => ∃ y, e = .returned (.tuple #[y, .int .i64 (foldE l turn)]) ∧ SliceIs w'' y (hrootF l turn) ∧ w'.grownBy w'' none) := fun w' x h0 h => hE w' x l turn h hl ht0 ht1 (ht.grownNone h0)
  have CB : Hid (∀ w', w.grownBy w' none → Calls Tryz.prog 6 #[.slice a l.length cap, .int .i64 turn] w' fun e w'' => ∃ y, e = .returned (.tuple #[y, .int .i64 (foldE l turn)]) ∧ SliceIs w'' y (hrootF l turn) ∧ w'.grownBy w'' none) := fun w' h => historyRoot_any w' _ l turn (hv.grown h) hl
  have SB : Hid (∀ w' x y, SliceIs w' x (hrootF l turn) → SliceIs w' y (hrootF l turn) → Calls Tryz.prog 7 #[x, y] w' fun e w'' => e = .returned (.bool true) ∧ w'' = w') := fun w' x y h1 h2 => by
    have := sameBytes_any w' x y _ _ h1 h2
    rw [decide_eq_true rfl] at this
    exact this
  generalize foldE l turn = E at *
  generalize hrootF l turn = R at *
  have hEE : (E == E) = true := by simp
  clear hv hl hE ht
  go_enter Tryz.func3, Tryz.ntmps3
  go_wp2_with fail
  refine CM.out.mono ?_
  rintro e w1 ⟨x, rfl, h1, hg1⟩
  obtain ⟨xa, xc, rfl⟩ := h1.shape
  have H1 : Hid (CommitsIs w1 (.slice xa l.length xc) l) := h1.list
  clear h1
  go_wp2_with fail
  refine (EN.out _ _ hg1 H1.out).mono ?_
  rintro e w2 ⟨y, rfl, h2, hg2⟩
  obtain ⟨ya, yc, rfl⟩ := h2.shape
  have H2 : Hid (SliceIs w2 (.slice ya R.length yc) R) := h2
  have hg12 := grown_trans hg1 hg2
  clear h2
  go_wp2_with fail
  refine (CB.out _ hg12).mono ?_
  rintro e w3 ⟨y3, rfl, h3, hg3⟩
  obtain ⟨za, zc, rfl⟩ := h3.shape
  have H3 : Hid (SliceIs w3 (.slice za R.length zc) R) := h3
  clear h3
  go_wp2_with fail
  refine (SB.out _ _ _ (H2.out.grown hg3) H3.out).mono ?_
  rintro e w4 ⟨rfl, rfl⟩
  go_wp2
  go_ret
  exact ⟨rfl, grown_trans hg12 hg3⟩
end Go.Proofs.YtljdconhplgipaaGreatDoor
