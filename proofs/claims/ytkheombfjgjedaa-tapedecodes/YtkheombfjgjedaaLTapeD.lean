/-
  The walk of canopylaw.TapeDecodes, over what the code must keep.
-/
import Derived.Test.YtkheombfjgjedaaPart9
import Derived.Test.YtkheombfjgjedaaPart3
import Derived.Test.YtkheombfjgjedaaLCmt
import Derived.Test.YtkheombfjgjedaaLSameC
namespace Go.Proofs.Ytkheombfjgjedaa
open Go.RowKit
theorem dec_fits (b : List UInt8) : FitsW (decC b).writes := by
  by_cases h : decE b = 0
  · have h1 := ((commit_iff _).1 (commit_fixed h).1).2
    refine ⟨by have := h1.1.2; omega, fun i hi => ?_⟩
    have h2 := (writeE_iff _).1 (h1.2 (decC b).writes[i] (List.getElem_mem hi))
    rw [show (decC b).writes[i] = (decC b).writes.getD i noPlc by simp [hi]] at h2
    have h3 : ((decC b).writes.getD i noPlc).value.length ≤ 32 := by
      have := h2.2.2
      split at this
      · rw [this]; simp
      · exact this
    exact ⟨by omega, by omega, by omega⟩
  · rw [decC_bad h]
    exact ⟨by simp [noCmt], fun i hi => by simp [noCmt] at hi⟩
set_option maxRecDepth 100000 in
theorem tapeDecodes_walk (hE : TpDecOK) (w : World) (v : Value) (b : List UInt8) (hv : SliceIs w v b) (hl : b.length ≤ 140737488355328) :
    Calls Try.prog 5 #[v] w fun e w' => e = .returned (.bool true) ∧ w.grownBy w' none := by
  have OC : Hid (Calls Try.prog 16 #[v] w fun e w'' => ∃ v', e = .returned v' ∧ SliceIs w'' v' b ∧ w.grownBy w'' none) := (octets_any w v b hv hl).mono (by rintro e w'' ⟨v', rfl, h1, h2⟩; exact ⟨v', rfl, h1.slice, h2⟩)
  have EN : Hid (∀ w' x, SliceIs w' x b → Calls Try.prog 15 #[x] w' fun e w'' => ∃ y, e = .returned (.tuple #[y, .int .i64 (decE b)]) ∧ CommitIs w'' y (decC b) ∧ w'.grownBy w'' none) := fun w' x h => hE w' x b h hl
  have CB : Hid (∀ w', w.grownBy w' none → Calls Try.prog 17 #[v] w' fun e w'' => ∃ y, e = .returned (.tuple #[y, .int .i64 (decE b)]) ∧ CommitIs w'' y (decC b) ∧ w'.grownBy w'' none) := fun w' h => (commitOf_any w' v b (hv.grown h) hl).mono (by rintro e w'' ⟨vs, rfl, h1, h2⟩; exact ⟨_, rfl, ⟨_, rfl, h1.list⟩, h2⟩)
  have SC : Hid (∀ w' x y, CommitIs w' x (decC b) → CommitIs w' y (decC b) → Calls Try.prog 14 #[x, y] w' fun e w'' => e = .returned (.bool true) ∧ w'.grownBy w'' none) := fun w' x y h1 h2 => sameCommit_same w' x y (decC b) h1 h2 (dec_fits b)
  generalize decE b = E at *
  generalize decC b = C at *
  obtain ⟨va, vc, rfl⟩ := hv.shape
  have hEE : (E == E) = true := by simp
  clear hv hl hE
  go_enter Try.func5, Try.ntmps5
  go_wp2_with fail
  refine OC.out.mono ?_
  rintro e w1 ⟨x1, rfl, h1, hg1⟩
  have HX : Hid (SliceIs w1 x1 b) := h1
  obtain ⟨xa, xc, rfl⟩ := h1.shape
  clear h1
  go_wp2_with fail
  refine (EN.out _ _ HX.out).mono ?_
  rintro e w2 ⟨y2, rfl, h2, hg2⟩
  obtain ⟨ya, yc, rfl⟩ := h2.agg
  obtain ⟨W2, HW2, hgA2, B2⟩ := alloc_named5 w2 (.cells #[.int .i64 C.turn, .slice ya C.writes.length yc] 24)
  have HY : Hid (CommitIs W2 (.agg #[.int .i64 C.turn, .slice ya C.writes.length yc]) C) := h2.grown hgA2
  have hg02 := grown_trans hg1 (grown_trans hg2 hgA2)
  clear h2
  go_upto_region 2 with fail
  rw [← HW2.out]
  go_wp2_with fail
  refine (CB.out _ hg02).mono ?_
  rintro e w3 ⟨y3, rfl, h3, hg3⟩
  obtain ⟨za, zc, rfl⟩ := h3.agg
  obtain ⟨W3, HW3, hgA3, B3⟩ := alloc_named5 w3 (.cells #[.int .i64 C.turn, .slice za C.writes.length zc] 24)
  have HZ : Hid (CommitIs W3 (.agg #[.int .i64 C.turn, .slice za C.writes.length zc]) C) := h3.grown hgA3
  have hg23 := grown_trans hg3 hgA3
  clear h3
  go_upto_region 3 with fail
  rw [← HW3.out]
  obtain ⟨c0, c1, _, _⟩ := pair_room hg23 B2.out
  obtain ⟨d0, d1, _, _⟩ := pair_room (grown_refl W3 none) B3.out
  go_wp2_with fail
  refine (SC.out _ _ _ (HY.out.grown hg23) HZ.out).mono ?_
  rintro e w4 ⟨rfl, hg4⟩
  go_wp2
  go_ret
  exact ⟨rfl, grown_trans hg02 (grown_trans hg23 hg4)⟩
end Go.Proofs.Ytkheombfjgjedaa
