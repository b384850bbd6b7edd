/-
  The walk of canopylaw.LinesReads, over what the code must keep.
-/
import Derived.Test.YtpefggkhjocanaaDoorPart2
import Derived.Test.YtpefggkhjocanaaDoorRRead10
import Derived.Test.YtpefggkhjocanaaDoorLSameA
namespace Go.Proofs.YtpefggkhjocanaaDoor
open Go.RowKit
theorem readL_len (t : List UInt8) : (readL t).length ≤ 100000 := by
  by_cases h : readE t = 0
  · exact (show_read h).2.2.1
  · have : readL t = [] := by
      unfold readE at h
      unfold readL
      by_cases hl : 2000000 < t.length
      · rw [if_pos hl]
      · rw [if_neg hl] at h ⊢
        exact rdA_err _ _ _ h
    rw [this]; simp
set_option maxRecDepth 100000 in
set_option maxHeartbeats 2000000 in
theorem linesReads_walk (hC : LnReadOK) (w : World) (hWT : LnT w) (S : ByteArray) :
    Calls Tryd.prog 4 #[.string S] w fun e w' => e = .returned (.bool true) ∧ w.grownBy w' none := by
  have hlen := readL_len (tl S)
  have RD : Hid (Calls Tryd.prog 12 #[.string S] w fun e w' => ∃ x, e = .returned (.tuple #[x, .int .i64 (readI (tl S) : Int), .int .i64 (readE (tl S))]) ∧ ActsIs w' x (readL (tl S)) ∧ w.grownBy w' none) := hC w S hWT
  have RR : Hid (∀ w', Calls Tryd.prog 13 #[.string S] w' fun e w'' => ∃ x, e = .returned (.tuple #[x, .int .i64 (readI (tl S) : Int), .int .i64 (readE (tl S))]) ∧ ActsIs w'' x (readL (tl S)) ∧ w'.grownBy w'' none) := fun w' => actsRead_any S w'
  have SA : Hid (∀ w' v u, ActsIs w' v (readL (tl S)) → ActsIs w' u (readL (tl S)) → Calls Tryd.prog 11 #[v, u] w' fun e w'' => e = .returned (.bool true) ∧ w'.grownBy w'' none) := fun w' v u h1 h2 => sameActs_same w' v u _ h1 h2 (by omega)
  generalize readE (tl S) = z at *
  generalize readI (tl S) = i at *
  generalize readL (tl S) = l at *
  have hzz : (z == z) = true := by simp
  clear hC hlen hWT
  go_enter Tryd.func4, Tryd.ntmps4
  go_wp2_with fail
  refine RD.out.mono ?_
  rintro e w1 ⟨x1, rfl, h1, hg1⟩
  have H1 : Hid (ActsIs w1 x1 l) := h1
  obtain ⟨a1, k1, rfl⟩ := h1.shape
  clear h1
  go_wp2_with fail
  refine (RR.out _).mono ?_
  rintro e w2 ⟨x2, rfl, h2, hg2⟩
  have H2 : Hid (ActsIs w2 x2 l) := h2
  have H12 : Hid (ActsIs w2 (.slice a1 l.length k1) l) := H1.out.grown hg2
  obtain ⟨a2, k2, rfl⟩ := h2.shape
  clear h2
  go_wp2_with fail
  refine (SA.out _ _ _ H12.out H2.out).mono ?_
  rintro e w3 ⟨rfl, hg3⟩
  go_wp2
  go_ret
  exact ⟨rfl, grown_trans hg1 (grown_trans hg2 hg3)⟩
end Go.Proofs.YtpefggkhjocanaaDoor
