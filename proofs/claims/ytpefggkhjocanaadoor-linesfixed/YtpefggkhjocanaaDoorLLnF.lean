/-
  The walk of canopykeep.LinesFixed, over what the code must keep.
-/
import Derived.Test.YtpefggkhjocanaaDoorLnRd
import Derived.Test.YtpefggkhjocanaaDoorLnSh
import Derived.Deep.RegionHeld3
import Derived.Deep.RegionWith
import Derived.Handy
namespace Go.Proofs.YtpefggkhjocanaaDoor
open Go.RowKit
theorem acts_fits {l : List Ac} (h : ∀ a ∈ l, ActOK a) (hl : l.length ≤ 100000) : FitsA l :=
  ⟨by omega, fun i hi => ac_fits (h _ (by rw [show l.getD i noAc = l[i] by simp [hi]]; exact List.getElem_mem hi))⟩
set_option maxRecDepth 100000 in
set_option maxHeartbeats 2000000 in
theorem linesFixed_walk (hR : LnReadOK) (hS : LnShowOK) (w : World) (hWT : LnT w) (S : ByteArray) :
    Calls Tryd.prog 6 #[.string S] w fun e w' => e = .returned (.bool true) ∧ w.grownBy w' none := by
  have RD : Hid (Calls Tryd.prog 12 #[.string S] w fun e w' => ∃ x, e = .returned (.tuple #[x, .int .i64 (readI (tl S) : Int), .int .i64 (readE (tl S))]) ∧ ActsIs w' x (readL (tl S)) ∧ w.grownBy w' none) := hR w S hWT
  by_cases hE : readE (tl S) = 0
  · obtain ⟨h1, h2, h3, h4⟩ := show_read hE
    obtain ⟨s1, s2, s3⟩ := show_ok h2 h3
    have hT : textOf (showT (readL (tl S))) = S := by rw [s3, h4, text_tl]
    have SH : Hid (∀ w' v', w.grownBy w' none → ActsIs w' v' (readL (tl S)) → Calls Tryd.prog 9 #[v'] w' fun e w'' => e = .returned (.tuple #[.string S, .int .i64 0, .int .i64 0]) ∧ w'.grownBy w'' none) := fun w' v' hg h => by
      have := hS w' v' _ (hWT.grown hg).toWrdT h (acts_fits h2 h3)
      rw [s1, s2, hT] at this
      exact this
    rw [hE, h1] at RD
    generalize readL (tl S) = l at *
    clear hE h1 h2 h3 h4 s1 s2 s3 hT hR hS hWT
    go_enter Tryd.func6, Tryd.ntmps6
    go_wp2_with fail
    refine RD.out.mono ?_
    rintro e w1 ⟨x1, rfl, hx1, hg1⟩
    have H1 : Hid (ActsIs w1 x1 l) := hx1
    obtain ⟨a1, k1, rfl⟩ := hx1.shape
    clear hx1
    go_wp2_with fail
    refine (SH.out _ _ hg1 H1.out).mono ?_
    rintro e w2 ⟨rfl, hg2⟩
    go_wp2
    go_ret
    exact ⟨rfl, grown_trans hg1 hg2⟩
  · have hL : readL (tl S) = [] := read_err hE
    rw [hL] at RD
    generalize readE (tl S) = z at *
    generalize readI (tl S) = i at *
    have i0 : (0 : Int) ≤ (i : Int) := by omega
    clear hL hR hS hWT
    go_enter Tryd.func6, Tryd.ntmps6
    go_wp2_with fail
    refine RD.out.mono ?_
    rintro e w1 ⟨x1, rfl, hx1, hg1⟩
    obtain ⟨a1, k1, rfl⟩ := hx1.shape
    clear hx1
    go_wp2
    go_ret
    exact ⟨by simp, hg1⟩
end Go.Proofs.YtpefggkhjocanaaDoor
