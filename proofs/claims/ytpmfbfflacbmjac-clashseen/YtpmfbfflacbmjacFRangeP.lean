/-
  forest.Range, as it landed, keeps P5.3.
-/
import Derived.Test.YtpmfbfflacbmjacPart11
import Derived.Test.YtpmfbfflacbmjacFCkP
import Derived.Test.YtpmfbfflacbmjacTRangeP
import Derived.Test.YtpmfbfflacbmjacPart10
namespace Go.Proofs.Ytpmfbfflacbmjac
open Go.RowKit
set_option maxRecDepth 100000 in
set_option maxHeartbeats 1000000 in
theorem frange_ok' : FRangeOK := by
  intro w v r u t l n k m hv hr hu ht hl hnl hkl hml
  have CP : Hid (Calls Try.prog 29 #[v, r] w fun e w' => ∃ x, e = .returned (.tuple #[x, .int .i64 (fnE l n)]) ∧ (fnE l n = 0 → PairsIs w' x (ofF l n)) ∧ (∃ a n c, x = .slice a n c) ∧ w.grownBy w' none) := checkedPairs_any w v r l n hv hr hl
  obtain ⟨a, cap, rfl⟩ := hv.shape
  obtain ⟨ra, rc, rfl⟩ := hr.shape
  obtain ⟨ka, kcap, rfl⟩ := hu.shape
  obtain ⟨ta, tcap, rfl⟩ := ht.shape
  by_cases hE : fnE l n = 0
  · have hT := of_tree (fnE_forest hE).1 n
    have e1 : frangeE l n k m = rangeE (ofF l n) k m := by rw [frangeE, if_pos hE]
    have e2 : frangeF l n k m = rangeF (ofF l n) k m := by rw [frangeF, if_pos hE]
    rw [e1, e2]
    rw [hE] at CP
    have GT : Hid (∀ w' x, w.grownBy w' none → PairsIs w' x (ofF l n) → Calls Try.prog 30 #[x, .slice ka k.length kcap, .slice ta m.length tcap] w' fun e w'' => ∃ y, e = .returned (.tuple #[y, .int .i64 (rangeE (ofF l n) k m)]) ∧ PairsIs w'' y (rangeF (ofF l n) k m) ∧ w'.grownBy w'' none) := fun w' x hg hx => trange_ok w' x _ _ _ k m hx (hu.grown hg) (ht.grown hg) hT.fits hkl hml
    generalize rangeE (ofF l n) k m = E at *
    generalize rangeF (ofF l n) k m = V at *
    generalize ofF l n = M at *
    clear e1 e2 hE hv hr hu ht hT hl
    go_enter Try.func11, Try.ntmps11
    go_wp2_with fail
    refine CP.out.mono ?_
    rintro e w1 ⟨x, rfl, h1, ⟨xa, xn, xc, rfl⟩, hg1⟩
    have H1 : Hid (PairsIs w1 (.slice xa xn xc) M) := h1 trivial
    clear h1
    go_wp2_with fail
    refine (GT.out _ _ hg1 H1.out).mono ?_
    rintro e w2 ⟨y, rfl, h2, hg2⟩
    obtain ⟨ya, yc, rfl⟩ := h2.shape
    have H2 : Hid (PairsIs w2 (.slice ya V.length yc) V) := h2
    clear h2
    go_wp2
    go_ret2
    exact ⟨_, rfl, H2.out, grown_trans hg1 hg2⟩
  · have e1 : frangeE l n k m = fnE l n := by rw [frangeE, if_neg hE]
    have e2 : frangeF l n k m = [] := by rw [frangeF, if_neg hE]
    rw [e1, e2]
    generalize fnE l n = z at *
    have hz : (z != 0) = true := by simpa using hE
    clear e1 e2 hv hr hu ht hl
    go_enter Try.func11, Try.ntmps11
    go_wp2_with fail
    refine CP.out.mono ?_
    rintro e w1 ⟨x, rfl, h1, ⟨xa, xn, xc, rfl⟩, hg1⟩
    clear h1
    go_wp2
    go_ret2
    exact ⟨_, rfl, pairsIs_nil _, hg1⟩
end Go.Proofs.Ytpmfbfflacbmjac
