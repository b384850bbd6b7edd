/-
  The walk of the document's answer to P5.3: ForestRange.
-/
import Derived.Test.YtpmfbfflacbmjaaPart17
import Derived.Test.YtpmfbfflacbmjaaPart19
namespace Go.Proofs.Ytpmfbfflacbmjaa
open Go.RowKit
set_option maxRecDepth 100000 in
set_option maxHeartbeats 1000000 in
theorem forestRange_any (w : World) (v r u t : Value) (l : FL) (n k m : List UInt8) (hv : TensIs w v l) (hr : SliceIs w r n) (hu : SliceIs w u k) (ht : SliceIs w t m) :
    Calls Try.prog 61 #[v, r, u, t] w fun e w' => ∃ x, e = .returned (.tuple #[x, .int .i64 (frangeE l n k m)]) ∧ PairsIs w' x (frangeF l n k m) ∧ w.grownBy w' none := by
  obtain ⟨ra, rc, rfl⟩ := hr.shape
  have FN : Hid (Calls Try.prog 86 #[v, .slice ra n.length rc] w fun e w' => e = .returned (.int .i64 (fnE l n)) ∧ w.grownBy w' none) := forestAndName_any w v l ra n rc hv
  by_cases hE : fnE l n = 0
  · rw [frangeE, frangeF, if_pos hE, if_pos hE]
    rw [hE] at FN
    have hroom := (fnE_forest hE).1.room
    have PO : Hid (∀ w', w.grownBy w' none → Calls Try.prog 87 #[v, .slice ra n.length rc] w' fun e w'' => ∃ x, e = .returned x ∧ PairsIs w' x (ofF l n) ∧ w'' = w') := fun w' hg => pairsOf_any w' v _ l n (hv.grown hg) (hr.grown hg) hroom
    have RO : Hid (∀ w' x, w.grownBy w' none → PairsIs w' x (ofF l n) → Calls Try.prog 93 #[x, u, t] w' fun e w'' => ∃ y, e = .returned (.tuple #[y, .int .i64 (rangeE (ofF l n) k m)]) ∧ PairsIs w'' y (rangeF (ofF l n) k m) ∧ w'.grownBy w'' none) := fun w' x hg hx => rangeOf_any w' x u t _ k m hx (hu.grown hg) (ht.grown hg)
    generalize rangeF (ofF l n) k m = RF at *
    generalize rangeE (ofF l n) k m = RE at *
    clear hE hroom hv hu hr ht
    go_enter Try.func61, Try.ntmps61
    go_wp2_with fail
    refine FN.out.mono ?_
    rintro e w1 ⟨rfl, hg1⟩
    go_wp2_with fail
    refine (PO.out _ hg1).mono ?_
    rintro e w2 ⟨x, rfl, hx, rfl⟩
    go_wp2_with fail
    refine (RO.out _ _ hg1 hx).mono ?_
    rintro e w3 ⟨y, rfl, hy, hg3⟩
    go_wp2
    go_ret2
    exact ⟨_, rfl, hy, grown_trans hg1 hg3⟩
  · rw [frangeE, frangeF, if_neg hE, if_neg hE]
    generalize fnE l n = z at *
    have hz : (z != 0) = true := by simpa using hE
    clear hv hu hr ht
    go_enter Try.func61, Try.ntmps61
    go_wp2_with fail
    refine FN.out.mono ?_
    rintro e w1 ⟨rfl, hg1⟩
    go_wp2
    go_ret2
    exact ⟨_, rfl, pairsIs_nil _, hg1⟩
end Go.Proofs.Ytpmfbfflacbmjaa
