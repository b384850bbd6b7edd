/-
  txn.checkBoth, as it landed.
-/
import Derived.Test.YtpmfbfflacbmjacTxCkP
import Derived.Test.YtpmfbfflacbmjacPart8
import Derived.Test.YtpmfbfflacbmjacPart2
namespace Go.Proofs.Ytpmfbfflacbmjac
open Go.RowKit
set_option maxRecDepth 100000 in
set_option maxHeartbeats 2000000 in
theorem checkBoth_any (w : World) (v u : Value) (l : FL) (t : Tx) (hv : TensIs w v l) (hl : FitsT l) (hu : TxIs w u t) (hf : FitsX t) :
    Calls Try.prog 42 #[v, u] w fun e w' => e = .returned (.int .i64 (ftE l t)) ∧ w.grownBy w' none := by
  obtain ⟨a, cap, rfl⟩ := hv.shape
  obtain ⟨ra, rc, wa, wc, rfl⟩ := hu.agg
  obtain ⟨W1, HW1, hg1, B1⟩ := alloc_namedX w (.cells #[.int .i64 t.start, .slice ra t.reads.length rc, .slice wa t.writes.length wc] 28)
  have FC : Hid (Calls Try.prog 45 #[.slice a l.length cap] W1 fun e w' => e = .returned (.int .i64 (forestE l)) ∧ W1.grownBy w' none) := fcheck_ok W1 _ l (hv.grown hg1) hl
  have TC : Hid (∀ w', W1.grownBy w' none → Calls Try.prog 18 #[.agg #[.int .i64 t.start, .slice ra t.reads.length rc, .slice wa t.writes.length wc]] w' fun e w'' => e = .returned (.int .i64 (txE t)) ∧ w'.grownBy w'' none) := fun w' h => txcheck_ok w' _ t ((hu.grown hg1).grown h) hf
  have HE : Hid (ftE l t = if forestE l = 0 then txE t else forestE l) := rfl
  generalize ftE l t = Z at *
  generalize forestE l = FE at *
  generalize txE t = TE at *
  generalize t.reads.length = n1 at *
  generalize t.writes.length = n2 at *
  generalize t.start = st at *
  clear hv hu hl hf
  by_cases h : FE = 0
  · have HZ : Hid (Z = TE) := by show _ = _; rw [HE.out, if_pos h]
    subst h
    clear HE
    go_enter Try.func42, Try.ntmps42
    go_upto_region 1 with fail
    rw [← HW1.out]
    go_wp2_with fail
    refine FC.out.mono ?_
    rintro e w2 ⟨rfl, hg2⟩
    obtain ⟨c0, c1, c2⟩ := trip_room hg2 B1.out
    go_wp2_with fail
    refine (TC.out _ hg2).mono ?_
    rintro e w3 ⟨rfl, hg3⟩
    go_wp2
    go_ret
    exact ⟨ret_intX HZ.out, grown_trans hg1 (grown_trans hg2 hg3)⟩
  · have HZ : Hid (Z = FE) := by show _ = _; rw [HE.out, if_neg h]
    have h' : (FE != 0) = true := by simpa using h
    clear HE h
    go_enter Try.func42, Try.ntmps42
    go_upto_region 1 with fail
    rw [← HW1.out]
    go_wp2_with fail
    refine FC.out.mono ?_
    rintro e w2 ⟨rfl, hg2⟩
    go_wp2
    go_ret
    exact ⟨ret_intX HZ.out, grown_trans hg1 hg2⟩
end Go.Proofs.Ytpmfbfflacbmjac
