/-
  The walk of canopylaw.TxnChecks, over what the code must keep.
-/
import Derived.Test.YtpmfbfflacbmjaaPart2
import Derived.Test.YtpmfbfflacbmjaaRTx6
import Derived.Test.YtpmfbfflacbmjaaLSameTx
namespace Go.Proofs.Ytpmfbfflacbmjaa
open Go.RowKit
theorem own_tx {rb rb' : Nat} {w : World} {ra wa : Option Addr} {rc wc : Nat} {t : Tx} (h1 : OwnR rb 0 w (.slice ra t.reads.length rc) t.reads) (h2 : OwnV rb' 0 w (.slice wa t.writes.length wc) t.writes) : TxIs w (.agg #[.int .i64 t.start, .slice ra t.reads.length rc, .slice wa t.writes.length wc]) t := ⟨_, _, rfl, h1.list, h2.list⟩
set_option maxRecDepth 100000 in
set_option maxHeartbeats 2000000 in
theorem txnChecks_walk (hC : TxCheckOK) (w : World) (v : Value) (t : Tx) (hv : TxIs w v t) (hf : FitsX t) :
    Calls Try.prog 3 #[v] w fun e w' => e = .returned (.bool true) ∧ w.grownBy w' none := by
  obtain ⟨ra, rc, wa, wc, rfl⟩ := hv.agg
  obtain ⟨W1, HW1, hg1, B1⟩ := alloc_namedX w (.cells #[.int .i64 t.start, .slice ra t.reads.length rc, .slice wa t.writes.length wc] 25)
  obtain ⟨a0, a1, a2⟩ := trip_room (grown_refl W1 none) B1.out
  have HV : Hid (TxIs W1 (.agg #[.int .i64 t.start, .slice ra t.reads.length rc, .slice wa t.writes.length wc]) t) := hv.grown hg1
  have CP : Hid (Calls Try.prog 9 #[.agg #[.int .i64 t.start, .slice ra t.reads.length rc, .slice wa t.writes.length wc]] W1 fun e w' => ∃ ra' rc' wa' wc', e = .returned (.agg #[.int .i64 t.start, .slice ra' t.reads.length rc', .slice wa' t.writes.length wc']) ∧ TxIs w' (.agg #[.int .i64 t.start, .slice ra' t.reads.length rc', .slice wa' t.writes.length wc']) t ∧ W1.grownBy w' none) := by
    refine (txnCopy_any W1 _ t HV.out hf).mono ?_
    rintro e w' ⟨r1, r2, r3, r4, rfl, h1, h2, hg⟩
    exact ⟨r1, r2, r3, r4, rfl, own_tx h1 h2, hg⟩
  have CK : Hid (∀ w' u, TxIs w' u t → Calls Try.prog 10 #[u] w' fun e w'' => e = .returned (.int .i64 (txE t)) ∧ w'.grownBy w'' none) := fun w' u h => hC w' u t h hf
  have TF : Hid (∀ w' u, TxIs w' u t → Calls Try.prog 11 #[u] w' fun e w'' => e = .returned (.int .i64 (txE t)) ∧ w'.grownBy w'' none) := fun w' u h => txnFault_any w' u t h hf
  have ST : Hid (∀ w' u x, TxIs w' u t → TxIs w' x t → Calls Try.prog 12 #[u, x] w' fun e w'' => e = .returned (.bool true) ∧ w'.grownBy w'' none) := fun w' u x h1 h2 => sameTxn_same w' u x t h1 h2 hf
  clear hv hf hC
  generalize txE t = z at *
  generalize t.reads.length = rl at *
  generalize t.writes.length = wl at *
  generalize t.start = st at *
  have hzz : (z == z) = true := by simp
  go_enter Try.func3, Try.ntmps3
  go_upto_region 1 with fail
  rw [← HW1.out]
  obtain ⟨IB, hIB⟩ : ∃ IB, IB = w.heap.size := ⟨_, rfl⟩
  rw [← hIB] at B1 a0 a1 a2 ⊢
  clear hIB
  go_wp2_with fail
  refine CP.out.mono ?_
  rintro e w2 ⟨r1, r2, r3, r4, rfl, h2, hg2⟩
  obtain ⟨W3, HW3, hg3, B3⟩ := alloc_namedX w2 (.cells #[.int .i64 st, .slice r1 rl r2, .slice r3 wl r4] 25)
  have H3 : Hid (TxIs W3 (.agg #[.int .i64 st, .slice r1 rl r2, .slice r3 wl r4]) t) := h2.grown hg3
  have hg13 := grown_trans hg2 hg3
  obtain ⟨b0, b1, b2⟩ := trip_room (grown_refl W3 none) B3.out
  clear h2 a0 a1 a2
  go_upto_region 2 with fail
  rw [← HW3.out]
  obtain ⟨JB, hJB⟩ : ∃ JB, JB = w2.heap.size := ⟨_, rfl⟩
  rw [← hJB] at B3 b0 b1 b2 ⊢
  clear hJB
  go_wp2_with fail
  refine (CK.out _ _ H3.out).mono ?_
  rintro e w4 ⟨rfl, hg4⟩
  obtain ⟨a0, a1, a2⟩ := trip_room (grown_trans hg13 hg4) B1.out
  clear b0 b1 b2
  go_wp2_with fail
  refine (TF.out _ _ (HV.out.grown (grown_trans hg13 hg4))).mono ?_
  rintro e w5 ⟨rfl, hg5⟩
  have hg35 := grown_trans hg4 hg5
  clear a0 a1 a2
  obtain ⟨a0, a1, a2⟩ := trip_room (grown_trans hg13 hg35) B1.out
  obtain ⟨b0, b1, b2⟩ := trip_room hg35 B3.out
  go_wp2_with fail
  refine (ST.out _ _ _ (H3.out.grown hg35) (HV.out.grown (grown_trans hg13 hg35))).mono ?_
  rintro e w6 ⟨rfl, hg6⟩
  go_wp2
  go_ret
  exact ⟨rfl, grown_trans hg1 (grown_trans hg13 (grown_trans hg35 hg6))⟩
end Go.Proofs.Ytpmfbfflacbmjaa
