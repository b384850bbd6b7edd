/-
  The walk of canopylaw.TxnClashes, over what the code must keep.
-/
import Derived.Test.YtpmfbfflacbmjaaPart2
import Derived.Test.YtpmfbfflacbmjaaRTx5
import Derived.Test.YtpmfbfflacbmjaaRTx6
import Derived.Test.YtpmfbfflacbmjaaLCommits
namespace Go.Proofs.Ytpmfbfflacbmjaa
open Go.RowKit
theorem own_tx2 {rb rb' : Nat} {w : World} {ra wa : Option Addr} {rc wc : Nat} {t : Tx} (h1 : OwnR rb 0 w (.slice ra t.reads.length rc) t.reads) (h2 : OwnV rb' 0 w (.slice wa t.writes.length wc) t.writes) : TxIs w (.agg #[.int .i64 t.start, .slice ra t.reads.length rc, .slice wa t.writes.length wc]) t := ⟨_, _, rfl, h1.list, h2.list⟩
set_option maxRecDepth 100000 in
set_option maxHeartbeats 2000000 in
theorem txnClashes_walk (hC : TxClashOK) (w : World) (v u : Value) (t : Tx) (l : List Cmt) (hv : TxIs w v t) (hf : FitsX t) (hu : CommitsIs w u l) (hl : FitsCs l) :
    Calls Try.prog 8 #[v, u] w fun e w' => e = .returned (.bool true) ∧ w.grownBy w' none := by
  obtain ⟨ra, rc, wa, wc, rfl⟩ := hv.agg
  obtain ⟨ca, cc, rfl⟩ := hu.shape
  obtain ⟨W1, HW1, hg1, B1⟩ := alloc_namedX w (.cells #[.int .i64 t.start, .slice ra t.reads.length rc, .slice wa t.writes.length wc] 25)
  obtain ⟨a0, a1, a2⟩ := trip_room (grown_refl W1 none) B1.out
  have HV : Hid (TxIs W1 (.agg #[.int .i64 t.start, .slice ra t.reads.length rc, .slice wa t.writes.length wc]) t) := hv.grown hg1
  have CP : Hid (Calls Try.prog 9 #[.agg #[.int .i64 t.start, .slice ra t.reads.length rc, .slice wa t.writes.length wc]] W1 fun e w' => ∃ ra' rc' wa' wc', e = .returned (.agg #[.int .i64 t.start, .slice ra' t.reads.length rc', .slice wa' t.writes.length wc']) ∧ TxIs w' (.agg #[.int .i64 t.start, .slice ra' t.reads.length rc', .slice wa' t.writes.length wc']) t ∧ W1.grownBy w' none) := by
    refine (txnCopy_any W1 _ t HV.out hf).mono ?_
    rintro e w' ⟨r1, r2, r3, r4, rfl, h1, h2, hg⟩
    exact ⟨r1, r2, r3, r4, rfl, own_tx2 h1 h2, hg⟩
  have CC : Hid (∀ w', W1.grownBy w' none → Calls Try.prog 29 #[.slice ca l.length cc] w' fun e w'' => ∃ sa sc, e = .returned (.slice sa l.length sc) ∧ CommitsIs w'' (.slice sa l.length sc) l ∧ w'.grownBy w'' none) := fun w' h => by
    refine (commits_any w' _ l (hu.grown (grown_trans hg1 h)) hl).mono ?_
    rintro e w'' ⟨x, rfl, hx, hg⟩
    have hx' := hx.list
    obtain ⟨sa, sc, rfl⟩ := hx'.shape
    exact ⟨sa, sc, rfl, hx', hg⟩
  have CL : Hid (∀ w' x y, TxIs w' x t → CommitsIs w' y l → Calls Try.prog 28 #[x, y] w' fun e w'' => e = .returned (.tuple #[.bool (clashB t l), .int .i64 (clashE t)]) ∧ w'.grownBy w'' none) := fun w' x y h1 h2 => hC w' x y t l h1 hf h2 hl
  have CR : Hid (∀ w', W1.grownBy w' none → Calls Try.prog 30 #[.agg #[.int .i64 t.start, .slice ra t.reads.length rc, .slice wa t.writes.length wc], .slice ca l.length cc] w' fun e w'' => e = .returned (.tuple #[.bool (clashB t l), .int .i64 (clashE t)]) ∧ w'.grownBy w'' none) := fun w' h => clashes_any w' _ _ t l (HV.out.grown h) hf (hu.grown (grown_trans hg1 h)) hl
  clear hv hf hC hu hl
  generalize clashB t l = zb at *
  generalize clashE t = z at *
  generalize t.reads.length = rl at *
  generalize t.writes.length = wl at *
  generalize t.start = st at *
  have hzz : (z == z) = true := by simp
  have hbb : (zb == zb) = true := by simp
  go_enter Try.func8, Try.ntmps8
  go_upto_region 1 with fail
  rw [← HW1.out]
  obtain ⟨IB, hIB⟩ : ∃ IB, IB = w.heap.size := ⟨_, rfl⟩
  rw [← hIB] at B1 a0 a1 a2 ⊢
  clear hIB
  go_wp2_with fail
  refine CP.out.mono ?_
  rintro e w2 ⟨r1, r2, r3, r4, rfl, h2, hg2⟩
  have H2 : Hid (TxIs w2 (.agg #[.int .i64 st, .slice r1 rl r2, .slice r3 wl r4]) t) := h2
  clear h2 a0 a1 a2
  go_wp2_with fail
  refine (CC.out _ hg2).mono ?_
  rintro e w3 ⟨sa, sc, rfl, h3, hg3⟩
  have H3 : Hid (CommitsIs w3 (.slice sa l.length sc) l) := h3
  clear h3
  go_wp2_with fail
  refine (CL.out _ _ _ (H2.out.grown hg3) H3.out).mono ?_
  rintro e w4 ⟨rfl, hg4⟩
  have hg14 := grown_trans hg2 (grown_trans hg3 hg4)
  obtain ⟨a0, a1, a2⟩ := trip_room hg14 B1.out
  go_wp2_with fail
  refine (CR.out _ hg14).mono ?_
  rintro e w5 ⟨rfl, hg5⟩
  clear a0 a1 a2
  cases zb
  all_goals
    go_wp2
    go_ret
    exact ⟨rfl, grown_trans hg1 (grown_trans hg14 hg5)⟩
end Go.Proofs.Ytpmfbfflacbmjaa
