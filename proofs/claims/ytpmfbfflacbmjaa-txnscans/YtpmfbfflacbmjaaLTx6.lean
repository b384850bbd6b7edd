/-
  The walk of canopylaw.TxnScans, over what the code must keep.
-/
import Derived.Test.YtpmfbfflacbmjaaPart6
import Derived.Test.YtpmfbfflacbmjaaRTx6
import Derived.Test.YtpmfbfflacbmjaaRTx10
import Derived.Test.YtpmfbfflacbmjaaPart22
import Derived.Test.YtpmfbfflacbmjaaPart21
import Derived.Test.YtpmfbfflacbmjaaLSameTx
import Derived.Test.YtpmfbfflacbmjaaPart8
import Derived.Deep.RegionHeld3
namespace Go.Proofs.Ytpmfbfflacbmjaa
open Go.RowKit
theorem own_tx6 {rb rb' : Nat} {w : World} {ra wa : Option Addr} {rc wd : Nat} {t : Tx} (h1 : OwnR rb 0 w (.slice ra t.reads.length rc) t.reads) (h2 : OwnV rb' 0 w (.slice wa t.writes.length wd) t.writes) : TxIs w (.agg #[.int .i64 t.start, .slice ra t.reads.length rc, .slice wa t.writes.length wd]) t := ⟨_, _, rfl, h1.list, h2.list⟩
/-- What is scanned is not great. -/
theorem scanF_small (l : FL) (t : Tx) (n a b : List UInt8) (h : scanE l t n a b = 0) : (scanF l t n a b).length ≤ 60 := by
  have hft : ftE l t = 0 := by
    by_cases e : ftE l t = 0
    · exact e
    · rw [(scan_ft e).1] at h; exact absurd h e
  have hr : frangeE l n a b = 0 := by
    by_cases e : frangeE l n a b = 0
    · exact e
    · rw [(scan_range hft e).1] at h; exact absurd h e
  obtain ⟨hs, hT⟩ := scan_start (t := t) hft hr
  have key : ∀ (ws : List Plc) (X : PL), X.length ≤ 60 → scanEs n a b X ws = 0 → (scanLs n a b X ws).length ≤ 60 := by
    intro ws
    induction ws with
    | nil => intro X hX _; exact hX
    | cons w ws ih =>
      intro X hX he
      rw [scanEs] at he
      by_cases h60 : 60 < (scanN n a b X w).length
      · rw [if_pos h60] at he; omega
      · rw [if_neg h60] at he
        exact ih _ (by omega) he
  rw [scanAt] at hs
  simp only [Prod.mk.injEq] at hs
  rw [← hs.2, if_pos (by rw [hs.1]; exact h)]
  exact key _ _ hT.room (by rw [hs.1]; exact h)
set_option maxRecDepth 100000 in
set_option maxHeartbeats 4000000 in
theorem txnScans_walk (hS : TxScanOK) (w : World) (v u a b c : Value) (l : FL) (t : Tx) (n k m : List UInt8) (hv : TensIs w v l) (hl : FitsT l) (hu : TxIs w u t) (hf : FitsX t) (ha : SliceIs w a n) (hb : SliceIs w b k) (hc : SliceIs w c m) (hn : n.length ≤ 140737488355328) (hk : k.length ≤ 140737488355328) (hm : m.length ≤ 140737488355328) :
    Calls Try.prog 7 #[v, u, a, b, c] w fun e w' => e = .returned (.bool true) ∧ w.grownBy w' none := by
  obtain ⟨la, lc, rfl⟩ := hv.shape
  obtain ⟨ra, rc, wa, wd, rfl⟩ := hu.agg
  obtain ⟨na, nc, rfl⟩ := ha.shape
  obtain ⟨ka, kc, rfl⟩ := hb.shape
  obtain ⟨ma, mc, rfl⟩ := hc.shape
  obtain ⟨W1, HW1, hg1, B1⟩ := alloc_namedX w (.cells #[.int .i64 t.start, .slice ra t.reads.length rc, .slice wa t.writes.length wd] 25)
  have HV1 : Hid (TensIs W1 (.slice la l.length lc) l) := hv.grown hg1
  have HU1 : Hid (TxIs W1 (.agg #[.int .i64 t.start, .slice ra t.reads.length rc, .slice wa t.writes.length wd]) t) := hu.grown hg1
  have CT : Hid (Calls Try.prog 20 #[.slice la l.length lc] W1 fun e w'' => ∃ ta tc, e = .returned (.slice ta l.length tc) ∧ TensIs w'' (.slice ta l.length tc) l ∧ W1.grownBy w'' none) := by
    refine (tenants_any W1 _ l HV1.out hl).mono ?_
    rintro e w'' ⟨x, rfl, hx, hg⟩
    have hx' := hx.list
    obtain ⟨ta, tc, rfl⟩ := hx'.shape
    exact ⟨ta, tc, rfl, hx', hg⟩
  have CP : Hid (∀ w', W1.grownBy w' none → Calls Try.prog 9 #[.agg #[.int .i64 t.start, .slice ra t.reads.length rc, .slice wa t.writes.length wd]] w' fun e w'' => ∃ c1 c2 c3 c4, e = .returned (.agg #[.int .i64 t.start, .slice c1 t.reads.length c2, .slice c3 t.writes.length c4]) ∧ TxIs w'' (.agg #[.int .i64 t.start, .slice c1 t.reads.length c2, .slice c3 t.writes.length c4]) t ∧ w'.grownBy w'' none) := fun w' h => by
    refine (txnCopy_any w' _ t (HU1.out.grown h) hf).mono ?_
    rintro e w'' ⟨r1, r2, r3, r4, rfl, h1, h2, hg⟩
    exact ⟨r1, r2, r3, r4, rfl, own_tx6 h1 h2, hg⟩
  have OC : Hid (∀ (x : Option Addr) (y : Nat) (q : List UInt8) w', SliceIs w' (.slice x q.length y) q → q.length ≤ 140737488355328 → Calls Try.prog 21 #[.slice x q.length y] w' fun e w'' => ∃ n1 n2, e = .returned (.slice n1 q.length n2) ∧ SliceIs w'' (.slice n1 q.length n2) q ∧ w'.grownBy w'' none) := fun x y q w' h hq => by
    refine (octets_any w' _ q h hq).mono ?_
    rintro e w'' ⟨x, rfl, hx, hg⟩
    have hx' : SliceIs w'' x q := (hx.part (base := 0)).slice
    obtain ⟨n1, n2, rfl⟩ := hx'.shape
    exact ⟨n1, n2, rfl, hx', hg⟩
  have ON : Hid (∀ w', W1.grownBy w' none → Calls Try.prog 21 #[.slice na n.length nc] w' fun e w'' => ∃ n1 n2, e = .returned (.slice n1 n.length n2) ∧ SliceIs w'' (.slice n1 n.length n2) n ∧ w'.grownBy w'' none) := fun w' h => OC.out na nc n w' (ha.grown (grown_trans hg1 h)) hn
  have OK1 : Hid (∀ w', W1.grownBy w' none → Calls Try.prog 21 #[.slice ka k.length kc] w' fun e w'' => ∃ n1 n2, e = .returned (.slice n1 k.length n2) ∧ SliceIs w'' (.slice n1 k.length n2) k ∧ w'.grownBy w'' none) := fun w' h => OC.out ka kc k w' (hb.grown (grown_trans hg1 h)) hk
  have OM : Hid (∀ w', W1.grownBy w' none → Calls Try.prog 21 #[.slice ma m.length mc] w' fun e w'' => ∃ n1 n2, e = .returned (.slice n1 m.length n2) ∧ SliceIs w'' (.slice n1 m.length n2) m ∧ w'.grownBy w'' none) := fun w' h => OC.out ma mc m w' (hc.grown (grown_trans hg1 h)) hm
  have SC : Hid (∀ w' x y p q r, TensIs w' x l → TxIs w' y t → SliceIs w' p n → SliceIs w' q k → SliceIs w' r m → Calls Try.prog 24 #[x, y, p, q, r] w' fun e w'' => ∃ xa xc, e = .returned (.tuple #[.slice xa (scanF l t n k m).length xc, .int .i64 (scanE l t n k m)]) ∧ PairsIs w'' (.slice xa (scanF l t n k m).length xc) (scanF l t n k m) ∧ w'.grownBy w'' none) := fun w' x y p q r h1 h2 h3 h4 h5 => by
    refine (hS w' x y p q r l t n k m h1 hl h2 hf h3 h4 h5 hn hk hm).mono ?_
    rintro e w'' ⟨z, rfl, hz, hg⟩
    obtain ⟨n1, n2, rfl⟩ := hz.shape
    exact ⟨n1, n2, rfl, hz, hg⟩
  have RS : Hid (∀ w', W1.grownBy w' none → Calls Try.prog 25 #[.slice la l.length lc, .agg #[.int .i64 t.start, .slice ra t.reads.length rc, .slice wa t.writes.length wd], .slice na n.length nc, .slice ka k.length kc, .slice ma m.length mc] w' fun e w'' => ∃ xa xc, e = .returned (.tuple #[.slice xa (scanF l t n k m).length xc, .int .i64 (scanE l t n k m)]) ∧ PairsIs w'' (.slice xa (scanF l t n k m).length xc) (scanF l t n k m) ∧ w'.grownBy w'' none) := fun w' h => by
    have hgw := grown_trans hg1 h
    refine (scanned_any w' _ _ _ _ _ l t n k m (hv.grown hgw) (hu.grown hgw) hf (ha.grown hgw) (hb.grown hgw) (hc.grown hgw)).mono ?_
    rintro e w'' ⟨z, rfl, hz, hg⟩
    obtain ⟨n1, n2, rfl⟩ := hz.shape
    exact ⟨n1, n2, rfl, hz, hg⟩
  have SP : Hid (∀ w' x y, PairsIs w' x (scanF l t n k m) → PairsIs w' y (scanF l t n k m) → Calls Try.prog 26 #[x, y] w' fun e w'' => e = .returned (.bool true) ∧ w'.grownBy w'' none) := fun w' x y h1 h2 => by
    have hsm : (scanF l t n k m).length ≤ 140737488355328 := by
      by_cases h0 : scanE l t n k m = 0
      · have := scanF_small l t n k m h0; omega
      · rw [scanF, if_neg h0]; simp
    refine (samePairs_any w' x y _ _ h1 h2 hsm).mono ?_
    rintro e w'' ⟨rfl, hg⟩
    exact ⟨by simp, hg⟩
  have ST : Hid (∀ w' x y, TensIs w' x l → TensIs w' y l → Calls Try.prog 27 #[x, y] w' fun e w'' => e = .returned (.bool true) ∧ w'.grownBy w'' none) := fun w' x y h1 h2 => sameTenants_same w' x y l h1 h2 hl
  have SX : Hid (∀ w' x y, TxIs w' x t → TxIs w' y t → Calls Try.prog 12 #[x, y] w' fun e w'' => e = .returned (.bool true) ∧ w'.grownBy w'' none) := fun w' x y h1 h2 => sameTxn_same w' x y t h1 h2 hf
  clear hv hl hu hf ha hb hc hn hk hm hS
  generalize scanF l t n k m = ZF at *
  generalize scanE l t n k m = ZE at *
  have hzz : (ZE == ZE) = true := by simp
  obtain ⟨q0, q1, q2⟩ := trip_room (grown_refl W1 none) B1.out
  go_enter Try.func7, Try.ntmps7
  go_upto_region 1 with fail
  rw [← HW1.out]
  obtain ⟨IB, hIB⟩ : ∃ IB, IB = w.heap.size := ⟨_, rfl⟩
  rw [← hIB] at B1 q0 q1 q2 ⊢
  clear hIB HW1
  go_wp2_with fail
  refine CT.out.mono ?_
  rintro e w2 ⟨ta, tc, rfl, h2, hg2⟩
  have HT2 : Hid (TensIs w2 (.slice ta l.length tc) l) := h2
  clear q0 q1 q2 h2 CT
  obtain ⟨q0, q1, q2⟩ := trip_room hg2 B1.out
  go_wp2_with fail
  refine (CP.out _ hg2).mono ?_
  rintro e w3 ⟨c1, c2, c3, c4, rfl, h3, hg3⟩
  obtain ⟨W4, HW4, hg4, B4⟩ := alloc_namedX w3 (.cells #[.int .i64 t.start, .slice c1 t.reads.length c2, .slice c3 t.writes.length c4] 25)
  have hg34 := grown_trans hg3 hg4
  have hg14 := grown_trans hg2 hg34
  have HT4 : Hid (TensIs W4 (.slice ta l.length tc) l) := HT2.out.grown hg34
  have HC4 : Hid (TxIs W4 (.agg #[.int .i64 t.start, .slice c1 t.reads.length c2, .slice c3 t.writes.length c4]) t) := h3.grown hg4
  clear q0 q1 q2 h3 CP HT2
  go_upto_region 3 with fail
  rw [← HW4.out]
  obtain ⟨JB, hJB⟩ : ∃ JB, JB = w3.heap.size := ⟨_, rfl⟩
  rw [← hJB] at B4 ⊢
  clear hJB HW4
  obtain ⟨b0, b1, b2⟩ := trip_room (grown_refl W4 none) B4.out
  have hgd := grown_drew (grown_refl W4 none)
  have e0 := hgd.cell b0 (by simp)
  have e1 := hgd.cell b1 (by simp)
  have e2 := hgd.cell b2 (by simp)
  go_region_held3 (fun w' => w'.cell? ⟨JB, 0, none⟩ = some (.int .i64 t.start) ∧ w'.cell? ⟨JB, 1, none⟩ = some (.slice c1 t.reads.length c2) ∧ w'.cell? ⟨JB, 2, none⟩ = some (.slice c3 t.writes.length c4))
    (first | with_reducible exact ⟨e0, e1, e2⟩ | with_reducible exact ⟨f0, f1, f2⟩ | with_reducible exact ⟨g0, g1, g2⟩ | with_reducible exact ⟨h0, h1, h2⟩ | with_reducible exact ⟨i0, i1, i2⟩)
    (first
      | (go_at_call_of 21 (Value.slice na n.length nc); refine (ON.out _ (grown_trans hg14 hgd)).mono ?_; rintro e w5 ⟨n1, n2, rfl, hn5, hg5⟩; have HN5 : Hid (SliceIs w5 (.slice n1 n.length n2) n) := hn5; have hgd5 := grown_trans hgd hg5; have f0 := hg5.cell e0 (by simp); have f1 := hg5.cell e1 (by simp); have f2 := hg5.cell e2 (by simp); clear hn5)
      | (go_at_call_of 21 (Value.slice ka k.length kc); refine (OK1.out _ (grown_trans hg14 hgd5)).mono ?_; rintro e w6 ⟨k1, k2, rfl, hn6, hg6⟩; have HN6 : Hid (SliceIs w6 (.slice k1 k.length k2) k) := hn6; have hgd6 := grown_trans hgd5 hg6; have g0 := hg6.cell f0 (by simp); have g1 := hg6.cell f1 (by simp); have g2 := hg6.cell f2 (by simp); clear hn6)
      | (go_at_call_of 21 (Value.slice ma m.length mc); refine (OM.out _ (grown_trans hg14 hgd6)).mono ?_; rintro e w7 ⟨m1, m2, rfl, hn7, hg7⟩; have HN7 : Hid (SliceIs w7 (.slice m1 m.length m2) m) := hn7; have hgd7 := grown_trans hgd6 hg7; have h0 := hg7.cell g0 (by simp); have h1 := hg7.cell g1 (by simp); have h2 := hg7.cell g2 (by simp); clear hn7)
      | (go_at_call 24; refine (SC.out _ _ _ _ _ _ (HT4.out.grown hgd7) (HC4.out.grown hgd7) (HN5.out.grown (grown_trans hg6 hg7)) (HN6.out.grown hg7) HN7.out).mono ?_; rintro e w8 ⟨xa, xc, rfl, hx8, hg8⟩; have HX8 : Hid (PairsIs w8 (.slice xa ZF.length xc) ZF) := hx8; have hgd8 := grown_trans hgd7 hg8; have i0 := hg8.cell h0 (by simp); have i1 := hg8.cell h1 (by simp); have i2 := hg8.cell h2 (by simp); clear hx8))
  all_goals (
    have hg18 := grown_trans hg14 hgd8
    have HT8 : Hid (TensIs w8 (.slice ta l.length tc) l) := HT4.out.grown hgd8
    have HC8 : Hid (TxIs w8 (.agg #[.int .i64 t.start, .slice c1 t.reads.length c2, .slice c3 t.writes.length c4]) t) := HC4.out.grown hgd8
    clear e0 e1 e2 f0 f1 f2 g0 g1 g2 h0 h1 h2 i0 i1 i2 b0 b1 b2 HN5 HN6 HN7
    obtain ⟨q0, q1, q2⟩ := trip_room hg18 B1.out
    go_wp2_with fail
    refine (RS.out _ hg18).mono ?_
    rintro e w9 ⟨ya, yc, rfl, hy9, hg9⟩
    have hg19 := grown_trans hg18 hg9
    have HY9 : Hid (PairsIs w9 (.slice ya ZF.length yc) ZF) := hy9
    clear q0 q1 q2 hy9
    have SPP : Hid (Calls Try.prog 26 #[.slice xa ZF.length xc, .slice ya ZF.length yc] w9 fun e w'' => e = .returned (.bool true) ∧ w9.grownBy w'' none) := SP.out w9 _ _ (HX8.out.grown hg9) HY9.out
    go_wp2_with fail
    refine SPP.out.mono ?_
    rintro e w10 ⟨rfl, hg10⟩
    have hgA := grown_trans hg9 hg10
    have hg110 := grown_trans hg18 hgA
    have STT : Hid (Calls Try.prog 27 #[.slice ta l.length tc, .slice la l.length lc] w10 fun e w'' => e = .returned (.bool true) ∧ w10.grownBy w'' none) := ST.out w10 _ _ (HT8.out.grown hgA) (HV1.out.grown hg110)
    go_wp2_with fail
    refine STT.out.mono ?_
    rintro e w11 ⟨rfl, hg11⟩
    have hgB := grown_trans hgA hg11
    have hg111 := grown_trans hg18 hgB
    have SXX : Hid (Calls Try.prog 12 #[.agg #[.int .i64 t.start, .slice c1 t.reads.length c2, .slice c3 t.writes.length c4], .agg #[.int .i64 t.start, .slice ra t.reads.length rc, .slice wa t.writes.length wd]] w11 fun e w'' => e = .returned (.bool true) ∧ w11.grownBy w'' none) := SX.out w11 _ _ (HC8.out.grown hgB) (HU1.out.grown hg111)
    obtain ⟨q0, q1, q2⟩ := trip_room hg111 B1.out
    obtain ⟨p0, p1, p2⟩ := trip_room (grown_trans hgd8 hgB) B4.out
    go_wp2_with fail
    refine SXX.out.mono ?_
    rintro e w12 ⟨rfl, hg12⟩
    go_wp2
    go_ret
    exact ⟨rfl, grown_trans hg1 (grown_trans hg111 hg12)⟩)
end Go.Proofs.Ytpmfbfflacbmjaa
