/-
  canopykeep.Request: a request that may be, of raw bytes.
-/
import Derived.Test.YtghjikifflpeiabDoorRqBox
import Derived.Test.YtghjikifflpeiabDoorWireG
import Derived.Test.YtghjikifflpeiabDoorKName
import Derived.Test.YtghjikifflpeiabDoorKeyO
import Derived.Test.YtghjikifflpeiabDoorSome
import Derived.Test.YtghjikifflpeiabDoorPicked
namespace Go.Proofs.YtghjikifflpeiabDoor
open Go.RowKit
theorem Own.lateK {base : Nat} {w : World} {v : Value} {bs : List UInt8} (h : Own base w v bs) {b : Nat} (hb : b < base) (i : Nat) (u : Value) : Own base (w.setCell ⟨b, i, none⟩ u) v bs := h.later (grown_set (grown_refl w _) i u) hb
theorem Own.lateK5 {base : Nat} {w : World} {v : Value} {bs : List UInt8} (h : Own base w v bs) {b : Nat} (hb : b < base) (x y z u s : Value) : Own base (set5 w b x y z u s) v bs := h.later (five_turn w b x y z u s) hb
set_option maxRecDepth 100000 in
set_option maxHeartbeats 20000000 in
theorem kreq_any (w : World) (v : Value) (c : Rq) (hv : RqIs w v c) (hf : RqFits c) :
    Calls Tryd.prog 10 #[v] w fun e w' => ∃ k : Nat, k < 8 ∧ ∃ x, e = .returned x ∧ RqIs w' x (rqOf k c.name c.key c.last c.value) ∧ w.grownBy w' none := by
  obtain ⟨n1, n2, k1, k2, l1, l2, v1, v2, rfl⟩ := hv.agg
  obtain ⟨_, S0, S1, S2, S3⟩ := hv.parts
  obtain ⟨W0, HW0, hg0, BC0⟩ := alloc_namedR w (.cells #[.int .i64 c.kind, .slice n1 c.name.length n2, .slice k1 c.key.length k2, .slice l1 c.last.length l2, .slice v1 c.value.length v2] 32)
  obtain ⟨W1, HW1, hg1, BR0⟩ := alloc_namedR W0 (.cells #[.int .i64 0, .slice none 0 0, .slice none 0 0, .slice none 0 0, .slice none 0 0] 24)
  have hg01 := grown_trans hg0 hg1
  have hs0 : W0.heap.size = w.heap.size + 1 := by rw [HW0.out]; simp
  have hs1 : W1.heap.size = w.heap.size + 2 := by rw [HW1.out]; simp [hs0]
  rw [hs0] at BR0
  have BC1 : Hid (W1.heap[w.heap.size]? = some (.cells #[.int .i64 c.kind, .slice n1 c.name.length n2, .slice k1 c.key.length k2, .slice l1 c.last.length l2, .slice v1 c.value.length v2] 32)) := pair_old hg1 BC0.out
  have HX : Hid (W1 = (w.alloc (.cells #[.int .i64 c.kind, .slice n1 c.name.length n2, .slice k1 c.key.length k2, .slice l1 c.last.length l2, .slice v1 c.value.length v2] 32)).alloc (.cells #[.int .i64 0, .slice none 0 0, .slice none 0 0, .slice none 0 0, .slice none 0 0] 24)) := by show _ = _; rw [HW1.out, HW0.out]
  obtain ⟨p0, p1, p2, p3, p4⟩ := hf
  have PK : Hid (Calls Tryd.prog 11 #[.int .i64 c.kind, .int .i64 8] W1 fun e w'' => ∃ k : Nat, e = .returned (.int .i64 (k : Int)) ∧ (k : Int) < 8 ∧ w'' = W1) := picked_any c.kind 8 W1 p0.1 p0.2 (by omega) (by omega)
  have NM : Hid (∀ w', w.grownBy w' none → Calls Tryd.prog 19 #[.slice n1 c.name.length n2] w' fun e w'' => ∃ v', e = .returned v' ∧ Own w'.heap.size w'' v' (nameF c.name) ∧ w'.grownBy w'' none) := fun w' h => name_any w' _ _ (S0.grown h) (by unfold maxLen; omega)
  have KY : Hid (∀ w', w.grownBy w' none → Calls Tryd.prog 20 #[.slice k1 c.key.length k2] w' fun e w'' => ∃ v', e = .returned v' ∧ Own w'.heap.size w'' v' (keyF c.key) ∧ w'.grownBy w'' none) := fun w' h => keyO_any w' _ _ (S1.grown h) (by unfold maxLen; omega)
  have LS : Hid (∀ w', w.grownBy w' none → Calls Tryd.prog 20 #[.slice l1 c.last.length l2] w' fun e w'' => ∃ v', e = .returned v' ∧ Own w'.heap.size w'' v' (keyF c.last) ∧ w'.grownBy w'' none) := fun w' h => keyO_any w' _ _ (S2.grown h) (by unfold maxLen; omega)
  have VL : Hid (∀ w', w.grownBy w' none → Calls Tryd.prog 21 #[.slice v1 c.value.length v2, .int .i64 32] w' fun e w'' => ∃ v', e = .returned v' ∧ Own w'.heap.size w'' v' (c.value.take 32) ∧ w'.grownBy w'' none) := fun w' h => some_any w' _ _ 32 (by omega) (S3.grown h) (by unfold maxLen; omega)
  obtain ⟨RQ, hRQ⟩ : ∃ RQ : Nat → Rq, RQ = fun k => rqOf k c.name c.key c.last c.value := ⟨_, rfl⟩
  have hRQ' : ∀ k, rqOf k c.name c.key c.last c.value = RQ k := fun k => by rw [hRQ]
  have HQ0 : Hid (RQ 0 = ⟨1, [], [], [], []⟩) := by rw [hRQ]; rfl
  have HQ1 : Hid (RQ 1 = ⟨2, nameF c.name, keyF c.key, [], []⟩) := by rw [hRQ]; rfl
  have HQ2 : Hid (RQ 2 = ⟨3, nameF c.name, keyF c.key, keyF c.last, []⟩) := by rw [hRQ]; rfl
  have HQ3 : Hid (RQ 3 = ⟨4, nameF c.name, keyF c.key, [], c.value.take 32⟩) := by rw [hRQ]; rfl
  have HQ4 : Hid (RQ 4 = ⟨5, nameF c.name, keyF c.key, [], []⟩) := by rw [hRQ]; rfl
  have HQ5 : Hid (RQ 5 = ⟨6, [], [], [], []⟩) := by rw [hRQ]; rfl
  have HQ6 : Hid (RQ 6 = ⟨7, [], [], [], []⟩) := by rw [hRQ]; rfl
  have HQ7 : Hid (RQ 7 = ⟨8, nameF c.name, keyF c.key, [], []⟩) := by rw [hRQ]; rfl
  simp only [hRQ']
  obtain ⟨IB, hIB⟩ : ∃ IB, IB = w.heap.size := ⟨_, rfl⟩
  obtain ⟨RB, hRB⟩ : ∃ RB, RB = w.heap.size + 1 := ⟨_, rfl⟩
  obtain ⟨QB, hQB⟩ : ∃ QB, QB = w.heap.size + 2 := ⟨_, rfl⟩
  obtain ⟨base, hbs⟩ : ∃ base, base = w.heap.size + 3 := ⟨_, rfl⟩
  have HIQ : Hid (IB ≠ QB) := by show _ ≠ _; omega
  have HRQ : Hid (RB ≠ QB) := by show _ ≠ _; omega
  have HQb : Hid (QB < base) := by show _ < _; omega
  have HRb : Hid (RB < base) := by show _ < _; omega
  have HRw : Hid (w.heap.size ≤ RB) := by show _ ≤ _; omega
  have HQw : Hid (w.heap.size ≤ QB) := by show _ ≤ _; omega
  have HSQ : Hid (W1.heap.size = QB) := by show _ = _; omega
  have HSB : Hid (base = W1.heap.size + 1) := by show _ = _; omega
  rw [← hIB] at BC1
  rw [← hRB] at BR0
  clear hv S0 S1 S2 S3 p0 p1 p2 p3 p4 hs0 hs1 HW0 HW1 hg0 hg1 BC0 hRQ hRQ'
  generalize c.kind = CK at *
  generalize c.name.length = x0 at *
  generalize c.key.length = x1 at *
  generalize c.last.length = x2 at *
  generalize c.value.length = x3 at *
  generalize nameF c.name = bn at *
  generalize keyF c.key = bk at *
  generalize keyF c.last = bl at *
  generalize c.value.take 32 = bv at *
  go_enter Tryd.func10, Tryd.ntmps10
  go_upto_region 1 with fail
  rw [← HX.out, ← hRB, ← hIB]
  clear HX hRB hIB hQB hbs
  obtain ⟨⟨d0, d1, d2, d3, d4⟩, hfz, _⟩ := five_room (grown_refl W1 none) BC1.out
  clear hfz
  go_wp2_with fail
  refine PK.out.mono ?_
  rintro e w1 ⟨k, rfl, hk, hw⟩
  rw [hw]
  clear hw
  have hk8 : k = 0 ∨ k = 1 ∨ k = 2 ∨ k = 3 ∨ k = 4 ∨ k = 5 ∨ k = 6 ∨ k = 7 := by omega
  clear hk
  rcases hk8 with rfl | rfl | rfl | rfl | rfl | rfl | rfl | rfl
  · obtain ⟨V0, HV0, hgA, BQ0⟩ := alloc_namedR W1 (.cells #[.int .i64 1, .slice none 0 0, .slice none 0 0, .slice none 0 0, .slice none 0 0] 24)
    rw [HSQ.out] at BQ0
    have GW0 : Hid (w.grownBy V0 none) := grown_trans hg01 hgA
    have BCC0 : Hid (V0.heap[IB]? = some (.cells #[.int .i64 CK, .slice n1 x0 n2, .slice k1 x1 k2, .slice l1 x2 l2, .slice v1 x3 v2] 32)) := pair_old hgA BC1.out
    have BRR0 : Hid (V0.heap[RB]? = some (.cells #[.int .i64 0, .slice none 0 0, .slice none 0 0, .slice none 0 0, .slice none 0 0] 24)) := pair_old hgA BR0.out
    have SZ0 : Hid (base ≤ V0.heap.size) := by show base ≤ _; rw [HV0.out, HSB.out]; simp
    go_upto_region 2 with fail
    rw [← HV0.out, HSQ.out]
    clear d0 d1 d2 d3 d4
    obtain ⟨⟨d0, d1, d2, d3, d4⟩, hfz, _⟩ := five_room (grown_refl V0 none) BCC0.out
    clear hfz
    obtain ⟨⟨c0, c1, c2, c3, c4⟩, ⟨f0, f1, f2, f3, f4⟩, _⟩ := five_room (grown_refl V0 none) BQ0.out
    obtain ⟨⟨m0, m1, m2, m3, m4⟩, ⟨y0, y1, y2, y3, y4⟩, _⟩ := five_room (grown_refl V0 none) BRR0.out
    have hQ5 := five_set BRR0.out (.int .i64 1) (.slice none 0 0) (.slice none 0 0) (.slice none 0 0) (.slice none 0 0)
    obtain ⟨⟨r0, r1, r2, r3, r4⟩, hfz, _⟩ := five_room (grown_refl _ none) hQ5
    have hgQ := five_grown GW0.out HRw.out (.int .i64 1) (.slice none 0 0) (.slice none 0 0) (.slice none 0 0) (.slice none 0 0)
    have HRES : Hid (RqIs (set5 V0 RB (.int .i64 1) (.slice none 0 0) (.slice none 0 0) (.slice none 0 0) (.slice none 0 0)) (.agg #[.int .i64 1, .slice none 0 0, .slice none 0 0, .slice none 0 0, .slice none 0 0]) (RQ 0)) := by rw [HQ0.out]; exact ⟨_, _, _, _, rfl, sliceIs_nil _, sliceIs_nil _, sliceIs_nil _, sliceIs_nil _⟩
    clear hQ5 hfz
    go_wp2
    refine bodyPost_ret (v := .agg #[.int .i64 1, .slice none 0 0, .slice none 0 0, .slice none 0 0, .slice none 0 0]) (by simp [results, Tryd.results10, go_sem, r0, r1, r2, r3, r4]) rfl ?_
    exact ⟨0, by omega, _, rfl, HRES.out, hgQ⟩
  · obtain ⟨V0, HV0, hgA, BQ0⟩ := alloc_namedR W1 (.cells #[.int .i64 2, .slice none 0 0, .slice none 0 0, .slice none 0 0, .slice none 0 0] 24)
    rw [HSQ.out] at BQ0
    have GW0 : Hid (w.grownBy V0 none) := grown_trans hg01 hgA
    have BCC0 : Hid (V0.heap[IB]? = some (.cells #[.int .i64 CK, .slice n1 x0 n2, .slice k1 x1 k2, .slice l1 x2 l2, .slice v1 x3 v2] 32)) := pair_old hgA BC1.out
    have BRR0 : Hid (V0.heap[RB]? = some (.cells #[.int .i64 0, .slice none 0 0, .slice none 0 0, .slice none 0 0, .slice none 0 0] 24)) := pair_old hgA BR0.out
    have SZ0 : Hid (base ≤ V0.heap.size) := by show base ≤ _; rw [HV0.out, HSB.out]; simp
    go_upto_region 2 with fail
    rw [← HV0.out, HSQ.out]
    clear d0 d1 d2 d3 d4
    obtain ⟨⟨d0, d1, d2, d3, d4⟩, hfz, _⟩ := five_room (grown_refl V0 none) BCC0.out
    clear hfz
    obtain ⟨⟨c0, c1, c2, c3, c4⟩, ⟨f0, f1, f2, f3, f4⟩, _⟩ := five_room (grown_refl V0 none) BQ0.out
    obtain ⟨⟨m0, m1, m2, m3, m4⟩, ⟨y0, y1, y2, y3, y4⟩, _⟩ := five_room (grown_refl V0 none) BRR0.out
    go_wp2_with fail
    refine (NM.out _ GW0.out).mono ?_
    rintro e u1w ⟨x1, rfl, ho1, hg1w⟩
    obtain ⟨xa1, xc1, rfl⟩ := ho1.shape
    obtain ⟨V1, HV1⟩ : ∃ V : World, Hid (V = u1w.setCell ⟨QB, 1, none⟩ (.slice xa1 bn.length xc1)) := ⟨_, rfl⟩
    have BQ1 : Hid (V1.heap[QB]? = some (.cells #[.int .i64 2, .slice xa1 bn.length xc1, .slice none 0 0, .slice none 0 0, .slice none 0 0] 24)) := by rw [HV1.out]; exact set_selfR (pair_old hg1w BQ0.out)
    have BRR1 : Hid (V1.heap[RB]? = some (.cells #[.int .i64 0, .slice none 0 0, .slice none 0 0, .slice none 0 0, .slice none 0 0] 24)) := by rw [HV1.out]; exact set_apartR (pair_old hg1w BRR0.out) HRQ.out
    have BCC1 : Hid (V1.heap[IB]? = some (.cells #[.int .i64 CK, .slice n1 x0 n2, .slice k1 x1 k2, .slice l1 x2 l2, .slice v1 x3 v2] 32)) := by rw [HV1.out]; exact set_apartR (pair_old hg1w BCC0.out) HIQ.out
    have GW1 : Hid (w.grownBy V1 none) := by rw [HV1.out]; exact grown_setNew (grown_trans GW0.out hg1w) _ HQw.out _ _
    have SZ1 : Hid (base ≤ V1.heap.size) := by rw [HV1.out]; show base ≤ _; have := Nat.le_trans SZ0.out hg1w.size; simpa [World.setCell] using this
    have O1_1 : Hid (Own base V1 (.slice xa1 bn.length xc1) bn) := by rw [HV1.out]; exact (own_mono ho1 SZ0.out).lateK HQb.out _ _
    clear c0 c1 c2 c3 c4 f0 f1 f2 f3 f4 m0 m1 m2 m3 m4 y0 y1 y2 y3 y4 d0 d1 d2 d3 d4 ho1
    obtain ⟨⟨c0, c1, c2, c3, c4⟩, ⟨f0, f1, f2, f3, f4⟩, _⟩ := five_room hg1w BQ0.out
    go_upto_region 7 with fail
    rw [← HV1.out]
    clear c0 c1 c2 c3 c4 f0 f1 f2 f3 f4
    obtain ⟨⟨d0, d1, d2, d3, d4⟩, hfz, _⟩ := five_room (grown_refl V1 none) BCC1.out
    clear hfz
    obtain ⟨⟨c0, c1, c2, c3, c4⟩, ⟨f0, f1, f2, f3, f4⟩, _⟩ := five_room (grown_refl V1 none) BQ1.out
    obtain ⟨⟨m0, m1, m2, m3, m4⟩, ⟨y0, y1, y2, y3, y4⟩, _⟩ := five_room (grown_refl V1 none) BRR1.out
    go_wp2_with fail
    refine (KY.out _ GW1.out).mono ?_
    rintro e u2w ⟨x2, rfl, ho2, hg2w⟩
    obtain ⟨xa2, xc2, rfl⟩ := ho2.shape
    obtain ⟨V2, HV2⟩ : ∃ V : World, Hid (V = u2w.setCell ⟨QB, 2, none⟩ (.slice xa2 bk.length xc2)) := ⟨_, rfl⟩
    have BQ2 : Hid (V2.heap[QB]? = some (.cells #[.int .i64 2, .slice xa1 bn.length xc1, .slice xa2 bk.length xc2, .slice none 0 0, .slice none 0 0] 24)) := by rw [HV2.out]; exact set_selfR (pair_old hg2w BQ1.out)
    have BRR2 : Hid (V2.heap[RB]? = some (.cells #[.int .i64 0, .slice none 0 0, .slice none 0 0, .slice none 0 0, .slice none 0 0] 24)) := by rw [HV2.out]; exact set_apartR (pair_old hg2w BRR1.out) HRQ.out
    have BCC2 : Hid (V2.heap[IB]? = some (.cells #[.int .i64 CK, .slice n1 x0 n2, .slice k1 x1 k2, .slice l1 x2 l2, .slice v1 x3 v2] 32)) := by rw [HV2.out]; exact set_apartR (pair_old hg2w BCC1.out) HIQ.out
    have GW2 : Hid (w.grownBy V2 none) := by rw [HV2.out]; exact grown_setNew (grown_trans GW1.out hg2w) _ HQw.out _ _
    have SZ2 : Hid (base ≤ V2.heap.size) := by rw [HV2.out]; show base ≤ _; have := Nat.le_trans SZ1.out hg2w.size; simpa [World.setCell] using this
    have O2_2 : Hid (Own base V2 (.slice xa2 bk.length xc2) bk) := by rw [HV2.out]; exact (own_mono ho2 SZ1.out).lateK HQb.out _ _
    have O1_2 : Hid (Own base V2 (.slice xa1 bn.length xc1) bn) := by rw [HV2.out]; exact (O1_1.out.grownNone hg2w).lateK HQb.out _ _
    clear c0 c1 c2 c3 c4 f0 f1 f2 f3 f4 m0 m1 m2 m3 m4 y0 y1 y2 y3 y4 d0 d1 d2 d3 d4 ho2
    obtain ⟨⟨c0, c1, c2, c3, c4⟩, ⟨f0, f1, f2, f3, f4⟩, _⟩ := five_room hg2w BQ1.out
    go_upto_region 16 with fail
    rw [← HV2.out]
    clear c0 c1 c2 c3 c4 f0 f1 f2 f3 f4
    obtain ⟨⟨d0, d1, d2, d3, d4⟩, hfz, _⟩ := five_room (grown_refl V2 none) BCC2.out
    clear hfz
    obtain ⟨⟨c0, c1, c2, c3, c4⟩, ⟨f0, f1, f2, f3, f4⟩, _⟩ := five_room (grown_refl V2 none) BQ2.out
    obtain ⟨⟨m0, m1, m2, m3, m4⟩, ⟨y0, y1, y2, y3, y4⟩, _⟩ := five_room (grown_refl V2 none) BRR2.out
    have hQ5 := five_set BRR2.out (.int .i64 2) (.slice xa1 bn.length xc1) (.slice xa2 bk.length xc2) (.slice none 0 0) (.slice none 0 0)
    obtain ⟨⟨r0, r1, r2, r3, r4⟩, hfz, _⟩ := five_room (grown_refl _ none) hQ5
    have hgQ := five_grown GW2.out HRw.out (.int .i64 2) (.slice xa1 bn.length xc1) (.slice xa2 bk.length xc2) (.slice none 0 0) (.slice none 0 0)
    have HRES : Hid (RqIs (set5 V2 RB (.int .i64 2) (.slice xa1 bn.length xc1) (.slice xa2 bk.length xc2) (.slice none 0 0) (.slice none 0 0)) (.agg #[.int .i64 2, .slice xa1 bn.length xc1, .slice xa2 bk.length xc2, .slice none 0 0, .slice none 0 0]) (RQ 1)) := by rw [HQ1.out]; exact ⟨_, _, _, _, rfl, (O1_2.out.lateK5 HRb.out _ _ _ _ _).slice, (O2_2.out.lateK5 HRb.out _ _ _ _ _).slice, sliceIs_nil _, sliceIs_nil _⟩
    clear hQ5 hfz
    go_wp2
    refine bodyPost_ret (v := .agg #[.int .i64 2, .slice xa1 bn.length xc1, .slice xa2 bk.length xc2, .slice none 0 0, .slice none 0 0]) (by simp [results, Tryd.results10, go_sem, r0, r1, r2, r3, r4]) rfl ?_
    exact ⟨1, by omega, _, rfl, HRES.out, hgQ⟩
  · obtain ⟨V0, HV0, hgA, BQ0⟩ := alloc_namedR W1 (.cells #[.int .i64 3, .slice none 0 0, .slice none 0 0, .slice none 0 0, .slice none 0 0] 24)
    rw [HSQ.out] at BQ0
    have GW0 : Hid (w.grownBy V0 none) := grown_trans hg01 hgA
    have BCC0 : Hid (V0.heap[IB]? = some (.cells #[.int .i64 CK, .slice n1 x0 n2, .slice k1 x1 k2, .slice l1 x2 l2, .slice v1 x3 v2] 32)) := pair_old hgA BC1.out
    have BRR0 : Hid (V0.heap[RB]? = some (.cells #[.int .i64 0, .slice none 0 0, .slice none 0 0, .slice none 0 0, .slice none 0 0] 24)) := pair_old hgA BR0.out
    have SZ0 : Hid (base ≤ V0.heap.size) := by show base ≤ _; rw [HV0.out, HSB.out]; simp
    go_upto_region 2 with fail
    rw [← HV0.out, HSQ.out]
    clear d0 d1 d2 d3 d4
    obtain ⟨⟨d0, d1, d2, d3, d4⟩, hfz, _⟩ := five_room (grown_refl V0 none) BCC0.out
    clear hfz
    obtain ⟨⟨c0, c1, c2, c3, c4⟩, ⟨f0, f1, f2, f3, f4⟩, _⟩ := five_room (grown_refl V0 none) BQ0.out
    obtain ⟨⟨m0, m1, m2, m3, m4⟩, ⟨y0, y1, y2, y3, y4⟩, _⟩ := five_room (grown_refl V0 none) BRR0.out
    go_wp2_with fail
    refine (NM.out _ GW0.out).mono ?_
    rintro e u1w ⟨x1, rfl, ho1, hg1w⟩
    obtain ⟨xa1, xc1, rfl⟩ := ho1.shape
    obtain ⟨V1, HV1⟩ : ∃ V : World, Hid (V = u1w.setCell ⟨QB, 1, none⟩ (.slice xa1 bn.length xc1)) := ⟨_, rfl⟩
    have BQ1 : Hid (V1.heap[QB]? = some (.cells #[.int .i64 3, .slice xa1 bn.length xc1, .slice none 0 0, .slice none 0 0, .slice none 0 0] 24)) := by rw [HV1.out]; exact set_selfR (pair_old hg1w BQ0.out)
    have BRR1 : Hid (V1.heap[RB]? = some (.cells #[.int .i64 0, .slice none 0 0, .slice none 0 0, .slice none 0 0, .slice none 0 0] 24)) := by rw [HV1.out]; exact set_apartR (pair_old hg1w BRR0.out) HRQ.out
    have BCC1 : Hid (V1.heap[IB]? = some (.cells #[.int .i64 CK, .slice n1 x0 n2, .slice k1 x1 k2, .slice l1 x2 l2, .slice v1 x3 v2] 32)) := by rw [HV1.out]; exact set_apartR (pair_old hg1w BCC0.out) HIQ.out
    have GW1 : Hid (w.grownBy V1 none) := by rw [HV1.out]; exact grown_setNew (grown_trans GW0.out hg1w) _ HQw.out _ _
    have SZ1 : Hid (base ≤ V1.heap.size) := by rw [HV1.out]; show base ≤ _; have := Nat.le_trans SZ0.out hg1w.size; simpa [World.setCell] using this
    have O1_1 : Hid (Own base V1 (.slice xa1 bn.length xc1) bn) := by rw [HV1.out]; exact (own_mono ho1 SZ0.out).lateK HQb.out _ _
    clear c0 c1 c2 c3 c4 f0 f1 f2 f3 f4 m0 m1 m2 m3 m4 y0 y1 y2 y3 y4 d0 d1 d2 d3 d4 ho1
    obtain ⟨⟨c0, c1, c2, c3, c4⟩, ⟨f0, f1, f2, f3, f4⟩, _⟩ := five_room hg1w BQ0.out
    go_upto_region 10 with fail
    rw [← HV1.out]
    clear c0 c1 c2 c3 c4 f0 f1 f2 f3 f4
    obtain ⟨⟨d0, d1, d2, d3, d4⟩, hfz, _⟩ := five_room (grown_refl V1 none) BCC1.out
    clear hfz
    obtain ⟨⟨c0, c1, c2, c3, c4⟩, ⟨f0, f1, f2, f3, f4⟩, _⟩ := five_room (grown_refl V1 none) BQ1.out
    obtain ⟨⟨m0, m1, m2, m3, m4⟩, ⟨y0, y1, y2, y3, y4⟩, _⟩ := five_room (grown_refl V1 none) BRR1.out
    go_wp2_with fail
    refine (KY.out _ GW1.out).mono ?_
    rintro e u2w ⟨x2, rfl, ho2, hg2w⟩
    obtain ⟨xa2, xc2, rfl⟩ := ho2.shape
    obtain ⟨V2, HV2⟩ : ∃ V : World, Hid (V = u2w.setCell ⟨QB, 2, none⟩ (.slice xa2 bk.length xc2)) := ⟨_, rfl⟩
    have BQ2 : Hid (V2.heap[QB]? = some (.cells #[.int .i64 3, .slice xa1 bn.length xc1, .slice xa2 bk.length xc2, .slice none 0 0, .slice none 0 0] 24)) := by rw [HV2.out]; exact set_selfR (pair_old hg2w BQ1.out)
    have BRR2 : Hid (V2.heap[RB]? = some (.cells #[.int .i64 0, .slice none 0 0, .slice none 0 0, .slice none 0 0, .slice none 0 0] 24)) := by rw [HV2.out]; exact set_apartR (pair_old hg2w BRR1.out) HRQ.out
    have BCC2 : Hid (V2.heap[IB]? = some (.cells #[.int .i64 CK, .slice n1 x0 n2, .slice k1 x1 k2, .slice l1 x2 l2, .slice v1 x3 v2] 32)) := by rw [HV2.out]; exact set_apartR (pair_old hg2w BCC1.out) HIQ.out
    have GW2 : Hid (w.grownBy V2 none) := by rw [HV2.out]; exact grown_setNew (grown_trans GW1.out hg2w) _ HQw.out _ _
    have SZ2 : Hid (base ≤ V2.heap.size) := by rw [HV2.out]; show base ≤ _; have := Nat.le_trans SZ1.out hg2w.size; simpa [World.setCell] using this
    have O2_2 : Hid (Own base V2 (.slice xa2 bk.length xc2) bk) := by rw [HV2.out]; exact (own_mono ho2 SZ1.out).lateK HQb.out _ _
    have O1_2 : Hid (Own base V2 (.slice xa1 bn.length xc1) bn) := by rw [HV2.out]; exact (O1_1.out.grownNone hg2w).lateK HQb.out _ _
    clear c0 c1 c2 c3 c4 f0 f1 f2 f3 f4 m0 m1 m2 m3 m4 y0 y1 y2 y3 y4 d0 d1 d2 d3 d4 ho2
    obtain ⟨⟨c0, c1, c2, c3, c4⟩, ⟨f0, f1, f2, f3, f4⟩, _⟩ := five_room hg2w BQ1.out
    go_upto_region 11 with fail
    rw [← HV2.out]
    clear c0 c1 c2 c3 c4 f0 f1 f2 f3 f4
    obtain ⟨⟨d0, d1, d2, d3, d4⟩, hfz, _⟩ := five_room (grown_refl V2 none) BCC2.out
    clear hfz
    obtain ⟨⟨c0, c1, c2, c3, c4⟩, ⟨f0, f1, f2, f3, f4⟩, _⟩ := five_room (grown_refl V2 none) BQ2.out
    obtain ⟨⟨m0, m1, m2, m3, m4⟩, ⟨y0, y1, y2, y3, y4⟩, _⟩ := five_room (grown_refl V2 none) BRR2.out
    go_wp2_with fail
    refine (LS.out _ GW2.out).mono ?_
    rintro e u3w ⟨x3, rfl, ho3, hg3w⟩
    obtain ⟨xa3, xc3, rfl⟩ := ho3.shape
    obtain ⟨V3, HV3⟩ : ∃ V : World, Hid (V = u3w.setCell ⟨QB, 3, none⟩ (.slice xa3 bl.length xc3)) := ⟨_, rfl⟩
    have BQ3 : Hid (V3.heap[QB]? = some (.cells #[.int .i64 3, .slice xa1 bn.length xc1, .slice xa2 bk.length xc2, .slice xa3 bl.length xc3, .slice none 0 0] 24)) := by rw [HV3.out]; exact set_selfR (pair_old hg3w BQ2.out)
    have BRR3 : Hid (V3.heap[RB]? = some (.cells #[.int .i64 0, .slice none 0 0, .slice none 0 0, .slice none 0 0, .slice none 0 0] 24)) := by rw [HV3.out]; exact set_apartR (pair_old hg3w BRR2.out) HRQ.out
    have BCC3 : Hid (V3.heap[IB]? = some (.cells #[.int .i64 CK, .slice n1 x0 n2, .slice k1 x1 k2, .slice l1 x2 l2, .slice v1 x3 v2] 32)) := by rw [HV3.out]; exact set_apartR (pair_old hg3w BCC2.out) HIQ.out
    have GW3 : Hid (w.grownBy V3 none) := by rw [HV3.out]; exact grown_setNew (grown_trans GW2.out hg3w) _ HQw.out _ _
    have SZ3 : Hid (base ≤ V3.heap.size) := by rw [HV3.out]; show base ≤ _; have := Nat.le_trans SZ2.out hg3w.size; simpa [World.setCell] using this
    have O3_3 : Hid (Own base V3 (.slice xa3 bl.length xc3) bl) := by rw [HV3.out]; exact (own_mono ho3 SZ2.out).lateK HQb.out _ _
    have O1_3 : Hid (Own base V3 (.slice xa1 bn.length xc1) bn) := by rw [HV3.out]; exact (O1_2.out.grownNone hg3w).lateK HQb.out _ _
    have O2_3 : Hid (Own base V3 (.slice xa2 bk.length xc2) bk) := by rw [HV3.out]; exact (O2_2.out.grownNone hg3w).lateK HQb.out _ _
    clear c0 c1 c2 c3 c4 f0 f1 f2 f3 f4 m0 m1 m2 m3 m4 y0 y1 y2 y3 y4 d0 d1 d2 d3 d4 ho3
    obtain ⟨⟨c0, c1, c2, c3, c4⟩, ⟨f0, f1, f2, f3, f4⟩, _⟩ := five_room hg3w BQ2.out
    go_upto_region 16 with fail
    rw [← HV3.out]
    clear c0 c1 c2 c3 c4 f0 f1 f2 f3 f4
    obtain ⟨⟨d0, d1, d2, d3, d4⟩, hfz, _⟩ := five_room (grown_refl V3 none) BCC3.out
    clear hfz
    obtain ⟨⟨c0, c1, c2, c3, c4⟩, ⟨f0, f1, f2, f3, f4⟩, _⟩ := five_room (grown_refl V3 none) BQ3.out
    obtain ⟨⟨m0, m1, m2, m3, m4⟩, ⟨y0, y1, y2, y3, y4⟩, _⟩ := five_room (grown_refl V3 none) BRR3.out
    have hQ5 := five_set BRR3.out (.int .i64 3) (.slice xa1 bn.length xc1) (.slice xa2 bk.length xc2) (.slice xa3 bl.length xc3) (.slice none 0 0)
    obtain ⟨⟨r0, r1, r2, r3, r4⟩, hfz, _⟩ := five_room (grown_refl _ none) hQ5
    have hgQ := five_grown GW3.out HRw.out (.int .i64 3) (.slice xa1 bn.length xc1) (.slice xa2 bk.length xc2) (.slice xa3 bl.length xc3) (.slice none 0 0)
    have HRES : Hid (RqIs (set5 V3 RB (.int .i64 3) (.slice xa1 bn.length xc1) (.slice xa2 bk.length xc2) (.slice xa3 bl.length xc3) (.slice none 0 0)) (.agg #[.int .i64 3, .slice xa1 bn.length xc1, .slice xa2 bk.length xc2, .slice xa3 bl.length xc3, .slice none 0 0]) (RQ 2)) := by rw [HQ2.out]; exact ⟨_, _, _, _, rfl, (O1_3.out.lateK5 HRb.out _ _ _ _ _).slice, (O2_3.out.lateK5 HRb.out _ _ _ _ _).slice, (O3_3.out.lateK5 HRb.out _ _ _ _ _).slice, sliceIs_nil _⟩
    clear hQ5 hfz
    go_wp2
    refine bodyPost_ret (v := .agg #[.int .i64 3, .slice xa1 bn.length xc1, .slice xa2 bk.length xc2, .slice xa3 bl.length xc3, .slice none 0 0]) (by simp [results, Tryd.results10, go_sem, r0, r1, r2, r3, r4]) rfl ?_
    exact ⟨2, by omega, _, rfl, HRES.out, hgQ⟩
  · obtain ⟨V0, HV0, hgA, BQ0⟩ := alloc_namedR W1 (.cells #[.int .i64 4, .slice none 0 0, .slice none 0 0, .slice none 0 0, .slice none 0 0] 24)
    rw [HSQ.out] at BQ0
    have GW0 : Hid (w.grownBy V0 none) := grown_trans hg01 hgA
    have BCC0 : Hid (V0.heap[IB]? = some (.cells #[.int .i64 CK, .slice n1 x0 n2, .slice k1 x1 k2, .slice l1 x2 l2, .slice v1 x3 v2] 32)) := pair_old hgA BC1.out
    have BRR0 : Hid (V0.heap[RB]? = some (.cells #[.int .i64 0, .slice none 0 0, .slice none 0 0, .slice none 0 0, .slice none 0 0] 24)) := pair_old hgA BR0.out
    have SZ0 : Hid (base ≤ V0.heap.size) := by show base ≤ _; rw [HV0.out, HSB.out]; simp
    go_upto_region 2 with fail
    rw [← HV0.out, HSQ.out]
    clear d0 d1 d2 d3 d4
    obtain ⟨⟨d0, d1, d2, d3, d4⟩, hfz, _⟩ := five_room (grown_refl V0 none) BCC0.out
    clear hfz
    obtain ⟨⟨c0, c1, c2, c3, c4⟩, ⟨f0, f1, f2, f3, f4⟩, _⟩ := five_room (grown_refl V0 none) BQ0.out
    obtain ⟨⟨m0, m1, m2, m3, m4⟩, ⟨y0, y1, y2, y3, y4⟩, _⟩ := five_room (grown_refl V0 none) BRR0.out
    go_wp2_with fail
    refine (NM.out _ GW0.out).mono ?_
    rintro e u1w ⟨x1, rfl, ho1, hg1w⟩
    obtain ⟨xa1, xc1, rfl⟩ := ho1.shape
    obtain ⟨V1, HV1⟩ : ∃ V : World, Hid (V = u1w.setCell ⟨QB, 1, none⟩ (.slice xa1 bn.length xc1)) := ⟨_, rfl⟩
    have BQ1 : Hid (V1.heap[QB]? = some (.cells #[.int .i64 4, .slice xa1 bn.length xc1, .slice none 0 0, .slice none 0 0, .slice none 0 0] 24)) := by rw [HV1.out]; exact set_selfR (pair_old hg1w BQ0.out)
    have BRR1 : Hid (V1.heap[RB]? = some (.cells #[.int .i64 0, .slice none 0 0, .slice none 0 0, .slice none 0 0, .slice none 0 0] 24)) := by rw [HV1.out]; exact set_apartR (pair_old hg1w BRR0.out) HRQ.out
    have BCC1 : Hid (V1.heap[IB]? = some (.cells #[.int .i64 CK, .slice n1 x0 n2, .slice k1 x1 k2, .slice l1 x2 l2, .slice v1 x3 v2] 32)) := by rw [HV1.out]; exact set_apartR (pair_old hg1w BCC0.out) HIQ.out
    have GW1 : Hid (w.grownBy V1 none) := by rw [HV1.out]; exact grown_setNew (grown_trans GW0.out hg1w) _ HQw.out _ _
    have SZ1 : Hid (base ≤ V1.heap.size) := by rw [HV1.out]; show base ≤ _; have := Nat.le_trans SZ0.out hg1w.size; simpa [World.setCell] using this
    have O1_1 : Hid (Own base V1 (.slice xa1 bn.length xc1) bn) := by rw [HV1.out]; exact (own_mono ho1 SZ0.out).lateK HQb.out _ _
    clear c0 c1 c2 c3 c4 f0 f1 f2 f3 f4 m0 m1 m2 m3 m4 y0 y1 y2 y3 y4 d0 d1 d2 d3 d4 ho1
    obtain ⟨⟨c0, c1, c2, c3, c4⟩, ⟨f0, f1, f2, f3, f4⟩, _⟩ := five_room hg1w BQ0.out
    go_upto_region 14 with fail
    rw [← HV1.out]
    clear c0 c1 c2 c3 c4 f0 f1 f2 f3 f4
    obtain ⟨⟨d0, d1, d2, d3, d4⟩, hfz, _⟩ := five_room (grown_refl V1 none) BCC1.out
    clear hfz
    obtain ⟨⟨c0, c1, c2, c3, c4⟩, ⟨f0, f1, f2, f3, f4⟩, _⟩ := five_room (grown_refl V1 none) BQ1.out
    obtain ⟨⟨m0, m1, m2, m3, m4⟩, ⟨y0, y1, y2, y3, y4⟩, _⟩ := five_room (grown_refl V1 none) BRR1.out
    go_wp2_with fail
    refine (KY.out _ GW1.out).mono ?_
    rintro e u2w ⟨x2, rfl, ho2, hg2w⟩
    obtain ⟨xa2, xc2, rfl⟩ := ho2.shape
    obtain ⟨V2, HV2⟩ : ∃ V : World, Hid (V = u2w.setCell ⟨QB, 2, none⟩ (.slice xa2 bk.length xc2)) := ⟨_, rfl⟩
    have BQ2 : Hid (V2.heap[QB]? = some (.cells #[.int .i64 4, .slice xa1 bn.length xc1, .slice xa2 bk.length xc2, .slice none 0 0, .slice none 0 0] 24)) := by rw [HV2.out]; exact set_selfR (pair_old hg2w BQ1.out)
    have BRR2 : Hid (V2.heap[RB]? = some (.cells #[.int .i64 0, .slice none 0 0, .slice none 0 0, .slice none 0 0, .slice none 0 0] 24)) := by rw [HV2.out]; exact set_apartR (pair_old hg2w BRR1.out) HRQ.out
    have BCC2 : Hid (V2.heap[IB]? = some (.cells #[.int .i64 CK, .slice n1 x0 n2, .slice k1 x1 k2, .slice l1 x2 l2, .slice v1 x3 v2] 32)) := by rw [HV2.out]; exact set_apartR (pair_old hg2w BCC1.out) HIQ.out
    have GW2 : Hid (w.grownBy V2 none) := by rw [HV2.out]; exact grown_setNew (grown_trans GW1.out hg2w) _ HQw.out _ _
    have SZ2 : Hid (base ≤ V2.heap.size) := by rw [HV2.out]; show base ≤ _; have := Nat.le_trans SZ1.out hg2w.size; simpa [World.setCell] using this
    have O2_2 : Hid (Own base V2 (.slice xa2 bk.length xc2) bk) := by rw [HV2.out]; exact (own_mono ho2 SZ1.out).lateK HQb.out _ _
    have O1_2 : Hid (Own base V2 (.slice xa1 bn.length xc1) bn) := by rw [HV2.out]; exact (O1_1.out.grownNone hg2w).lateK HQb.out _ _
    clear c0 c1 c2 c3 c4 f0 f1 f2 f3 f4 m0 m1 m2 m3 m4 y0 y1 y2 y3 y4 d0 d1 d2 d3 d4 ho2
    obtain ⟨⟨c0, c1, c2, c3, c4⟩, ⟨f0, f1, f2, f3, f4⟩, _⟩ := five_room hg2w BQ1.out
    go_upto_region 15 with fail
    rw [← HV2.out]
    clear c0 c1 c2 c3 c4 f0 f1 f2 f3 f4
    obtain ⟨⟨d0, d1, d2, d3, d4⟩, hfz, _⟩ := five_room (grown_refl V2 none) BCC2.out
    clear hfz
    obtain ⟨⟨c0, c1, c2, c3, c4⟩, ⟨f0, f1, f2, f3, f4⟩, _⟩ := five_room (grown_refl V2 none) BQ2.out
    obtain ⟨⟨m0, m1, m2, m3, m4⟩, ⟨y0, y1, y2, y3, y4⟩, _⟩ := five_room (grown_refl V2 none) BRR2.out
    go_wp2_with fail
    refine (VL.out _ GW2.out).mono ?_
    rintro e u3w ⟨x3, rfl, ho3, hg3w⟩
    obtain ⟨xa3, xc3, rfl⟩ := ho3.shape
    obtain ⟨V3, HV3⟩ : ∃ V : World, Hid (V = u3w.setCell ⟨QB, 4, none⟩ (.slice xa3 bv.length xc3)) := ⟨_, rfl⟩
    have BQ3 : Hid (V3.heap[QB]? = some (.cells #[.int .i64 4, .slice xa1 bn.length xc1, .slice xa2 bk.length xc2, .slice none 0 0, .slice xa3 bv.length xc3] 24)) := by rw [HV3.out]; exact set_selfR (pair_old hg3w BQ2.out)
    have BRR3 : Hid (V3.heap[RB]? = some (.cells #[.int .i64 0, .slice none 0 0, .slice none 0 0, .slice none 0 0, .slice none 0 0] 24)) := by rw [HV3.out]; exact set_apartR (pair_old hg3w BRR2.out) HRQ.out
    have BCC3 : Hid (V3.heap[IB]? = some (.cells #[.int .i64 CK, .slice n1 x0 n2, .slice k1 x1 k2, .slice l1 x2 l2, .slice v1 x3 v2] 32)) := by rw [HV3.out]; exact set_apartR (pair_old hg3w BCC2.out) HIQ.out
    have GW3 : Hid (w.grownBy V3 none) := by rw [HV3.out]; exact grown_setNew (grown_trans GW2.out hg3w) _ HQw.out _ _
    have SZ3 : Hid (base ≤ V3.heap.size) := by rw [HV3.out]; show base ≤ _; have := Nat.le_trans SZ2.out hg3w.size; simpa [World.setCell] using this
    have O3_3 : Hid (Own base V3 (.slice xa3 bv.length xc3) bv) := by rw [HV3.out]; exact (own_mono ho3 SZ2.out).lateK HQb.out _ _
    have O1_3 : Hid (Own base V3 (.slice xa1 bn.length xc1) bn) := by rw [HV3.out]; exact (O1_2.out.grownNone hg3w).lateK HQb.out _ _
    have O2_3 : Hid (Own base V3 (.slice xa2 bk.length xc2) bk) := by rw [HV3.out]; exact (O2_2.out.grownNone hg3w).lateK HQb.out _ _
    clear c0 c1 c2 c3 c4 f0 f1 f2 f3 f4 m0 m1 m2 m3 m4 y0 y1 y2 y3 y4 d0 d1 d2 d3 d4 ho3
    obtain ⟨⟨c0, c1, c2, c3, c4⟩, ⟨f0, f1, f2, f3, f4⟩, _⟩ := five_room hg3w BQ2.out
    go_upto_region 16 with fail
    rw [← HV3.out]
    clear c0 c1 c2 c3 c4 f0 f1 f2 f3 f4
    obtain ⟨⟨d0, d1, d2, d3, d4⟩, hfz, _⟩ := five_room (grown_refl V3 none) BCC3.out
    clear hfz
    obtain ⟨⟨c0, c1, c2, c3, c4⟩, ⟨f0, f1, f2, f3, f4⟩, _⟩ := five_room (grown_refl V3 none) BQ3.out
    obtain ⟨⟨m0, m1, m2, m3, m4⟩, ⟨y0, y1, y2, y3, y4⟩, _⟩ := five_room (grown_refl V3 none) BRR3.out
    have hQ5 := five_set BRR3.out (.int .i64 4) (.slice xa1 bn.length xc1) (.slice xa2 bk.length xc2) (.slice none 0 0) (.slice xa3 bv.length xc3)
    obtain ⟨⟨r0, r1, r2, r3, r4⟩, hfz, _⟩ := five_room (grown_refl _ none) hQ5
    have hgQ := five_grown GW3.out HRw.out (.int .i64 4) (.slice xa1 bn.length xc1) (.slice xa2 bk.length xc2) (.slice none 0 0) (.slice xa3 bv.length xc3)
    have HRES : Hid (RqIs (set5 V3 RB (.int .i64 4) (.slice xa1 bn.length xc1) (.slice xa2 bk.length xc2) (.slice none 0 0) (.slice xa3 bv.length xc3)) (.agg #[.int .i64 4, .slice xa1 bn.length xc1, .slice xa2 bk.length xc2, .slice none 0 0, .slice xa3 bv.length xc3]) (RQ 3)) := by rw [HQ3.out]; exact ⟨_, _, _, _, rfl, (O1_3.out.lateK5 HRb.out _ _ _ _ _).slice, (O2_3.out.lateK5 HRb.out _ _ _ _ _).slice, sliceIs_nil _, (O3_3.out.lateK5 HRb.out _ _ _ _ _).slice⟩
    clear hQ5 hfz
    go_wp2
    refine bodyPost_ret (v := .agg #[.int .i64 4, .slice xa1 bn.length xc1, .slice xa2 bk.length xc2, .slice none 0 0, .slice xa3 bv.length xc3]) (by simp [results, Tryd.results10, go_sem, r0, r1, r2, r3, r4]) rfl ?_
    exact ⟨3, by omega, _, rfl, HRES.out, hgQ⟩
  · obtain ⟨V0, HV0, hgA, BQ0⟩ := alloc_namedR W1 (.cells #[.int .i64 5, .slice none 0 0, .slice none 0 0, .slice none 0 0, .slice none 0 0] 24)
    rw [HSQ.out] at BQ0
    have GW0 : Hid (w.grownBy V0 none) := grown_trans hg01 hgA
    have BCC0 : Hid (V0.heap[IB]? = some (.cells #[.int .i64 CK, .slice n1 x0 n2, .slice k1 x1 k2, .slice l1 x2 l2, .slice v1 x3 v2] 32)) := pair_old hgA BC1.out
    have BRR0 : Hid (V0.heap[RB]? = some (.cells #[.int .i64 0, .slice none 0 0, .slice none 0 0, .slice none 0 0, .slice none 0 0] 24)) := pair_old hgA BR0.out
    have SZ0 : Hid (base ≤ V0.heap.size) := by show base ≤ _; rw [HV0.out, HSB.out]; simp
    go_upto_region 2 with fail
    rw [← HV0.out, HSQ.out]
    clear d0 d1 d2 d3 d4
    obtain ⟨⟨d0, d1, d2, d3, d4⟩, hfz, _⟩ := five_room (grown_refl V0 none) BCC0.out
    clear hfz
    obtain ⟨⟨c0, c1, c2, c3, c4⟩, ⟨f0, f1, f2, f3, f4⟩, _⟩ := five_room (grown_refl V0 none) BQ0.out
    obtain ⟨⟨m0, m1, m2, m3, m4⟩, ⟨y0, y1, y2, y3, y4⟩, _⟩ := five_room (grown_refl V0 none) BRR0.out
    go_wp2_with fail
    refine (NM.out _ GW0.out).mono ?_
    rintro e u1w ⟨x1, rfl, ho1, hg1w⟩
    obtain ⟨xa1, xc1, rfl⟩ := ho1.shape
    obtain ⟨V1, HV1⟩ : ∃ V : World, Hid (V = u1w.setCell ⟨QB, 1, none⟩ (.slice xa1 bn.length xc1)) := ⟨_, rfl⟩
    have BQ1 : Hid (V1.heap[QB]? = some (.cells #[.int .i64 5, .slice xa1 bn.length xc1, .slice none 0 0, .slice none 0 0, .slice none 0 0] 24)) := by rw [HV1.out]; exact set_selfR (pair_old hg1w BQ0.out)
    have BRR1 : Hid (V1.heap[RB]? = some (.cells #[.int .i64 0, .slice none 0 0, .slice none 0 0, .slice none 0 0, .slice none 0 0] 24)) := by rw [HV1.out]; exact set_apartR (pair_old hg1w BRR0.out) HRQ.out
    have BCC1 : Hid (V1.heap[IB]? = some (.cells #[.int .i64 CK, .slice n1 x0 n2, .slice k1 x1 k2, .slice l1 x2 l2, .slice v1 x3 v2] 32)) := by rw [HV1.out]; exact set_apartR (pair_old hg1w BCC0.out) HIQ.out
    have GW1 : Hid (w.grownBy V1 none) := by rw [HV1.out]; exact grown_setNew (grown_trans GW0.out hg1w) _ HQw.out _ _
    have SZ1 : Hid (base ≤ V1.heap.size) := by rw [HV1.out]; show base ≤ _; have := Nat.le_trans SZ0.out hg1w.size; simpa [World.setCell] using this
    have O1_1 : Hid (Own base V1 (.slice xa1 bn.length xc1) bn) := by rw [HV1.out]; exact (own_mono ho1 SZ0.out).lateK HQb.out _ _
    clear c0 c1 c2 c3 c4 f0 f1 f2 f3 f4 m0 m1 m2 m3 m4 y0 y1 y2 y3 y4 d0 d1 d2 d3 d4 ho1
    obtain ⟨⟨c0, c1, c2, c3, c4⟩, ⟨f0, f1, f2, f3, f4⟩, _⟩ := five_room hg1w BQ0.out
    go_upto_region 7 with fail
    rw [← HV1.out]
    clear c0 c1 c2 c3 c4 f0 f1 f2 f3 f4
    obtain ⟨⟨d0, d1, d2, d3, d4⟩, hfz, _⟩ := five_room (grown_refl V1 none) BCC1.out
    clear hfz
    obtain ⟨⟨c0, c1, c2, c3, c4⟩, ⟨f0, f1, f2, f3, f4⟩, _⟩ := five_room (grown_refl V1 none) BQ1.out
    obtain ⟨⟨m0, m1, m2, m3, m4⟩, ⟨y0, y1, y2, y3, y4⟩, _⟩ := five_room (grown_refl V1 none) BRR1.out
    go_wp2_with fail
    refine (KY.out _ GW1.out).mono ?_
    rintro e u2w ⟨x2, rfl, ho2, hg2w⟩
    obtain ⟨xa2, xc2, rfl⟩ := ho2.shape
    obtain ⟨V2, HV2⟩ : ∃ V : World, Hid (V = u2w.setCell ⟨QB, 2, none⟩ (.slice xa2 bk.length xc2)) := ⟨_, rfl⟩
    have BQ2 : Hid (V2.heap[QB]? = some (.cells #[.int .i64 5, .slice xa1 bn.length xc1, .slice xa2 bk.length xc2, .slice none 0 0, .slice none 0 0] 24)) := by rw [HV2.out]; exact set_selfR (pair_old hg2w BQ1.out)
    have BRR2 : Hid (V2.heap[RB]? = some (.cells #[.int .i64 0, .slice none 0 0, .slice none 0 0, .slice none 0 0, .slice none 0 0] 24)) := by rw [HV2.out]; exact set_apartR (pair_old hg2w BRR1.out) HRQ.out
    have BCC2 : Hid (V2.heap[IB]? = some (.cells #[.int .i64 CK, .slice n1 x0 n2, .slice k1 x1 k2, .slice l1 x2 l2, .slice v1 x3 v2] 32)) := by rw [HV2.out]; exact set_apartR (pair_old hg2w BCC1.out) HIQ.out
    have GW2 : Hid (w.grownBy V2 none) := by rw [HV2.out]; exact grown_setNew (grown_trans GW1.out hg2w) _ HQw.out _ _
    have SZ2 : Hid (base ≤ V2.heap.size) := by rw [HV2.out]; show base ≤ _; have := Nat.le_trans SZ1.out hg2w.size; simpa [World.setCell] using this
    have O2_2 : Hid (Own base V2 (.slice xa2 bk.length xc2) bk) := by rw [HV2.out]; exact (own_mono ho2 SZ1.out).lateK HQb.out _ _
    have O1_2 : Hid (Own base V2 (.slice xa1 bn.length xc1) bn) := by rw [HV2.out]; exact (O1_1.out.grownNone hg2w).lateK HQb.out _ _
    clear c0 c1 c2 c3 c4 f0 f1 f2 f3 f4 m0 m1 m2 m3 m4 y0 y1 y2 y3 y4 d0 d1 d2 d3 d4 ho2
    obtain ⟨⟨c0, c1, c2, c3, c4⟩, ⟨f0, f1, f2, f3, f4⟩, _⟩ := five_room hg2w BQ1.out
    go_upto_region 16 with fail
    rw [← HV2.out]
    clear c0 c1 c2 c3 c4 f0 f1 f2 f3 f4
    obtain ⟨⟨d0, d1, d2, d3, d4⟩, hfz, _⟩ := five_room (grown_refl V2 none) BCC2.out
    clear hfz
    obtain ⟨⟨c0, c1, c2, c3, c4⟩, ⟨f0, f1, f2, f3, f4⟩, _⟩ := five_room (grown_refl V2 none) BQ2.out
    obtain ⟨⟨m0, m1, m2, m3, m4⟩, ⟨y0, y1, y2, y3, y4⟩, _⟩ := five_room (grown_refl V2 none) BRR2.out
    have hQ5 := five_set BRR2.out (.int .i64 5) (.slice xa1 bn.length xc1) (.slice xa2 bk.length xc2) (.slice none 0 0) (.slice none 0 0)
    obtain ⟨⟨r0, r1, r2, r3, r4⟩, hfz, _⟩ := five_room (grown_refl _ none) hQ5
    have hgQ := five_grown GW2.out HRw.out (.int .i64 5) (.slice xa1 bn.length xc1) (.slice xa2 bk.length xc2) (.slice none 0 0) (.slice none 0 0)
    have HRES : Hid (RqIs (set5 V2 RB (.int .i64 5) (.slice xa1 bn.length xc1) (.slice xa2 bk.length xc2) (.slice none 0 0) (.slice none 0 0)) (.agg #[.int .i64 5, .slice xa1 bn.length xc1, .slice xa2 bk.length xc2, .slice none 0 0, .slice none 0 0]) (RQ 4)) := by rw [HQ4.out]; exact ⟨_, _, _, _, rfl, (O1_2.out.lateK5 HRb.out _ _ _ _ _).slice, (O2_2.out.lateK5 HRb.out _ _ _ _ _).slice, sliceIs_nil _, sliceIs_nil _⟩
    clear hQ5 hfz
    go_wp2
    refine bodyPost_ret (v := .agg #[.int .i64 5, .slice xa1 bn.length xc1, .slice xa2 bk.length xc2, .slice none 0 0, .slice none 0 0]) (by simp [results, Tryd.results10, go_sem, r0, r1, r2, r3, r4]) rfl ?_
    exact ⟨4, by omega, _, rfl, HRES.out, hgQ⟩
  · obtain ⟨V0, HV0, hgA, BQ0⟩ := alloc_namedR W1 (.cells #[.int .i64 6, .slice none 0 0, .slice none 0 0, .slice none 0 0, .slice none 0 0] 24)
    rw [HSQ.out] at BQ0
    have GW0 : Hid (w.grownBy V0 none) := grown_trans hg01 hgA
    have BCC0 : Hid (V0.heap[IB]? = some (.cells #[.int .i64 CK, .slice n1 x0 n2, .slice k1 x1 k2, .slice l1 x2 l2, .slice v1 x3 v2] 32)) := pair_old hgA BC1.out
    have BRR0 : Hid (V0.heap[RB]? = some (.cells #[.int .i64 0, .slice none 0 0, .slice none 0 0, .slice none 0 0, .slice none 0 0] 24)) := pair_old hgA BR0.out
    have SZ0 : Hid (base ≤ V0.heap.size) := by show base ≤ _; rw [HV0.out, HSB.out]; simp
    go_upto_region 2 with fail
    rw [← HV0.out, HSQ.out]
    clear d0 d1 d2 d3 d4
    obtain ⟨⟨d0, d1, d2, d3, d4⟩, hfz, _⟩ := five_room (grown_refl V0 none) BCC0.out
    clear hfz
    obtain ⟨⟨c0, c1, c2, c3, c4⟩, ⟨f0, f1, f2, f3, f4⟩, _⟩ := five_room (grown_refl V0 none) BQ0.out
    obtain ⟨⟨m0, m1, m2, m3, m4⟩, ⟨y0, y1, y2, y3, y4⟩, _⟩ := five_room (grown_refl V0 none) BRR0.out
    have hQ5 := five_set BRR0.out (.int .i64 6) (.slice none 0 0) (.slice none 0 0) (.slice none 0 0) (.slice none 0 0)
    obtain ⟨⟨r0, r1, r2, r3, r4⟩, hfz, _⟩ := five_room (grown_refl _ none) hQ5
    have hgQ := five_grown GW0.out HRw.out (.int .i64 6) (.slice none 0 0) (.slice none 0 0) (.slice none 0 0) (.slice none 0 0)
    have HRES : Hid (RqIs (set5 V0 RB (.int .i64 6) (.slice none 0 0) (.slice none 0 0) (.slice none 0 0) (.slice none 0 0)) (.agg #[.int .i64 6, .slice none 0 0, .slice none 0 0, .slice none 0 0, .slice none 0 0]) (RQ 5)) := by rw [HQ5.out]; exact ⟨_, _, _, _, rfl, sliceIs_nil _, sliceIs_nil _, sliceIs_nil _, sliceIs_nil _⟩
    clear hQ5 hfz
    go_wp2
    refine bodyPost_ret (v := .agg #[.int .i64 6, .slice none 0 0, .slice none 0 0, .slice none 0 0, .slice none 0 0]) (by simp [results, Tryd.results10, go_sem, r0, r1, r2, r3, r4]) rfl ?_
    exact ⟨5, by omega, _, rfl, HRES.out, hgQ⟩
  · obtain ⟨V0, HV0, hgA, BQ0⟩ := alloc_namedR W1 (.cells #[.int .i64 7, .slice none 0 0, .slice none 0 0, .slice none 0 0, .slice none 0 0] 24)
    rw [HSQ.out] at BQ0
    have GW0 : Hid (w.grownBy V0 none) := grown_trans hg01 hgA
    have BCC0 : Hid (V0.heap[IB]? = some (.cells #[.int .i64 CK, .slice n1 x0 n2, .slice k1 x1 k2, .slice l1 x2 l2, .slice v1 x3 v2] 32)) := pair_old hgA BC1.out
    have BRR0 : Hid (V0.heap[RB]? = some (.cells #[.int .i64 0, .slice none 0 0, .slice none 0 0, .slice none 0 0, .slice none 0 0] 24)) := pair_old hgA BR0.out
    have SZ0 : Hid (base ≤ V0.heap.size) := by show base ≤ _; rw [HV0.out, HSB.out]; simp
    go_upto_region 2 with fail
    rw [← HV0.out, HSQ.out]
    clear d0 d1 d2 d3 d4
    obtain ⟨⟨d0, d1, d2, d3, d4⟩, hfz, _⟩ := five_room (grown_refl V0 none) BCC0.out
    clear hfz
    obtain ⟨⟨c0, c1, c2, c3, c4⟩, ⟨f0, f1, f2, f3, f4⟩, _⟩ := five_room (grown_refl V0 none) BQ0.out
    obtain ⟨⟨m0, m1, m2, m3, m4⟩, ⟨y0, y1, y2, y3, y4⟩, _⟩ := five_room (grown_refl V0 none) BRR0.out
    have hQ5 := five_set BRR0.out (.int .i64 7) (.slice none 0 0) (.slice none 0 0) (.slice none 0 0) (.slice none 0 0)
    obtain ⟨⟨r0, r1, r2, r3, r4⟩, hfz, _⟩ := five_room (grown_refl _ none) hQ5
    have hgQ := five_grown GW0.out HRw.out (.int .i64 7) (.slice none 0 0) (.slice none 0 0) (.slice none 0 0) (.slice none 0 0)
    have HRES : Hid (RqIs (set5 V0 RB (.int .i64 7) (.slice none 0 0) (.slice none 0 0) (.slice none 0 0) (.slice none 0 0)) (.agg #[.int .i64 7, .slice none 0 0, .slice none 0 0, .slice none 0 0, .slice none 0 0]) (RQ 6)) := by rw [HQ6.out]; exact ⟨_, _, _, _, rfl, sliceIs_nil _, sliceIs_nil _, sliceIs_nil _, sliceIs_nil _⟩
    clear hQ5 hfz
    go_wp2
    refine bodyPost_ret (v := .agg #[.int .i64 7, .slice none 0 0, .slice none 0 0, .slice none 0 0, .slice none 0 0]) (by simp [results, Tryd.results10, go_sem, r0, r1, r2, r3, r4]) rfl ?_
    exact ⟨6, by omega, _, rfl, HRES.out, hgQ⟩
  · obtain ⟨V0, HV0, hgA, BQ0⟩ := alloc_namedR W1 (.cells #[.int .i64 8, .slice none 0 0, .slice none 0 0, .slice none 0 0, .slice none 0 0] 24)
    rw [HSQ.out] at BQ0
    have GW0 : Hid (w.grownBy V0 none) := grown_trans hg01 hgA
    have BCC0 : Hid (V0.heap[IB]? = some (.cells #[.int .i64 CK, .slice n1 x0 n2, .slice k1 x1 k2, .slice l1 x2 l2, .slice v1 x3 v2] 32)) := pair_old hgA BC1.out
    have BRR0 : Hid (V0.heap[RB]? = some (.cells #[.int .i64 0, .slice none 0 0, .slice none 0 0, .slice none 0 0, .slice none 0 0] 24)) := pair_old hgA BR0.out
    have SZ0 : Hid (base ≤ V0.heap.size) := by show base ≤ _; rw [HV0.out, HSB.out]; simp
    go_upto_region 2 with fail
    rw [← HV0.out, HSQ.out]
    clear d0 d1 d2 d3 d4
    obtain ⟨⟨d0, d1, d2, d3, d4⟩, hfz, _⟩ := five_room (grown_refl V0 none) BCC0.out
    clear hfz
    obtain ⟨⟨c0, c1, c2, c3, c4⟩, ⟨f0, f1, f2, f3, f4⟩, _⟩ := five_room (grown_refl V0 none) BQ0.out
    obtain ⟨⟨m0, m1, m2, m3, m4⟩, ⟨y0, y1, y2, y3, y4⟩, _⟩ := five_room (grown_refl V0 none) BRR0.out
    go_wp2_with fail
    refine (NM.out _ GW0.out).mono ?_
    rintro e u1w ⟨x1, rfl, ho1, hg1w⟩
    obtain ⟨xa1, xc1, rfl⟩ := ho1.shape
    obtain ⟨V1, HV1⟩ : ∃ V : World, Hid (V = u1w.setCell ⟨QB, 1, none⟩ (.slice xa1 bn.length xc1)) := ⟨_, rfl⟩
    have BQ1 : Hid (V1.heap[QB]? = some (.cells #[.int .i64 8, .slice xa1 bn.length xc1, .slice none 0 0, .slice none 0 0, .slice none 0 0] 24)) := by rw [HV1.out]; exact set_selfR (pair_old hg1w BQ0.out)
    have BRR1 : Hid (V1.heap[RB]? = some (.cells #[.int .i64 0, .slice none 0 0, .slice none 0 0, .slice none 0 0, .slice none 0 0] 24)) := by rw [HV1.out]; exact set_apartR (pair_old hg1w BRR0.out) HRQ.out
    have BCC1 : Hid (V1.heap[IB]? = some (.cells #[.int .i64 CK, .slice n1 x0 n2, .slice k1 x1 k2, .slice l1 x2 l2, .slice v1 x3 v2] 32)) := by rw [HV1.out]; exact set_apartR (pair_old hg1w BCC0.out) HIQ.out
    have GW1 : Hid (w.grownBy V1 none) := by rw [HV1.out]; exact grown_setNew (grown_trans GW0.out hg1w) _ HQw.out _ _
    have SZ1 : Hid (base ≤ V1.heap.size) := by rw [HV1.out]; show base ≤ _; have := Nat.le_trans SZ0.out hg1w.size; simpa [World.setCell] using this
    have O1_1 : Hid (Own base V1 (.slice xa1 bn.length xc1) bn) := by rw [HV1.out]; exact (own_mono ho1 SZ0.out).lateK HQb.out _ _
    clear c0 c1 c2 c3 c4 f0 f1 f2 f3 f4 m0 m1 m2 m3 m4 y0 y1 y2 y3 y4 d0 d1 d2 d3 d4 ho1
    obtain ⟨⟨c0, c1, c2, c3, c4⟩, ⟨f0, f1, f2, f3, f4⟩, _⟩ := five_room hg1w BQ0.out
    go_upto_region 7 with fail
    rw [← HV1.out]
    clear c0 c1 c2 c3 c4 f0 f1 f2 f3 f4
    obtain ⟨⟨d0, d1, d2, d3, d4⟩, hfz, _⟩ := five_room (grown_refl V1 none) BCC1.out
    clear hfz
    obtain ⟨⟨c0, c1, c2, c3, c4⟩, ⟨f0, f1, f2, f3, f4⟩, _⟩ := five_room (grown_refl V1 none) BQ1.out
    obtain ⟨⟨m0, m1, m2, m3, m4⟩, ⟨y0, y1, y2, y3, y4⟩, _⟩ := five_room (grown_refl V1 none) BRR1.out
    go_wp2_with fail
    refine (KY.out _ GW1.out).mono ?_
    rintro e u2w ⟨x2, rfl, ho2, hg2w⟩
    obtain ⟨xa2, xc2, rfl⟩ := ho2.shape
    obtain ⟨V2, HV2⟩ : ∃ V : World, Hid (V = u2w.setCell ⟨QB, 2, none⟩ (.slice xa2 bk.length xc2)) := ⟨_, rfl⟩
    have BQ2 : Hid (V2.heap[QB]? = some (.cells #[.int .i64 8, .slice xa1 bn.length xc1, .slice xa2 bk.length xc2, .slice none 0 0, .slice none 0 0] 24)) := by rw [HV2.out]; exact set_selfR (pair_old hg2w BQ1.out)
    have BRR2 : Hid (V2.heap[RB]? = some (.cells #[.int .i64 0, .slice none 0 0, .slice none 0 0, .slice none 0 0, .slice none 0 0] 24)) := by rw [HV2.out]; exact set_apartR (pair_old hg2w BRR1.out) HRQ.out
    have BCC2 : Hid (V2.heap[IB]? = some (.cells #[.int .i64 CK, .slice n1 x0 n2, .slice k1 x1 k2, .slice l1 x2 l2, .slice v1 x3 v2] 32)) := by rw [HV2.out]; exact set_apartR (pair_old hg2w BCC1.out) HIQ.out
    have GW2 : Hid (w.grownBy V2 none) := by rw [HV2.out]; exact grown_setNew (grown_trans GW1.out hg2w) _ HQw.out _ _
    have SZ2 : Hid (base ≤ V2.heap.size) := by rw [HV2.out]; show base ≤ _; have := Nat.le_trans SZ1.out hg2w.size; simpa [World.setCell] using this
    have O2_2 : Hid (Own base V2 (.slice xa2 bk.length xc2) bk) := by rw [HV2.out]; exact (own_mono ho2 SZ1.out).lateK HQb.out _ _
    have O1_2 : Hid (Own base V2 (.slice xa1 bn.length xc1) bn) := by rw [HV2.out]; exact (O1_1.out.grownNone hg2w).lateK HQb.out _ _
    clear c0 c1 c2 c3 c4 f0 f1 f2 f3 f4 m0 m1 m2 m3 m4 y0 y1 y2 y3 y4 d0 d1 d2 d3 d4 ho2
    obtain ⟨⟨c0, c1, c2, c3, c4⟩, ⟨f0, f1, f2, f3, f4⟩, _⟩ := five_room hg2w BQ1.out
    go_upto_region 16 with fail
    rw [← HV2.out]
    clear c0 c1 c2 c3 c4 f0 f1 f2 f3 f4
    obtain ⟨⟨d0, d1, d2, d3, d4⟩, hfz, _⟩ := five_room (grown_refl V2 none) BCC2.out
    clear hfz
    obtain ⟨⟨c0, c1, c2, c3, c4⟩, ⟨f0, f1, f2, f3, f4⟩, _⟩ := five_room (grown_refl V2 none) BQ2.out
    obtain ⟨⟨m0, m1, m2, m3, m4⟩, ⟨y0, y1, y2, y3, y4⟩, _⟩ := five_room (grown_refl V2 none) BRR2.out
    have hQ5 := five_set BRR2.out (.int .i64 8) (.slice xa1 bn.length xc1) (.slice xa2 bk.length xc2) (.slice none 0 0) (.slice none 0 0)
    obtain ⟨⟨r0, r1, r2, r3, r4⟩, hfz, _⟩ := five_room (grown_refl _ none) hQ5
    have hgQ := five_grown GW2.out HRw.out (.int .i64 8) (.slice xa1 bn.length xc1) (.slice xa2 bk.length xc2) (.slice none 0 0) (.slice none 0 0)
    have HRES : Hid (RqIs (set5 V2 RB (.int .i64 8) (.slice xa1 bn.length xc1) (.slice xa2 bk.length xc2) (.slice none 0 0) (.slice none 0 0)) (.agg #[.int .i64 8, .slice xa1 bn.length xc1, .slice xa2 bk.length xc2, .slice none 0 0, .slice none 0 0]) (RQ 7)) := by rw [HQ7.out]; exact ⟨_, _, _, _, rfl, (O1_2.out.lateK5 HRb.out _ _ _ _ _).slice, (O2_2.out.lateK5 HRb.out _ _ _ _ _).slice, sliceIs_nil _, sliceIs_nil _⟩
    clear hQ5 hfz
    go_wp2
    refine bodyPost_ret (v := .agg #[.int .i64 8, .slice xa1 bn.length xc1, .slice xa2 bk.length xc2, .slice none 0 0, .slice none 0 0]) (by simp [results, Tryd.results10, go_sem, r0, r1, r2, r3, r4]) rfl ?_
    exact ⟨7, by omega, _, rfl, HRES.out, hgQ⟩
end Go.Proofs.YtghjikifflpeiabDoor
