/-
  The walk of canopylaw.TxnLooks, over what the code must keep.
-/
import Derived.Test.YtpmfbfflacbmjaaPart6
import Derived.Test.YtpmfbfflacbmjaaRTx6
import Derived.Test.YtpmfbfflacbmjaaRTx9
import Derived.Test.YtpmfbfflacbmjaaLTens
import Derived.Test.YtpmfbfflacbmjaaLFind
import Derived.Test.YtpmfbfflacbmjaaOctets
import Derived.Deep.RegionHeld3
namespace Go.Proofs.Ytpmfbfflacbmjaa
open Go.RowKit
theorem own_tx5 {rb rb' : Nat} {w : World} {ra wa : Option Addr} {rc wd : Nat} {t : Tx} (h1 : OwnR rb 0 w (.slice ra t.reads.length rc) t.reads) (h2 : OwnV rb' 0 w (.slice wa t.writes.length wd) t.writes) : TxIs w (.agg #[.int .i64 t.start, .slice ra t.reads.length rc, .slice wa t.writes.length wd]) t := ⟨_, _, rfl, h1.list, h2.list⟩
set_option maxRecDepth 100000 in
set_option maxHeartbeats 4000000 in
theorem txnLooks_walk (hL : TxLookOK) (w : World) (v u a b : Value) (l : FL) (t : Tx) (n k : List UInt8) (hv : TensIs w v l) (hl : FitsT l) (hu : TxIs w u t) (hf : FitsX t) (ha : SliceIs w a n) (hb : SliceIs w b k) (hn : n.length ≤ 140737488355328) (hk : k.length ≤ 140737488355328) :
    Calls Try.prog 6 #[v, u, a, b] w fun e w' => e = .returned (.bool true) ∧ w.grownBy w' none := by
  obtain ⟨la, lc, rfl⟩ := hv.shape
  obtain ⟨ra, rc, wa, wd, rfl⟩ := hu.agg
  obtain ⟨na, nc, rfl⟩ := ha.shape
  obtain ⟨ka, kc, rfl⟩ := hb.shape
  obtain ⟨W1, HW1, hg1, B1⟩ := alloc_namedX w (.cells #[.int .i64 t.start, .slice ra t.reads.length rc, .slice wa t.writes.length wd] 25)
  have CT : Hid (∀ w', W1.grownBy w' none → Calls Try.prog 20 #[.slice la l.length lc] w' fun e w'' => ∃ ta tc, e = .returned (.slice ta l.length tc) ∧ TensIs w'' (.slice ta l.length tc) l ∧ w'.grownBy w'' none) := fun w' h => by
    refine (tenants_any w' _ l (hv.grown (grown_trans hg1 h)) hl).mono ?_
    rintro e w'' ⟨x, rfl, hx, hg⟩
    have hx' := hx.list
    obtain ⟨ta, tc, rfl⟩ := hx'.shape
    exact ⟨ta, tc, rfl, hx', hg⟩
  have CP : Hid (∀ w', W1.grownBy w' none → Calls Try.prog 9 #[.agg #[.int .i64 t.start, .slice ra t.reads.length rc, .slice wa t.writes.length wd]] w' fun e w'' => ∃ c1 c2 c3 c4, e = .returned (.agg #[.int .i64 t.start, .slice c1 t.reads.length c2, .slice c3 t.writes.length c4]) ∧ TxIs w'' (.agg #[.int .i64 t.start, .slice c1 t.reads.length c2, .slice c3 t.writes.length c4]) t ∧ w'.grownBy w'' none) := fun w' h => by
    refine (txnCopy_any w' _ t (hu.grown (grown_trans hg1 h)) hf).mono ?_
    rintro e w'' ⟨r1, r2, r3, r4, rfl, h1, h2, hg⟩
    exact ⟨r1, r2, r3, r4, rfl, own_tx5 h1 h2, hg⟩
  have ON : Hid (∀ w', W1.grownBy w' none → Calls Try.prog 21 #[.slice na n.length nc] w' fun e w'' => ∃ n1 n2, e = .returned (.slice n1 n.length n2) ∧ SliceIs w'' (.slice n1 n.length n2) n ∧ w'.grownBy w'' none) := fun w' h => by
    refine (octets_any w' _ n (ha.grown (grown_trans hg1 h)) hn).mono ?_
    rintro e w'' ⟨x, rfl, hx, hg⟩
    have hx' : SliceIs w'' x n := (hx.part (base := 0)).slice
    obtain ⟨n1, n2, rfl⟩ := hx'.shape
    exact ⟨n1, n2, rfl, hx', hg⟩
  have OK1 : Hid (∀ w', W1.grownBy w' none → Calls Try.prog 21 #[.slice ka k.length kc] w' fun e w'' => ∃ k1 k2, e = .returned (.slice k1 k.length k2) ∧ SliceIs w'' (.slice k1 k.length k2) k ∧ w'.grownBy w'' none) := fun w' h => by
    refine (octets_any w' _ k (hb.grown (grown_trans hg1 h)) hk).mono ?_
    rintro e w'' ⟨x, rfl, hx, hg⟩
    have hx' : SliceIs w'' x k := (hx.part (base := 0)).slice
    obtain ⟨n1, n2, rfl⟩ := hx'.shape
    exact ⟨n1, n2, rfl, hx', hg⟩
  have LK : Hid (∀ w' x y p q, TensIs w' x l → TxIs w' y t → SliceIs w' p n → SliceIs w' q k → Calls Try.prog 19 #[x, y, p, q] w' fun e w'' => ∃ xa xc, e = .returned (.tuple #[.agg #[.bool (lookB l t n k), .slice xa (lookV l t n k).length xc], .bool (lookO l t n k), .int .i64 (lookE l t n k)]) ∧ SliceIs w'' (.slice xa (lookV l t n k).length xc) (lookV l t n k) ∧ w'.grownBy w'' none) := fun w' x y p q h1 h2 h3 h4 => by
    refine (hL w' x y p q l t n k h1 hl h2 hf h3 h4 hn hk).mono ?_
    rintro e w'' ⟨z, rfl, hz, hg⟩
    obtain ⟨n1, n2, rfl⟩ := hz.shape
    exact ⟨n1, n2, rfl, hz, hg⟩
  have RL : Hid (∀ w', W1.grownBy w' none → Calls Try.prog 22 #[.slice la l.length lc, .agg #[.int .i64 t.start, .slice ra t.reads.length rc, .slice wa t.writes.length wd], .slice na n.length nc, .slice ka k.length kc] w' fun e w'' => ∃ xa xc, e = .returned (.tuple #[.agg #[.bool (lookB l t n k), .slice xa (lookV l t n k).length xc], .bool (lookO l t n k), .int .i64 (lookE l t n k)]) ∧ SliceIs w'' (.slice xa (lookV l t n k).length xc) (lookV l t n k) ∧ w'.grownBy w'' none) := fun w' h => by
    have hgw := grown_trans hg1 h
    refine (looked_any w' _ _ _ _ l t n k (hv.grown hgw) (hu.grown hgw) hf (ha.grown hgw) (hb.grown hgw)).mono ?_
    rintro e w'' ⟨z, rfl, hz, hg⟩
    obtain ⟨n1, n2, rfl⟩ := hz.shape
    exact ⟨n1, n2, rfl, hz, hg⟩
  have SF : Hid (∀ w' x y, SliceIs w' x (lookV l t n k) → SliceIs w' y (lookV l t n k) → Calls Try.prog 23 #[.agg #[.bool (lookB l t n k), x], .agg #[.bool (lookB l t n k), y]] w' fun e w'' => e = .returned (.bool true) ∧ w'.grownBy w'' none) := fun w' x y h1 h2 => by
    have := sameFinding_any w' (lookB l t n k) (lookB l t n k) x y _ _ h1 h2
    refine this.mono ?_
    rintro e w'' ⟨rfl, hg⟩
    exact ⟨by simp, hg⟩
  clear hv hl hu hf ha hb hn hk hL
  generalize lookB l t n k = ZB at *
  generalize lookV l t n k = ZV at *
  generalize lookO l t n k = ZO at *
  generalize lookE l t n k = ZE at *
  have hzz : (ZE == ZE) = true := by simp
  have hoo : (ZO == ZO) = true := by simp
  go_enter Try.func6, Try.ntmps6
  go_upto_region 1 with fail
  rw [← HW1.out]
  obtain ⟨IB, hIB⟩ : ∃ IB, IB = w.heap.size := ⟨_, rfl⟩
  rw [← hIB] at B1 ⊢
  clear hIB HW1
  go_cut [9, 10, 11] (fun s9 s10 s11 wx => ∃ (nb : Nat) (xa : Option Addr) (xc : Nat), s9 = .pointer (some ⟨nb, 0, none⟩) ∧ s10 = .bool ZO ∧ s11 = .int .i64 ZE ∧ wx.heap[nb]? = some (.cells #[.bool ZB, .slice xa ZV.length xc] 45) ∧ SliceIs wx (.slice xa ZV.length xc) ZV ∧ W1.grownBy wx none)
  case first =>
    obtain ⟨l0, l1, l2⟩ := trip_room (grown_refl W1 none) B1.out
    have hIBs : IB < W1.heap.size := (Array.getElem?_eq_some_iff.1 B1.out).1
    have hgd := grown_drew (grown_refl W1 none)
    obtain ⟨WA, hWA⟩ : ∃ WA : World, WA = W1.alloc (.cells #[.bool false, .slice none 0 0] 45) := ⟨_, rfl⟩
    have hgA : W1.grownBy WA.drew none := by rw [hWA]; exact grown_drew (World.grownBy_alloc _ _ _)
    have HPA : Hid (WA.drew.heap[W1.heap.size]? = some (.cells #[.bool false, .slice none 0 0] 45)) := by rw [hWA]; exact heap_alloc_new W1 _
    have HWA : Hid (WA = W1.alloc (.cells #[.bool false, .slice none 0 0] 45)) := hWA
    clear hWA
    have e0 := hgd.cell l0 (by simp)
    have e1 := hgd.cell l1 (by simp)
    have e2 := hgd.cell l2 (by simp)
    have m0 := hgA.cell l0 (by simp)
    have m1 := hgA.cell l1 (by simp)
    have m2 := hgA.cell l2 (by simp)
    go_region_held3 (fun w' => w'.cell? ⟨IB, 0, none⟩ = some (.int .i64 t.start) ∧ w'.cell? ⟨IB, 1, none⟩ = some (.slice ra t.reads.length rc) ∧ w'.cell? ⟨IB, 2, none⟩ = some (.slice wa t.writes.length wd))
      (first | with_reducible exact ⟨e0, e1, e2⟩ | (rw [← HWA.out]; with_reducible exact ⟨m0, m1, m2⟩) | with_reducible exact ⟨ta0, ta1, ta2⟩ | (rw [← HWt.out]; with_reducible exact ⟨tb0, tb1, tb2⟩) | with_reducible exact ⟨ca0, ca1, ca2⟩ | (rw [← HWc.out]; with_reducible exact ⟨cb0, cb1, cb2⟩) | with_reducible exact ⟨na0, na1, na2⟩ | (rw [← HWn.out]; with_reducible exact ⟨nb0, nb1, nb2⟩) | with_reducible exact ⟨ka0, ka1, ka2⟩ | (rw [← HWk.out]; with_reducible exact ⟨kb0, kb1, kb2⟩) | with_reducible exact ⟨xa0, xa1, xa2⟩ | with_reducible exact ⟨(World.grownBy_alloc _ _ none).cell xa0 (by simp), (World.grownBy_alloc _ _ none).cell xa1 (by simp), (World.grownBy_alloc _ _ none).cell xa2 (by simp)⟩ | (refine ⟨?_, ?_, ?_⟩ <;> (rw [World.cell?_setCell_other _ _ _ _ (by intro e; injection e with e1 e2; omega), World.cell?_setCell_other _ _ _ _ (by intro e; injection e with e1 e2; omega)]; first | with_reducible assumption | with_reducible exact (World.grownBy_alloc _ _ none).cell xa0 (by simp) | with_reducible exact (World.grownBy_alloc _ _ none).cell xa1 (by simp) | with_reducible exact (World.grownBy_alloc _ _ none).cell xa2 (by simp))))
      (first
        | (go_at_call 20
           first
             | (rw [← HWA.out]; refine (CT.out _ hgA).mono ?_
                rintro e wt ⟨ta, tc, rfl, h, hgt⟩
                have hgmt : W1.grownBy wt none := grown_trans hgA hgt
                have HNB : Hid (wt.heap[W1.heap.size]? = some (.cells #[.bool false, .slice none 0 0] 45)) := pair_old hgt HPA.out
                )
             | (refine (CT.out _ hgd).mono ?_
                rintro e wt ⟨ta, tc, rfl, h, hgt⟩
                have hgmt : W1.grownBy wt none := grown_trans hgd hgt
                )
           have HT : Hid (TensIs wt (.slice ta l.length tc) l) := h
           have hszt := hgmt.size
           have ta0 := hgmt.cell l0 (by simp)
           have ta1 := hgmt.cell l1 (by simp)
           have ta2 := hgmt.cell l2 (by simp)
           obtain ⟨WBt, HWt, hbt, HPt⟩ := alloc_namedX wt (.cells #[.bool false, .slice none 0 0] 45)
           have hgBt := grown_trans hgmt hbt
           have tb0 := hgBt.cell l0 (by simp)
           have tb1 := hgBt.cell l1 (by simp)
           have tb2 := hgBt.cell l2 (by simp)
           clear h)
        | (go_at_call 9
           first
             | (rw [← HWt.out]; refine (CP.out _ hgBt).mono ?_
                rintro e wc ⟨c1, c2, c3, c4, rfl, h, hgc⟩
                have hgmc : W1.grownBy wc none := grown_trans hgBt hgc
                have HNB : Hid (wc.heap[wt.heap.size]? = some (.cells #[.bool false, .slice none 0 0] 45)) := pair_old hgc HPt.out
                have hst : wt.grownBy wc none := grown_trans hbt hgc
                )
             | (refine (CP.out _ hgmt).mono ?_
                rintro e wc ⟨c1, c2, c3, c4, rfl, h, hgc⟩
                have hgmc : W1.grownBy wc none := grown_trans hgmt hgc
                have hst : wt.grownBy wc none := hgc
                first | (replace HNB : Hid _ := pair_old hgc HNB.out) | skip
                )
           replace HT : Hid (TensIs wc (.slice ta l.length tc) l) := HT.out.grown hst
           clear hst
           have HC : Hid (TxIs wc (.agg #[.int .i64 t.start, .slice c1 t.reads.length c2, .slice c3 t.writes.length c4]) t) := h
           have hszc := hgmc.size
           have ca0 := hgmc.cell l0 (by simp)
           have ca1 := hgmc.cell l1 (by simp)
           have ca2 := hgmc.cell l2 (by simp)
           obtain ⟨WBc, HWc, hbc, HPc⟩ := alloc_namedX wc (.cells #[.bool false, .slice none 0 0] 45)
           have hgBc := grown_trans hgmc hbc
           have cb0 := hgBc.cell l0 (by simp)
           have cb1 := hgBc.cell l1 (by simp)
           have cb2 := hgBc.cell l2 (by simp)
           clear h)
        | (go_at_call_of 21 (Value.slice na n.length nc)
           first
             | (rw [← HWc.out]; refine (ON.out _ hgBc).mono ?_
                rintro e wn ⟨n1, n2, rfl, h, hgn⟩
                have hgmn : W1.grownBy wn none := grown_trans hgBc hgn
                have HNB : Hid (wn.heap[wc.heap.size]? = some (.cells #[.bool false, .slice none 0 0] 45)) := pair_old hgn HPc.out
                have hst : wc.grownBy wn none := grown_trans hbc hgn
                )
             | (refine (ON.out _ hgmc).mono ?_
                rintro e wn ⟨n1, n2, rfl, h, hgn⟩
                have hgmn : W1.grownBy wn none := grown_trans hgmc hgn
                have hst : wc.grownBy wn none := hgn
                first | (replace HNB : Hid _ := pair_old hgn HNB.out) | skip
                )
           replace HT : Hid (TensIs wn (.slice ta l.length tc) l) := HT.out.grown hst
           replace HC : Hid (TxIs wn (.agg #[.int .i64 t.start, .slice c1 t.reads.length c2, .slice c3 t.writes.length c4]) t) := HC.out.grown hst
           clear hst
           have HN : Hid (SliceIs wn (.slice n1 n.length n2) n) := h
           have hszn := hgmn.size
           have na0 := hgmn.cell l0 (by simp)
           have na1 := hgmn.cell l1 (by simp)
           have na2 := hgmn.cell l2 (by simp)
           obtain ⟨WBn, HWn, hbn, HPn⟩ := alloc_namedX wn (.cells #[.bool false, .slice none 0 0] 45)
           have hgBn := grown_trans hgmn hbn
           have nb0 := hgBn.cell l0 (by simp)
           have nb1 := hgBn.cell l1 (by simp)
           have nb2 := hgBn.cell l2 (by simp)
           clear h)
        | (go_at_call_of 21 (Value.slice ka k.length kc)
           first
             | (rw [← HWn.out]; refine (OK1.out _ hgBn).mono ?_
                rintro e wk ⟨k1, k2, rfl, h, hgk⟩
                have hgmk : W1.grownBy wk none := grown_trans hgBn hgk
                have HNB : Hid (wk.heap[wn.heap.size]? = some (.cells #[.bool false, .slice none 0 0] 45)) := pair_old hgk HPn.out
                have hst : wn.grownBy wk none := grown_trans hbn hgk
                )
             | (refine (OK1.out _ hgmn).mono ?_
                rintro e wk ⟨k1, k2, rfl, h, hgk⟩
                have hgmk : W1.grownBy wk none := grown_trans hgmn hgk
                have hst : wn.grownBy wk none := hgk
                first | (replace HNB : Hid _ := pair_old hgk HNB.out) | skip
                )
           replace HT : Hid (TensIs wk (.slice ta l.length tc) l) := HT.out.grown hst
           replace HC : Hid (TxIs wk (.agg #[.int .i64 t.start, .slice c1 t.reads.length c2, .slice c3 t.writes.length c4]) t) := HC.out.grown hst
           replace HN : Hid (SliceIs wk (.slice n1 n.length n2) n) := HN.out.grown hst
           clear hst
           have HK : Hid (SliceIs wk (.slice k1 k.length k2) k) := h
           have hszk := hgmk.size
           have ka0 := hgmk.cell l0 (by simp)
           have ka1 := hgmk.cell l1 (by simp)
           have ka2 := hgmk.cell l2 (by simp)
           obtain ⟨WBk, HWk, hbk, HPk⟩ := alloc_namedX wk (.cells #[.bool false, .slice none 0 0] 45)
           have hbx := hbk
           have hgBk := grown_trans hgmk hbk
           have kb0 := hgBk.cell l0 (by simp)
           have kb1 := hgBk.cell l1 (by simp)
           have kb2 := hgBk.cell l2 (by simp)
           clear h)
        | (go_at_call 19
           first
             | (rw [← HWk.out]; refine (LK.out _ _ _ _ _ (HT.out.grown hbx) (HC.out.grown hbx) (HN.out.grown hbx) (HK.out.grown hbx)).mono ?_
                rintro e wx ⟨xa, xc, rfl, h, hgx⟩
                have hgmx : W1.grownBy wx none := grown_trans hgBk hgx
                have HNB : Hid (wx.heap[wk.heap.size]? = some (.cells #[.bool false, .slice none 0 0] 45)) := pair_old hgx HPk.out
                have hst : wk.grownBy wx none := grown_trans hbk hgx
                )
             | (refine (LK.out _ _ _ _ _ HT.out HC.out HN.out HK.out).mono ?_
                rintro e wx ⟨xa, xc, rfl, h, hgx⟩
                have hgmx : W1.grownBy wx none := grown_trans hgmk hgx
                have hst : wk.grownBy wx none := hgx
                first | (replace HNB : Hid _ := pair_old hgx HNB.out) | skip
                )
           replace HT : Hid (TensIs wx (.slice ta l.length tc) l) := HT.out.grown hst
           replace HC : Hid (TxIs wx (.agg #[.int .i64 t.start, .slice c1 t.reads.length c2, .slice c3 t.writes.length c4]) t) := HC.out.grown hst
           replace HN : Hid (SliceIs wx (.slice n1 n.length n2) n) := HN.out.grown hst
           replace HK : Hid (SliceIs wx (.slice k1 k.length k2) k) := HK.out.grown hst
           clear hst
           have HX : Hid (SliceIs wx (.slice xa ZV.length xc) ZV) := h
           have hszx := hgmx.size
           have xa0 := hgmx.cell l0 (by simp)
           have xa1 := hgmx.cell l1 (by simp)
           have xa2 := hgmx.cell l2 (by simp)
           first | (have hnb := two_cells' HNB.out; obtain ⟨u0, u1, u2, u3⟩ := hnb) | skip
           clear h))
    all_goals (go_wp2_with fail; go_meet; case rel =>
      first
        | exact ⟨_, xa, xc, rfl, rfl, rfl, heap_alloc_new wx _, HX.out.grown (World.grownBy_alloc _ _ none), grown_alloc hgmx _⟩
        | exact ⟨_, xa, xc, rfl, rfl, rfl, set_self (set_self HNB.out), HX.out.findS HNB.out _ _, grown_setNew (grown_setNew hgmx _ (by omega) _ _) _ (by omega) _ _⟩)
  case rest =>
    obtain ⟨nb, xa, xc, rfl, rfl, rfl, hnb, hx, hgx⟩ := hcut
    have HNB : Hid (wc.heap[nb]? = some (.cells #[.bool ZB, .slice xa ZV.length xc] 45)) := hnb
    have HX1 : Hid (SliceIs wc (.slice xa ZV.length xc) ZV) := hx
    clear hnb hx
    obtain ⟨W4, hW4⟩ : ∃ W4, W4 = wc := ⟨_, rfl⟩
    rw [← hW4] at HNB HX1 hgx ⊢
    clear hW4
    obtain ⟨l0, l1, l2⟩ := trip_room hgx B1.out
    go_wp2_with fail
    refine (RL.out _ hgx).mono ?_
    rintro e w6 ⟨ya, yc, rfl, h6, hg6⟩
    obtain ⟨W7, HW7, hg7, B7⟩ := alloc_namedX w6 (.cells #[.bool ZB, .slice ya ZV.length yc] 45)
    have hg47 := grown_trans hg6 hg7
    have H7 : Hid (SliceIs W7 (.slice ya ZV.length yc) ZV) := h6.grown hg7
    clear h6 l0 l1 l2
    go_upto_region 3 with fail
    rw [← HW7.out]
    obtain ⟨n0, n1, _, _⟩ := pair_room hg47 HNB.out
    obtain ⟨m0, m1, _, _⟩ := pair_room (grown_refl W7 none) B7.out
    have SG : Hid (Calls Try.prog 23 #[.agg #[.bool ZB, .slice xa ZV.length xc], .agg #[.bool ZB, .slice ya ZV.length yc]] W7 fun e w'' => e = .returned (.bool true) ∧ W7.grownBy w'' none) := SF.out W7 _ _ (HX1.out.grown hg47) H7.out
    generalize ZV.length = vl at *
    go_wp2_with fail
    refine SG.out.mono ?_
    rintro e w8 ⟨rfl, hg8⟩
    go_wp2
    go_ret
    exact ⟨rfl, grown_trans hg1 (grown_trans hgx (grown_trans hg47 hg8))⟩
end Go.Proofs.Ytpmfbfflacbmjaa
