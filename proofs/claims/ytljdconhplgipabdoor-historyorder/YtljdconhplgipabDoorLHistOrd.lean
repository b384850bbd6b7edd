/-
  The walk of canopykeep.HistoryOrder, over what the code must keep.
-/
import Derived.Test.YtljdconhplgipabDoorKCommits
import Derived.Test.YtljdconhplgipabDoorPicked
import Derived.Test.YtljdconhplgipabDoorPart5
import Derived.Test.YtljdconhplgipabDoorPart11
import Derived.Deep.RegionWith
namespace Go.Proofs.YtljdconhplgipabDoor
open Go.RowKit
theorem alloc_namedO (w : World) (o : Obj) : ∃ W : World, Hid (W = w.alloc o) ∧ w.grownBy W none ∧ Hid (W.heap[w.heap.size]? = some o) := ⟨w.alloc o, rfl, World.grownBy_alloc _ _ _, heap_alloc_new w o⟩
theorem turned_fits {cs : List Cmt} (h : Goes [] 0 cs) (hl : cs.length ≤ 300) (i : Nat) (hi : i < cs.length) (d : Int) (h1 : 1 ≤ d) (h2 : d ≤ 1000) : FitsCs (cs.set i (turned (cs.getD i noCmt) d)) := by
  refine ⟨by rw [List.length_set]; omega, fun j hj => ?_⟩
  rw [List.length_set] at hj
  by_cases e : j = i
  · subst e
    rw [show (cs.set j (turned (cs.getD j noCmt) d)).getD j noCmt = turned (cs.getD j noCmt) d by simp [hj]]
    obtain ⟨k1, k2, _⟩ := h.at j hj
    exact commit_fits (turned_ok k1 h1 (by rw [k2]; omega))
  · rw [show (cs.set i (turned (cs.getD i noCmt) d)).getD j noCmt = cs.getD j noCmt by simp [Ne.symm e]]
    exact commit_fits (h.at j hj).1
def lateC : Cmt := ⟨2, [⟨[1], [1], [], false⟩]⟩
theorem late_hist : histE [lateC] = 3 := by decide
theorem chg_bad {l : List Cmt} (h : histE l = 3) : chgE l 0 0 = 3 := by
  rw [chgE, order_fold h, if_neg (by decide)]
set_option maxRecDepth 100000 in
set_option maxHeartbeats 4000000 in
theorem historyOrder_walk (hF : FApplyNewOK) (hCh : HsCheckOK) (hFo : HsFoldOK) (hR : HsRootBadOK) (hC : HsChgOK) (w : World) (v : Value) (l : List Plc) (x y : Int) (hv : PlacesIs w v l) (hl : FitsQ l) (hx0 : -9223372036854775808 ≤ x) (hx1 : x ≤ 9223372036854775807) (hy0 : -9223372036854775808 ≤ y) (hy1 : y ≤ 9223372036854775807) :
    Calls Tryd.prog 4 #[v, .int .i64 x, .int .i64 y] w fun e w' => e = .returned (.bool true) ∧ w.grownBy w' none := by
  obtain ⟨a, cap, rfl⟩ := hv.shape
  have KC : Hid (Calls Tryd.prog 5 #[.slice a l.length cap, .int .i64 16] w fun e w' => ∃ v', e = .returned v' ∧ ∃ cs, (∃ base, w.heap.size ≤ base ∧ OwnC base w' v' cs) ∧ (∃ f, CmtsOf ((l.take 16).map writeF) ((l.take 16).map writeF).length cs f) ∧ w.grownBy w' none) := kcommits_own hF w _ l 16 hv hl (by omega)
  have hlen : ((l.take 16).map writeF).length ≤ 16 := by simp; omega
  have HCH : Hid HsCheckOK := hCh
  have HFO : Hid HsFoldOK := hFo
  have HRT : Hid HsRootBadOK := hR
  have HCG : Hid HsChgOK := hC
  generalize (l.take 16).map writeF = ws at *
  clear hv hl hF hC hCh hFo hR
  go_enter Tryd.func4, Tryd.ntmps4
  go_wp2_with fail
  refine KC.out.mono ?_
  rintro e w1 ⟨v1, rfl, cs, ⟨base, hbase, ho⟩, ⟨f, hco⟩, hg1⟩
  have hcl : cs.length ≤ 16 := by have := hco.few; omega
  have hgo := (foldC_goes cs [] f 0 hco.turn hco.fold).1
  obtain ⟨ca, cc, rfl⟩ := ho.shape
  by_cases h0 : cs.length = 0
  · have i0 : ((cs.length : Int) == 0) = true := by simp; simpa using h0
    obtain ⟨U1, HU1, hgU1, BU1⟩ := alloc_namedO w1 (.cells #[.int .u8 1] 5)
    obtain ⟨U2, HU2, hgU2, BU2⟩ := alloc_namedO U1 (.cells #[.int .u8 1] 5)
    obtain ⟨U3, HU3, hgU3, BU3⟩ := alloc_namedO U2 (.cells #[.slice (some ⟨w1.heap.size, 0, none⟩) 1 1, .slice (some ⟨w1.heap.size + 1, 0, none⟩) 1 1, .bool false, .slice none 0 0] 39)
    obtain ⟨U4, HU4, hgU4, BU4⟩ := alloc_namedO U3 (.cells #[.int .i64 2, .slice (some ⟨w1.heap.size + 2, 0, none⟩) 1 1] 42)
    have z1 : U1.heap.size = w1.heap.size + 1 := by rw [HU1.out]; simp
    have z2 : U2.heap.size = w1.heap.size + 2 := by rw [HU2.out]; simp [z1]
    have z3 : U3.heap.size = w1.heap.size + 3 := by rw [HU3.out]; simp [z2]
    have HWW : Hid (U4 = (((w1.alloc (.cells #[.int .u8 1] 5)).alloc (.cells #[.int .u8 1] 5)).alloc (.cells #[.slice (some ⟨w1.heap.size, 0, none⟩) 1 1, .slice (some ⟨w1.heap.size + 1, 0, none⟩) 1 1, .bool false, .slice none 0 0] 39)).alloc (.cells #[.int .i64 2, .slice (some ⟨w1.heap.size + 2, 0, none⟩) 1 1] 42)) := by show _ = _; rw [HU4.out, HU3.out, HU2.out, HU1.out]
    have s1 : SliceIs U2 (.slice (some ⟨w1.heap.size, 0, none⟩) 1 1) [1] := by
      have : SliceIs U1 (.slice (some ⟨w1.heap.size, 0, none⟩) 1 1) [1] := by rw [HU1.out]; exact one_slice w1 1 5
      exact this.grown hgU2
    have s2 : SliceIs U2 (.slice (some ⟨w1.heap.size + 1, 0, none⟩) 1 1) [1] := by
      have : SliceIs U2 (.slice (some ⟨U1.heap.size, 0, none⟩) 1 1) [1] := by rw [HU2.out]; exact one_slice U1 1 5
      rw [z1] at this; exact this
    have s3 : WritesIs U3 (.slice (some ⟨w1.heap.size + 2, 0, none⟩) 1 1) [⟨[1], [1], [], false⟩] := by
      have : WritesIs U3 (.slice (some ⟨U2.heap.size, 0, none⟩) 1 1) [⟨[1], [1], [], false⟩] := by
        rw [HU3.out]; exact writes_one U2 _ _ _ (⟨[1], [1], [], false⟩ : Plc) s1 s2 (sliceIs_nil _) _
      rw [z2] at this; exact this
    have s4 : CommitsIs U4 (.slice (some ⟨w1.heap.size + 3, 0, none⟩) 1 1) [lateC] := by
      have hB := BU4.out
      rw [z3] at hB
      refine ⟨_, 1, rfl, by simp, .inr ⟨w1.heap.size + 3, 0, rfl, fun i hi => ?_⟩⟩
      match i, hi with
      | 0, _ => exact ⟨_, by simp [World.cell?, hB, lateC], by simp [World.cell?, hB], s3.grown hgU4⟩
    have CK : Hid (Calls Tryd.prog 12 #[.slice (some ⟨w1.heap.size + 3, 0, none⟩) 1 1] U4 fun e w' => e = .returned (.int .i64 3) ∧ U4.grownBy w' none) := by
      have := HCH.out U4 _ [lateC] s4 ⟨by simp, fun i hi => by
        match i, hi with
        | 0, _ => exact commit_fits (by decide)⟩
      rw [late_hist] at this
      exact this
    have hg04 := grown_trans hg1 (grown_trans hgU1 (grown_trans hgU2 (grown_trans hgU3 hgU4)))
    clear h0 ho hco hgo z1 z2 z3 s1 s2 s3 s4
    go_upto_region 3 with fail
    go_wp2_with fail
    rw [← HWW.out]
    refine CK.out.mono ?_
    rintro e w2 ⟨rfl, hg2⟩
    go_wp2
    go_ret
    exact ⟨rfl, grown_trans hg04 hg2⟩
  · have i0 : ((cs.length : Int) == 0) = false := by simp; simpa using h0
    have PX : Hid (∀ w', Calls Tryd.prog 6 #[.int .i64 x, .int .i64 (cs.length : Int)] w' fun e w'' => ∃ k : Nat, e = .returned (.int .i64 (k : Int)) ∧ (k : Int) < (cs.length : Int) ∧ w'' = w') := fun w' => picked_any x _ w' hx0 hx1 (by omega) (by omega)
    have PY : Hid (∀ w', Calls Tryd.prog 6 #[.int .i64 y, .int .i64 9] w' fun e w'' => ∃ k : Nat, e = .returned (.int .i64 (k : Int)) ∧ (k : Int) < 9 ∧ w'' = w') := fun w' => picked_any y _ w' hy0 hy1 (by omega) (by omega)
    have HGO : Hid (Goes [] 0 cs) := hgo
    have HO : Hid (OwnC base w1 (.slice ca cs.length cc) cs) := ho
    have HBA : Hid (w.heap.size ≤ base) := hbase
    clear h0 ho hco hgo hbase
    go_wp2_with fail
    refine (PX.out _).mono ?_
    rintro e w2 ⟨k, rfl, hk, rfl⟩
    have hk' : k < cs.length := by omega
    have hkt := (HGO.out.at k hk').2.1
    obtain ⟨g, cap', hcg, hbg, _, hfr, _⟩ := HO.out.setTurn k hk' 0
    simp only [Value.slice.injEq, true_and] at hcg
    obtain ⟨rfl, rfl⟩ := hcg
    have ST : Hid (∀ t, OwnC base (w2.setCell ⟨g, k * 2, none⟩ (.int .i64 t)) (.slice (some ⟨g, 0, none⟩) cs.length cc) (cs.set k ⟨t, (cs.getD k noCmt).writes⟩)) := fun t => by
      obtain ⟨g', c', e, _, _, _, h⟩ := HO.out.setTurn k hk' t
      simp only [Value.slice.injEq, true_and, Option.some.injEq, Addr.mk.injEq, and_true] at e
      obtain ⟨rfl, rfl⟩ := e
      exact h
    obtain ⟨b', o', e', hat⟩ := HO.out.list.at k hk'
    simp only [Option.some.injEq, Addr.mk.injEq, and_true] at e'
    obtain ⟨rfl, rfl⟩ := e'
    obtain ⟨vs, c1, _, _⟩ := hat
    rw [Nat.zero_add] at c1
    have c1d : w2.drew.cell? ⟨g, k * 2, none⟩ = some (.int .i64 (cs.getD k noCmt).turn) := c1
    have hfrd : w2.drew.frozen? ⟨g, k * 2, none⟩ = false := hfr
    obtain ⟨T, hT⟩ : ∃ T, T = (cs.getD k noCmt).turn := ⟨_, rfl⟩
    rw [← hT] at c1 c1d hkt
    have HTT : Hid (T = (cs.getD k noCmt).turn) := hT
    have hTb : 0 ≤ T ∧ T ≤ 100 := by omega
    have hgk : w.heap.size ≤ g := Nat.le_trans HBA.out hbg
    have HTU : Hid (∀ d : Int, turned (cs.getD k noCmt) d = ⟨T + d, (cs.getD k noCmt).writes⟩) := fun d => by rw [hT]; rfl
    clear hT hkt
    go_upto_region 5 with fail
    go_cut [8] (fun s8 wx => s8 = .int .i64 (k : Int) ∧ ∃ d : Int, 1 ≤ d ∧ d ≤ 9 ∧ OwnC base wx (.slice (some ⟨g, 0, none⟩) cs.length cc) (cs.set k (turned (cs.getD k noCmt) d)) ∧ w.grownBy wx none)
    case first =>
      go_region_with (go_at_call 6; refine (PY.out _).mono ?_; rintro e w3 ⟨d, rfl, hd, rfl⟩; have wr1 : IntKind.i64.wrap (1 + (d : Int)) = 1 + (d : Int) := (by rw [IntKind.wrap_i64]; omega); have wr2 : IntKind.i64.wrap (T + (1 + (d : Int))) = T + (1 + (d : Int)) := (by rw [IntKind.wrap_i64]; omega))
      all_goals (go_wp2_with fail; go_meet; case rel => exact ⟨rfl, 1 + (d : Int), by omega, by omega, by rw [HTU.out]; exact (ST.out (T + (1 + (d : Int)))).grownNone (grown_drew (grown_refl _ _)), grown_drew (grown_setNew hg1 _ hgk _ _)⟩)
    case rest =>
      obtain ⟨rfl, d, hd1, hd2, hoc, hgc⟩ := hcut
      have hh := hist_order HGO.out (by omega) k hk' hd1 (by omega)
      have hfit := turned_fits HGO.out (by omega) k hk' d hd1 (by omega)
      have hLl : (cs.set k (turned (cs.getD k noCmt) d)).length = cs.length := List.length_set
      obtain ⟨L, hL⟩ : ∃ L, L = cs.set k (turned (cs.getD k noCmt) d) := ⟨_, rfl⟩
      rw [← hL] at hh hfit hLl hoc
      have HL : Hid (CommitsIs wc (.slice (some ⟨g, 0, none⟩) cs.length cc) L) := hoc.list
      have FO : Hid (∀ w', wc.grownBy w' none → Calls Tryd.prog 7 #[.slice (some ⟨g, 0, none⟩) cs.length cc, .int .i64 0] w' fun e w'' => ∃ z, e = .returned (.tuple #[z, .int .i64 3]) ∧ w'.grownBy w'' none) := fun w' h => by
        have := HFO.out w' _ L 0 (HL.out.grown h) hfit (by omega) (by omega)
        rw [order_fold hh] at this
        exact this.mono (by rintro e w'' ⟨z, rfl, _, hg⟩; exact ⟨z, rfl, hg⟩)
      have RO : Hid (∀ w', wc.grownBy w' none → Calls Tryd.prog 8 #[.slice (some ⟨g, 0, none⟩) cs.length cc, .int .i64 0] w' fun e w'' => ∃ z, e = .returned (.tuple #[z, .int .i64 3]) ∧ w'.grownBy w'' none) := fun w' h => by
        have := HRT.out w' _ L 0 (HL.out.grown h) hfit (by omega) (by omega) (by rw [order_fold hh]; decide)
        rw [order_fold hh] at this
        exact this
      have CG : Hid (∀ w', wc.grownBy w' none → Calls Tryd.prog 13 #[.slice (some ⟨g, 0, none⟩) cs.length cc, .int .i64 0, .int .i64 0] w' fun e w'' => ∃ z, e = .returned (.tuple #[z, .int .i64 3]) ∧ w'.grownBy w'' none) := fun w' h => by
        have := HCG.out w' _ L 0 0 (HL.out.grown h) hfit (by omega) (by omega) (by omega) (by omega)
        rw [chg_bad hh] at this
        exact this.mono (by rintro e w'' ⟨z, rfl, _, hg⟩; exact ⟨z, rfl, hg⟩)
      have CK : Hid (∀ w', wc.grownBy w' none → Calls Tryd.prog 12 #[.slice (some ⟨g, 0, none⟩) cs.length cc] w' fun e w'' => e = .returned (.int .i64 3) ∧ w'.grownBy w'' none) := fun w' h => by
        have := HCH.out w' _ L (HL.out.grown h) hfit
        rw [hh] at this
        exact this
      clear hoc hh hfit hLl hL c1 c1d
      go_wp2_with fail
      refine (FO.out _ (grown_refl _ _)).mono ?_
      rintro e w4 ⟨z4, rfl, hg4⟩
      go_wp2_with fail
      refine (RO.out _ hg4).mono ?_
      rintro e w5 ⟨z5, rfl, hg5⟩
      have hg45 := grown_trans hg4 hg5
      go_wp2_with fail
      refine (CG.out _ hg45).mono ?_
      rintro e w6 ⟨z6, rfl, hg6⟩
      have hg46 := grown_trans hg45 hg6
      go_wp2_with fail
      refine (CK.out _ hg46).mono ?_
      rintro e w7 ⟨rfl, hg7⟩
      go_wp2
      go_ret
      exact ⟨rfl, grown_trans hgc (grown_trans hg46 hg7)⟩
end Go.Proofs.YtljdconhplgipabDoor
