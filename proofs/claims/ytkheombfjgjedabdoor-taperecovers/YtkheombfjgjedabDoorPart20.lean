/-
  Texts of this proof, joined: RPiece, RCmtOf.
-/
import Derived.Test.YtkheombfjgjedabDoorPart19
import Derived.Test.YtkheombfjgjedabDoorPart3
import Derived.Test.YtkheombfjgjedabDoorPart2
import Derived.Test.YtkheombfjgjedabDoorPart4
import Derived.Deep.RegionWith
/-
  The document's answer: piece.
-/
namespace Go.Proofs.YtkheombfjgjedabDoor
open Go.RowKit
set_option maxRecDepth 100000 in
theorem piece_any (w : World) (v : Value) (b : List UInt8) (o : Option Nat) (hv : SliceIs w v b) (hl : b.length ≤ 200000) (hn : ∀ n, o = some n → n ≤ 300000) :
    Calls Tryd.prog 50 #[v, .int .i64 (atI o)] w fun e w' => ∃ x, e = .returned (.tuple #[x, .int .i64 (atI (pieceAt b o).2)]) ∧ Own w.heap.size w' x (pieceAt b o).1 ∧ w.grownBy w' none := by
  obtain ⟨a, cap, rfl⟩ := hv.shape
  cases o with
  | none =>
    rw [pieceAt_none]
    show Calls Tryd.prog 50 #[.slice a b.length cap, .int .i64 (-1)] w fun e w' => ∃ x, e = .returned (.tuple #[x, .int .i64 (-1)]) ∧ Own w.heap.size w' x [] ∧ w.grownBy w' none
    clear hv hn
    go_enter Tryd.func50, Tryd.ntmps50
    go_wp2
    go_ret2
    exact ⟨_, rfl, own_nil _ _, grown_refl _ _⟩
  | some n =>
    have hn' := hn n rfl
    show Calls Tryd.prog 50 #[.slice a b.length cap, .int .i64 (n : Int)] w fun e w' => ∃ x, e = .returned (.tuple #[x, .int .i64 (atI (pieceAt b (some n)).2)]) ∧ Own w.heap.size w' x (pieceAt b (some n)).1 ∧ w.grownBy w' none
    by_cases hlt : n < b.length
    · rw [pieceAt_some b n hlt]
      obtain ⟨pb, po, rfl, hb⟩ := hv.byte n hlt
      have c1 := hb n hlt
      have hx := (b.getD n 0).toNat_lt
      generalize hxx : (b.getD n 0).toNat = x at *
      have i0 : ¬ (n : Int) < 0 := by omega
      have i1 : ¬ (n : Int) ≥ (b.length : Int) := by omega
      by_cases hc : n + 1 + x ≤ b.length
      · rw [if_pos hc]
        obtain ⟨a1, k1, r1, r2⟩ := bslice_lh (some ⟨pb, po, none⟩) cap b (n + 1) (n + 1 + x) (by omega) hc hv.cap.1
        rw [show n + 1 + x - (n + 1) = x by omega] at r1 r2
        have hlen : ((b.take (n + 1 + x)).drop (n + 1)).length = x := by simp only [List.length_drop, List.length_take]; omega
        have JN : Hid (Calls Tryd.prog 20 #[.slice a1 x k1, .slice none 0 0] w fun e w' => ∃ v', e = .returned v' ∧ Own w.heap.size w' v' ((b.take (n + 1 + x)).drop (n + 1)) ∧ w.grownBy w' none) := by
          have := joined_gen w _ _ _ _ (r2 w hv) (sliceIs_nil w) (by rw [hlen]; simp; omega)
          rw [List.append_nil] at this
          exact this
        show Calls Tryd.prog 50 #[.slice (some ⟨pb, po, none⟩) b.length cap, .int .i64 (n : Int)] w fun e w' => ∃ v, e = .returned (.tuple #[v, .int .i64 ((n + 1 + x : Nat) : Int)]) ∧ Own w.heap.size w' v ((b.take (n + 1 + x)).drop (n + 1)) ∧ w.grownBy w' none
        generalize (b.take (n + 1 + x)).drop (n + 1) = P at *
        have s1 := r1 w
        have i2 : ¬ (n : Int) + 1 + (x : Int) > (b.length : Int) := by omega
        rw [show ((n + 1 : Nat) : Int) = (n : Int) + 1 by omega, show ((n + 1 + x : Nat) : Int) = (n : Int) + 1 + (x : Int) by omega] at s1
        rw [show ((n + 1 + x : Nat) : Int) = (n : Int) + 1 + (x : Int) by omega]
        clear r1 r2 hv hb hxx hlen hn hc hlt
        go_enter Tryd.func50, Tryd.ntmps50
        go_wp2_with fail
        refine JN.out.mono ?_
        rintro e w1 ⟨v1, rfl, h1, hg1⟩
        go_wp2
        go_ret2
        exact ⟨_, rfl, h1, hg1⟩
      · rw [if_neg hc]
        have i2 : (n : Int) + 1 + (x : Int) > (b.length : Int) := by omega
        show Calls Tryd.prog 50 #[.slice (some ⟨pb, po, none⟩) b.length cap, .int .i64 (n : Int)] w fun e w' => ∃ v, e = .returned (.tuple #[v, .int .i64 (-1)]) ∧ Own w.heap.size w' v [] ∧ w.grownBy w' none
        clear hv hb hxx hn hc hlt
        go_enter Tryd.func50, Tryd.ntmps50
        go_wp2
        go_ret2
        exact ⟨_, rfl, own_nil _ _, grown_refl _ _⟩
    · rw [pieceAt_end b n (by omega)]
      show Calls Tryd.prog 50 #[.slice a b.length cap, .int .i64 (n : Int)] w fun e w' => ∃ v, e = .returned (.tuple #[v, .int .i64 (-1)]) ∧ Own w.heap.size w' v [] ∧ w.grownBy w' none
      have i1 : (n : Int) ≥ (b.length : Int) := by omega
      clear hv hn hlt
      go_enter Tryd.func50, Tryd.ntmps50
      go_wp2
      go_ret2
      exact ⟨_, rfl, own_nil _ _, grown_refl _ _⟩
end Go.Proofs.YtkheombfjgjedabDoor

/-
  The document's answer: CommitOf.
-/
namespace Go.Proofs.YtkheombfjgjedabDoor
open Go.RowKit
theorem small3_fits {ws : List Plc} (h : Small3 ws) (hl : ws.length ≤ 255) : FitsW ws := ⟨by omega, fun i hi => by
  have := h ws[i] (List.getElem_mem hi)
  rw [show ws[i] = ws.getD i noPlc by simp [hi]] at this
  exact ⟨by omega, by omega, by omega⟩⟩
theorem two_cellsC {w : World} {b : Nat} {x y : Value} {t : TypeId} (h : w.heap[b]? = some (.cells #[x, y] t)) : w.cell? ⟨b, 0, none⟩ = some x ∧ w.cell? ⟨b, 1, none⟩ = some y ∧ w.frozen? ⟨b, 0, none⟩ = false ∧ w.frozen? ⟨b, 1, none⟩ = false := by
  refine ⟨?_, ?_, ?_, ?_⟩ <;> simp [World.cell?, World.frozen?, h]
theorem two_setC {w : World} {b : Nat} {x y : Value} {t : TypeId} (h : w.heap[b]? = some (.cells #[x, y] t)) (u v : Value) : ((w.setCell ⟨b, 0, none⟩ u).setCell ⟨b, 1, none⟩ v).heap[b]? = some (.cells #[u, v] t) := set_self (set_self h)
abbrev zeroC : Obj := .cells #[.int .i64 0, .slice none 0 0] 43
set_option maxRecDepth 100000 in
set_option maxHeartbeats 4000000 in
theorem commitOf_any (w : World) (v : Value) (b : List UInt8) (hv : SliceIs w v b) (hl : b.length ≤ 140737488355328) :
    Calls Tryd.prog 33 #[v] w fun e w' => ∃ vs, e = .returned (.tuple #[.agg #[.int .i64 (decC b).turn, vs], .int .i64 (decE b)]) ∧ OwnV w.heap.size 0 w' vs (decC b).writes ∧ w.grownBy w' none := by
  obtain ⟨a, cap, rfl⟩ := hv.shape
  obtain ⟨W0, HW0, hg0, B0⟩ := alloc_named4 w (.cells #[.int .i64 0, .slice none 0 0] 43)
  obtain ⟨r0, r1, r2, r3⟩ := two_cellsC B0.out
  have Z := two_setC B0.out (.int .i64 0) (.slice none 0 0)
  obtain ⟨z0, z1, _, _⟩ := two_cellsC Z
  have hgZ : w.grownBy ((W0.setCell ⟨w.heap.size, 0, none⟩ (.int .i64 0)).setCell ⟨w.heap.size, 1, none⟩ (.slice none 0 0)) none := grown_setNew (grown_setNew hg0 _ (Nat.le_refl _) _ _) _ (Nat.le_refl _) _ _
  by_cases h4000 : 4000 < b.length
  · obtain ⟨e1, e2⟩ := decE_long h4000
    rw [e1, e2]
    show Calls Tryd.prog 33 #[.slice a b.length cap] w fun e w' => ∃ vs, e = .returned (.tuple #[.agg #[.int .i64 0, vs], .int .i64 1]) ∧ OwnV w.heap.size 0 w' vs [] ∧ w.grownBy w' none
    have i1 : (b.length : Int) > 4000 := by omega
    clear hv e1 e2 h4000 Z
    go_enter Tryd.func33, Tryd.ntmps33
    go_upto_region 1 with fail
    rw [← HW0.out]
    go_wp2
    refine bodyPost_ret (v := .tuple #[.agg #[.int .i64 0, .slice none 0 0], .int .i64 1]) (by simp [results, Tryd.results33, go_sem, z0, z1]) rfl ?_
    exact ⟨_, rfl, ownV_nil _ _ _, hgZ⟩
  · by_cases h4 : b.length < 4
    · obtain ⟨e1, e2⟩ := decE_short h4
      rw [e1, e2]
      show Calls Tryd.prog 33 #[.slice a b.length cap] w fun e w' => ∃ vs, e = .returned (.tuple #[.agg #[.int .i64 0, vs], .int .i64 14]) ∧ OwnV w.heap.size 0 w' vs [] ∧ w.grownBy w' none
      have i1 : ¬ (b.length : Int) > 4000 := by omega
      have i2 : (b.length : Int) < 4 := by omega
      clear hv e1 e2 h4000 h4 Z
      go_enter Tryd.func33, Tryd.ntmps33
      go_upto_region 1 with fail
      rw [← HW0.out]
      go_wp2
      refine bodyPost_ret (v := .tuple #[.agg #[.int .i64 0, .slice none 0 0], .int .i64 14]) (by simp [results, Tryd.results33, go_sem, z0, z1]) rfl ?_
      exact ⟨_, rfl, ownV_nil _ _ _, hgZ⟩
    · have i1 : ¬ (b.length : Int) > 4000 := by omega
      have i2 : ¬ (b.length : Int) < 4 := by omega
      obtain ⟨pb, po, rfl, hb⟩ := hv.byte 0 (by omega)
      have c0 := hb.grown hg0 (by simp) 0 (by omega)
      have c1 := hb.grown hg0 (by simp) 1 (by omega)
      have c2 := hb.grown hg0 (by simp) 2 (by omega)
      rw [Nat.add_zero] at c0
      have x0 := (b.getD 0 0).toNat_lt
      have x1 := (b.getD 1 0).toNat_lt
      have x2 := (b.getD 2 0).toNat_lt
      have x3 := (b.getD 3 0).toNat_lt
      have HT : Hid (turnD b = 65536 * (b.getD 0 0).toNat + 256 * (b.getD 1 0).toNat + (b.getD 2 0).toNat) := rfl
      have HV0 : Hid (SliceIs w (.slice (some ⟨pb, po, none⟩) b.length cap) b) := hv
      have HB0 : Hid (BytesAt w pb po b) := hb
      generalize (b.getD 0 0).toNat = n0 at *
      generalize (b.getD 1 0).toNat = n1 at *
      generalize (b.getD 2 0).toNat = n2 at *
      obtain ⟨T, hT⟩ : ∃ T : Int, T = 65536 * (n0 : Int) + 256 * (n1 : Int) + (n2 : Int) := ⟨_, rfl⟩
      have HTT : Hid ((turnD b : Int) = T) := by show _ = _; rw [HT.out, hT]; omega
      have HT2 : Hid (T = 65536 * (n0 : Int) + 256 * (n1 : Int) + (n2 : Int)) := hT
      have hTb : 0 ≤ T ∧ T < 16777216 := by omega
      clear hv hb z0 z1 Z hgZ hT
      go_enter Tryd.func33, Tryd.ntmps33
      go_upto_region 1 with fail
      rw [← HW0.out]
      go_upto_region 5 with fail
      go_cut [4] (fun s4 wx => s4 = .pointer (some ⟨W0.heap.size, 0, none⟩) ∧ wx.heap[W0.heap.size]? = some (.cells #[.int .i64 T, .slice none 0 0] 43) ∧ W0.grownBy wx none)
      case first =>
        have hgA := World.grownBy_alloc W0 (.cells #[.int .i64 0, .slice none 0 0] 43) none
        have d0 := hgA.cell c0 (by simp)
        have d1 := hgA.cell c1 (by simp)
        have d2 := hgA.cell c2 (by simp)
        go_region
        all_goals (go_wp2_with fail; go_meet; case rel => exact ⟨rfl, by rw [HT2.out]; exact heap_alloc_new W0 _, grown_drew (World.grownBy_alloc _ _ _)⟩)
      case rest =>
        obtain ⟨rfl, hcb, hgx⟩ := hcut
        have hRC : w.heap.size < W0.heap.size := by rw [HW0.out]; simp
        have hrb : wc.heap[w.heap.size]? = some (.cells #[.int .i64 0, .slice none 0 0] 43) := by
          rw [hgx.block _ hRC (by simp)]; exact B0.out
        have hgwc := grown_trans hg0 hgx
        have HCB : Hid (wc.heap[W0.heap.size]? = some (.cells #[.int .i64 T, .slice none 0 0] 43)) := hcb
        have HRB : Hid (wc.heap[w.heap.size]? = some (.cells #[.int .i64 0, .slice none 0 0] 43)) := hrb
        obtain ⟨CB, hCB⟩ : ∃ CB, CB = W0.heap.size := ⟨_, rfl⟩
        rw [← hCB] at HCB hRC ⊢
        obtain ⟨RB, hRB⟩ : ∃ RB, RB = w.heap.size := ⟨_, rfl⟩
        have HWS : Hid (RB = w.heap.size) := hRB
        rw [← hRB] at HRB hRC ⊢
        have hl4 : b.length ≤ 4000 := by omega
        have HLO : Hid (¬ 4000 < b.length) := h4000
        have HSH : Hid (¬ b.length < 4) := h4
        have PC : Hid (∀ w' o, SliceIs w' (.slice (some ⟨pb, po, none⟩) b.length cap) b → (∀ n, o = some n → n ≤ 300000) → Calls Tryd.prog 50 #[.slice (some ⟨pb, po, none⟩) b.length cap, .int .i64 (atI o)] w' fun e w'' => ∃ x, e = .returned (.tuple #[x, .int .i64 (atI (pieceAt b o).2)]) ∧ Own w'.heap.size w'' x (pieceAt b o).1 ∧ w'.grownBy w'' none) := fun w' o h1 h2 => piece_any w' _ b o h1 (by omega) h2
        have PS : Hid (∀ o m, (pieceAt b o).2 = some m → m ≤ b.length) := fun o m h => (pieceAt_small b o).2 m h
        have PL : Hid (∀ o, (pieceAt b o).1.length ≤ 255) := fun o => (pieceAt_small b o).1
        generalize hX3 : (b.getD 3 0).toNat = X at *
        have HX3 : Hid ((b.getD 3 0).toNat = X) := hX3
        clear hcb hrb hgx hCB hRB c0 c1 c2 r0 r1 r2 r3 h4000 h4 hX3 HW0 B0 hg0
        go_wp2_with fail
        go_loopw [5, 6] (fun av iv wr => ∃ (m n : Nat) (vs : Value) (ws : List Plc), m ≤ X ∧ iv = .int .i64 (m : Int) ∧ av = .int .i64 (n : Int) ∧ n ≤ b.length ∧ writesD m (b.drop 4) = some (ws, b.drop n) ∧ ws.length = m ∧ Small3 ws ∧ OwnV RB 0 wr vs ws ∧ wr.heap[CB]? = some (.cells #[.int .i64 T, vs] 43) ∧ wr.heap[RB]? = some (.cells #[.int .i64 0, .slice none 0 0] 43) ∧ w.grownBy wr none) (fun _ i _ => X - (intOf i).toNat)
        case atStart => exact ⟨0, 4, _, [], by omega, rfl, rfl, by omega, rfl, rfl, fun p hp => by simp at hp, ownV_nil _ _ _, HCB.out, HRB.out, hgwc⟩
        case round =>
          obtain ⟨m, n, vs, ws, hm, rfl, rfl, hn, hws, hwl, hsm, hov, hcb, hrb, hgw⟩ := hrel
          have hb3 := HB0.out.grown hgw (by simp) 3 (by omega)
          have HWS2 : Hid (writesD m (b.drop 4) = some (ws, b.drop n)) := hws
          have HSM : Hid (Small3 ws) := hsm
          have HOV : Hid (OwnV RB 0 wr vs ws) := hov
          have HCB2 : Hid (wr.heap[CB]? = some (.cells #[.int .i64 T, vs] 43)) := hcb
          have HRB2 : Hid (wr.heap[RB]? = some (.cells #[.int .i64 0, .slice none 0 0] 43)) := hrb
          obtain ⟨va, vc, rfl⟩ := hov.shape
          rw [show (b.getD 3 0).toNat = X from HX3.out] at hb3
          have HWL : Hid (ws.length = m) := hwl
          clear hws hsm hov hcb hrb hwl
          by_cases hlt : m < X
          · have j1 : (m : Int) < (X : Int) := by omega
            obtain ⟨W1, HW1, hgA1, B1⟩ := alloc_named4 wr (.cells #[.slice none 0 0, .slice none 0 0, .bool false, .slice none 0 0] 52)
            obtain ⟨q1, hq1⟩ : ∃ q, q = pieceAt b (some n) := ⟨_, rfl⟩
            obtain ⟨q2, hq2⟩ : ∃ q, q = pieceAt b q1.2 := ⟨_, rfl⟩
            have P1 : Hid (∀ w', w.grownBy w' none → Calls Tryd.prog 50 #[.slice (some ⟨pb, po, none⟩) b.length cap, .int .i64 (n : Int)] w' fun e w'' => ∃ x, e = .returned (.tuple #[x, .int .i64 (atI q1.2)]) ∧ Own w'.heap.size w'' x q1.1 ∧ w'.grownBy w'' none) := fun w' hg => by
              rw [hq1]; exact PC.out w' (some n) (HV0.out.grown hg) (fun q hq => by cases hq; omega)
            have P2 : Hid (∀ w', w.grownBy w' none → Calls Tryd.prog 50 #[.slice (some ⟨pb, po, none⟩) b.length cap, .int .i64 (atI q1.2)] w' fun e w'' => ∃ x, e = .returned (.tuple #[x, .int .i64 (atI q2.2)]) ∧ Own w'.heap.size w'' x q2.1 ∧ w'.grownBy w'' none) := fun w' hg => by
              rw [hq2]; exact PC.out w' q1.2 (HV0.out.grown hg) (fun q hq => by have := PS.out (some n) q (by rw [← hq1]; exact hq); omega)
            have l1 : q1.1.length ≤ 255 := by rw [hq1]; exact PL.out _
            have l2 : q2.1.length ≤ 255 := by rw [hq2]; exact PL.out _
            have HNO : Hid (q2.2 = none → writeD (b.drop n) = none) := fun h => writeD_none (by rw [← hq1, ← hq2]; exact h)
            have HSO : Hid (∀ k, q2.2 = some k → writeD (b.drop n) = lastD q1.1 q2.1 (b.drop k)) := fun k h => by
              have := writeD_some (b := b) (n := n) (m := k) (by rw [← hq1, ← hq2]; exact h)
              rw [← hq1, ← hq2] at this; exact this
            have HKL : Hid (∀ k, q2.2 = some k → k ≤ b.length) := fun k h => PS.out q1.2 k (by rw [← hq2]; exact h)
            have hCBlt : CB < wr.heap.size := (Array.getElem?_eq_some_iff.1 HCB2.out).1
            have hRBlt : RB < wr.heap.size := (Array.getElem?_eq_some_iff.1 HRB2.out).1
            clear hq1 hq2
            go_upto_region 11 with fail
            rw [← HW1.out]
            go_wp2_with fail
            refine (P1.out _ (grown_trans hgw hgA1)).mono ?_
            rintro e w2 ⟨y2, rfl, ho2, hg2⟩
            obtain ⟨ya2, yc2, rfl⟩ := ho2.shape
            obtain ⟨⟨t0, t1, t2, t3⟩, f0, f1, f2, f3⟩ := quad_room hg2 B1.out
            have hb2 : w2.heap[wr.heap.size]? = some (.cells #[.slice none 0 0, .slice none 0 0, .bool false, .slice none 0 0] 52) := by rw [hg2.block _ (Array.getElem?_eq_some_iff.1 B1.out).1 (by simp)]; exact B1.out
            obtain ⟨V2, HV2⟩ : ∃ V2 : World, Hid (V2 = w2.setCell ⟨wr.heap.size, 0, none⟩ (.slice ya2 q1.1.length yc2)) := ⟨_, rfl⟩
            have B2 : Hid (V2.heap[wr.heap.size]? = some (.cells #[.slice ya2 q1.1.length yc2, .slice none 0 0, .bool false, .slice none 0 0] 52)) := by rw [HV2.out]; exact set_self hb2
            have hgr2 : wr.grownBy V2 none := by rw [HV2.out]; exact grown_setNew (grown_trans hgA1 hg2) _ (Nat.le_refl _) _ _
            have N2 : Hid (PartIs 0 V2 (.slice ya2 q1.1.length yc2) q1.1) := by rw [HV2.out]; exact (Own.part ho2).setOther hb2 wrT5 (Nat.zero_le _) _
            clear ho2 hb2
            go_upto_region 12 with fail
            rw [← HV2.out]
            clear t0 t1 t2 t3 f0 f1 f2 f3
            go_wp2_with fail
            refine (P2.out _ (grown_trans hgw hgr2)).mono ?_
            rintro e w3 ⟨y3, rfl, ho3, hg3⟩
            obtain ⟨ya3, yc3, rfl⟩ := ho3.shape
            obtain ⟨⟨t0, t1, t2, t3⟩, f0, f1, f2, f3⟩ := quad_room hg3 B2.out
            have hb3' : w3.heap[wr.heap.size]? = some (.cells #[.slice ya2 q1.1.length yc2, .slice none 0 0, .bool false, .slice none 0 0] 52) := by rw [hg3.block _ (Array.getElem?_eq_some_iff.1 B2.out).1 (by simp)]; exact B2.out
            obtain ⟨V3, HV3⟩ : ∃ V3 : World, Hid (V3 = w3.setCell ⟨wr.heap.size, 1, none⟩ (.slice ya3 q2.1.length yc3)) := ⟨_, rfl⟩
            have B3 : Hid (V3.heap[wr.heap.size]? = some (.cells #[.slice ya2 q1.1.length yc2, .slice ya3 q2.1.length yc3, .bool false, .slice none 0 0] 52)) := by rw [HV3.out]; exact set_self hb3'
            have hgr3 : wr.grownBy V3 none := by rw [HV3.out]; exact grown_setNew (grown_trans hgr2 hg3) _ (Nat.le_refl _) _ _
            have N3 : Hid (PartIs 0 V3 (.slice ya2 q1.1.length yc2) q1.1) := by rw [HV3.out]; exact (N2.out.keptT hg3 (.inl rfl)).setOther hb3' wrT5 (Nat.zero_le _) _
            have K3 : Hid (PartIs 0 V3 (.slice ya3 q2.1.length yc3) q2.1) := by rw [HV3.out]; exact (Own.part ho3).setOther hb3' wrT5 (Nat.zero_le _) _
            clear ho3 hb3'
            go_upto_region 13 with fail
            rw [← HV3.out]
            clear t0 t1 t2 t3 f0 f1 f2 f3
            cases hk : q2.2 with
            | none =>
              have E2n := HNO.out hk
              have P3 : Hid (∀ w', w.grownBy w' none → Calls Tryd.prog 50 #[.slice (some ⟨pb, po, none⟩) b.length cap, .int .i64 (-1)] w' fun e w'' => ∃ x, e = .returned (.tuple #[x, .int .i64 (-1)]) ∧ Own w'.heap.size w'' x [] ∧ w'.grownBy w'' none) := fun w' hg => PC.out w' none (HV0.out.grown hg) (fun q hq => by cases hq)
              have HE2n : Hid (writeD (b.drop n) = none) := E2n
              clear E2n
              rw [show atI none = -1 from rfl]
              go_wp2_with fail
              refine (P3.out _ (grown_trans hgw hgr3)).mono ?_
              rintro e w4 ⟨y4, rfl, ho4, hg4⟩
              obtain ⟨ya4, yc4, rfl⟩ := ho4.shape
              obtain ⟨⟨t0, t1, t2, t3⟩, f0, f1, f2, f3⟩ := quad_room hg4 B3.out
              obtain ⟨V4, HV4⟩ : ∃ V4 : World, Hid (V4 = w4.setCell ⟨wr.heap.size, 3, none⟩ (.slice ya4 0 yc4)) := ⟨_, rfl⟩
              have hgr4 : wr.grownBy V4 none := by rw [HV4.out]; exact grown_setNew (grown_trans hgr3 hg4) _ (Nat.le_refl _) _ _
              go_upto_region 17 with fail
              rw [← HV4.out]
              clear t0 t1 t2 t3 f0 f1 f2 f3
              have hno : bodyD b = none := by
                show writesD (b.getD 3 0).toNat (b.drop 4) = none
                rw [HX3.out]
                refine writesD_none_up (m := m + 1) ?_ _ (by omega)
                rw [writesD_step HWS2.out, HE2n.out]
              obtain ⟨e1, e2⟩ := decE_none HLO.out HSH.out hno
              have hrb4 : V4.heap[RB]? = some (.cells #[.int .i64 0, .slice none 0 0] 43) := by rw [hgr4.block _ hRBlt (by simp)]; exact HRB2.out
              obtain ⟨r0, r1, r2, r3⟩ := two_cellsC hrb4
              obtain ⟨z0, z1, _, _⟩ := two_cellsC (two_setC hrb4 (.int .i64 0) (.slice none 0 0))
              have hgZ : w.grownBy ((V4.setCell ⟨RB, 0, none⟩ (.int .i64 0)).setCell ⟨RB, 1, none⟩ (.slice none 0 0)) none := grown_setNew (grown_setNew (grown_trans hgw hgr4) _ (by rw [HWS.out]; exact Nat.le_refl _) _ _) _ (by rw [HWS.out]; exact Nat.le_refl _) _ _
              have E1 : Hid (decE b = 14) := e1
              have E2 : Hid (decC b = noCmt) := e2
              clear e1 e2 hno
              go_wp2
              refine bodyPost_ret (v := .tuple #[.agg #[.int .i64 0, .slice none 0 0], .int .i64 14]) (by simp [results, Tryd.results33, go_sem, z0, z1]) rfl ?_
              exact ⟨_, by rw [E1.out, E2.out]; rfl, by rw [E2.out]; exact ownV_nil _ _ _, hgZ⟩
            | some k =>
              by_cases hc : k < b.length ∧ b.getD k 0 = 255
              · skip
                obtain ⟨hkl, h255⟩ := hc
                have c255 := (HB0.out.grown (grown_trans hgw hgr3) (by simp)) k hkl
                rw [show (b.getD k 0).toNat = 255 by rw [h255]; rfl] at c255
                have hat : k + 1 ≤ b.length := by omega
                have HWD : Hid (writeD (b.drop n) = some ((⟨q1.1, q2.1, [], true⟩ : Plc), b.drop (k + 1))) := by show _ = _; rw [HSO.out k hk]; exact lastD_gone hkl h255
                have k1 : (k : Int) < (b.length : Int) := by omega
                obtain ⟨⟨t0, t1, t2, t3⟩, f0, f1, f2, f3⟩ := quad_room (grown_refl V3 none) B3.out
                obtain ⟨V4, HV4⟩ : ∃ V4 : World, Hid (V4 = V3.setCell ⟨wr.heap.size, 2, none⟩ (.bool true)) := ⟨_, rfl⟩
                have B4 : Hid (V4.heap[wr.heap.size]? = some (.cells #[.slice ya2 q1.1.length yc2, .slice ya3 q2.1.length yc3, .bool true, .slice none 0 0] 52)) := by rw [HV4.out]; exact set_self B3.out
                have hgr4 : wr.grownBy V4 none := by rw [HV4.out]; exact grown_setNew hgr3 _ (Nat.le_refl _) _ _
                have N4 : Hid (PartIs 0 V4 (.slice ya2 q1.1.length yc2) q1.1) := by rw [HV4.out]; exact N3.out.setOther B3.out wrT5 (Nat.zero_le _) _
                have K4 : Hid (PartIs 0 V4 (.slice ya3 q2.1.length yc3) q2.1) := by rw [HV4.out]; exact K3.out.setOther B3.out wrT5 (Nat.zero_le _) _
                have L4 : Hid (PartIs 0 V4 (.slice none 0 0) []) := ⟨sliceIs_nil _, .inl rfl⟩
                rw [show atI (some k) = (k : Int) from rfl]
                clear hk h255
                go_upto_region 17 with fail
                rw [← HV4.out]
                clear t0 t1 t2 t3 f0 f1 f2 f3 c255
                have hcb4 : V4.heap[CB]? = some (.cells #[.int .i64 T, .slice va ws.length vc] 43) := by rw [hgr4.block _ hCBlt (by simp)]; exact HCB2.out
                have hrb4 : V4.heap[RB]? = some (.cells #[.int .i64 0, .slice none 0 0] 43) := by rw [hgr4.block _ hRBlt (by simp)]; exact HRB2.out
                obtain ⟨u0, u1, _, _⟩ := two_cellsC hcb4
                obtain ⟨⟨t0, t1, t2, t3⟩, f0, f1, f2, f3⟩ := quad_room (grown_refl V4 none) B4.out
                obtain ⟨WN, HWN, hgN, BN⟩ := alloc_named4 V4 (.cells #[.slice ya2 q1.1.length yc2, .slice ya3 q2.1.length yc3, .bool true, .slice none 0 0] 52)
                have NN : Hid (PartIs 0 WN (.slice ya2 q1.1.length yc2) q1.1) := N4.out.keptT hgN (.inl rfl)
                have KN : Hid (PartIs 0 WN (.slice ya3 q2.1.length yc3) q2.1) := K4.out.keptT hgN (.inl rfl)
                have LN : Hid (PartIs 0 WN (.slice none 0 0) ([] : List UInt8)) := L4.out.keptT hgN (.inl rfl)
                have hgrN := grown_trans hgr4 hgN
                have OVN : Hid (OwnV RB 0 WN (.slice va ws.length vc) ws) := HOV.out.grownNone hgrN
                have hcbN : WN.heap[CB]? = some (.cells #[.int .i64 T, .slice va ws.length vc] 43) := by rw [hgrN.block _ hCBlt (by simp)]; exact HCB2.out
                have hrbN : WN.heap[RB]? = some (.cells #[.int .i64 0, .slice none 0 0] 43) := by rw [hgrN.block _ hRBlt (by simp)]; exact HRB2.out
                have HCN : Hid (WN.heap[CB]? = some (.cells #[.int .i64 T, .slice va ws.length vc] 43)) := hcbN
                have HRN : Hid (WN.heap[RB]? = some (.cells #[.int .i64 0, .slice none 0 0] 43)) := hrbN
                have hRN : RB ≤ WN.heap.size := Nat.le_trans (Nat.le_of_lt hRBlt) hgrN.size
                have hl80 : (ws.length + 1) * 80 ≤ 140737488355328 := by rw [HWL.out]; omega
                have hgwN := grown_trans hgw hgrN
                have HNX : Hid (writesD (m + 1) (b.drop 4) = some (ws ++ [⟨q1.1, q2.1, [], true⟩], b.drop (k + 1))) := by
                  show _ = _
                  rw [writesD_step HWS2.out, HWD.out]
                have HS3 : Hid (Small3 (ws ++ [⟨q1.1, q2.1, [], true⟩])) := small3_snoc HSM.out ⟨l1, l2, by simp⟩
                clear hcb4 hrb4 hcbN hrbN
                go_wp2_with (at_builtin; rw [← HWN.out]; refine wpList_append_wrV rfl _ _ rfl RB (.slice va ws.length vc) ws rfl OVN.out (.slice ya2 q1.1.length yc2) (.slice ya3 q2.1.length yc3) (.slice none 0 0) (⟨q1.1, q2.1, [], true⟩) NN.out KN.out LN.out V4.heap.size BN.out rfl hl80 hRN ?_; intro v5 w5 ho5 hg5; obtain ⟨a5, n5, c5, rfl⟩ := ho5.any; have hcb5 : w5.heap[CB]? = some (.cells #[.int .i64 T, .slice va ws.length vc] 43) := (by rw [hg5.block CB (Array.getElem?_eq_some_iff.1 HCN.out).1 (fun e => OVN.out.ne HCN.out cmtTW e.symm)]; exact HCN.out); have hrb5 : w5.heap[RB]? = some (.cells #[.int .i64 0, .slice none 0 0] 43) := (by rw [hg5.block RB (Array.getElem?_eq_some_iff.1 HRN.out).1 (fun e => OVN.out.ne HRN.out cmtTW e.symm)]; exact HRN.out); obtain ⟨s0, s1, s2, s3⟩ := two_cellsC hcb5)
                have hgw5 : w.grownBy w5 none := grown_ownV hgwN OVN.out (by rw [HWS.out]; exact Nat.le_refl _) hg5
                go_roundw
                case rel => exact ⟨m + 1, k + 1, _, ws ++ [⟨q1.1, q2.1, [], true⟩], by omega, by go_num, by first | rfl | go_num, hat, HNX.out, by rw [List.length_append, HWL.out]; rfl, HS3.out, ho5.setOther hcb5 cmtT5 cmtTW (Nat.zero_le _) _, set_self hcb5, set_apart hrb5 (by omega), grown_setNew hgw5 _ (by rw [← HWS.out]; omega) _ _⟩
                case measure => simp [intOf]; omega
              · skip
                obtain ⟨q3, hq3⟩ : ∃ q, q = pieceAt b (some k) := ⟨_, rfl⟩
                have hkb := HKL.out k hk
                have P3 : Hid (∀ w', w.grownBy w' none → Calls Tryd.prog 50 #[.slice (some ⟨pb, po, none⟩) b.length cap, .int .i64 (k : Int)] w' fun e w'' => ∃ x, e = .returned (.tuple #[x, .int .i64 (atI q3.2)]) ∧ Own w'.heap.size w'' x q3.1 ∧ w'.grownBy w'' none) := fun w' hg => by
                  rw [hq3]; exact PC.out w' (some k) (HV0.out.grown hg) (fun q hq => by cases hq; omega)
                have l3 : q3.1.length ≤ 255 := by rw [hq3]; exact PL.out _
                have HK3 : Hid (∀ k3, q3.2 = some k3 → k3 ≤ b.length) := fun k3 h => PS.out (some k) k3 (by rw [← hq3]; exact h)
                have HLD : Hid (writeD (b.drop n) = match q3.2 with | some m2 => some ((⟨q1.1, q2.1, q3.1, false⟩ : Plc), b.drop m2) | none => none) := by show _ = _; have h := lastD_kept (n := q1.1) (k := q2.1) hc; rw [← hq3] at h; rw [HSO.out k hk]; exact h
                have HC : Hid (¬ (k < b.length ∧ b.getD k 0 = 255)) := hc
                clear hq3 hc
                go_cut [70] (fun s70 wx => s70 = .bool false ∧ wx = V3)
                case first =>
                  rw [show atI (some k) = (k : Int) from rfl]
                  clear hk
                  by_cases hkl : k < b.length
                  · have k1 : (k : Int) < (b.length : Int) := by omega
                    have c255 := (HB0.out.grown (grown_trans hgw hgr3) (by simp)) k hkl
                    have hx := (b.getD k 0).toNat_lt
                    have hne : ((((b.getD k 0).toNat : Nat) : Int) == 255) = false := by
                      simp only [beq_eq_false_iff_ne, ne_eq]
                      intro e
                      exact HC.out ⟨hkl, UInt8.toNat_inj.1 (by rw [show (b.getD k 0).toNat = 255 by omega]; rfl)⟩
                    generalize (b.getD k 0).toNat = xk at *
                    go_wp2_with fail
                    go_meet
                    case rel => exact ⟨rfl, rfl⟩
                  · have k1 : ¬ (k : Int) < (b.length : Int) := by omega
                    go_wp2_with fail
                    go_meet
                    case rel => exact ⟨rfl, rfl⟩
                case rest =>
                  obtain ⟨rfl, rfl⟩ := hcut
                  rw [show atI (some k) = (k : Int) from rfl]
                  clear hk
                  go_wp2_with fail
                  refine (P3.out _ (grown_trans hgw hgr3)).mono ?_
                  rintro e w4 ⟨y4, rfl, ho4, hg4⟩
                  obtain ⟨ya4, yc4, rfl⟩ := ho4.shape
                  obtain ⟨⟨t0, t1, t2, t3⟩, f0, f1, f2, f3⟩ := quad_room hg4 B3.out
                  have hb4' : w4.heap[wr.heap.size]? = some (.cells #[.slice ya2 q1.1.length yc2, .slice ya3 q2.1.length yc3, .bool false, .slice none 0 0] 52) := by rw [hg4.block _ (Array.getElem?_eq_some_iff.1 B3.out).1 (by simp)]; exact B3.out
                  obtain ⟨V4, HV4⟩ : ∃ V4 : World, Hid (V4 = w4.setCell ⟨wr.heap.size, 3, none⟩ (.slice ya4 q3.1.length yc4)) := ⟨_, rfl⟩
                  have hgr4 : wr.grownBy V4 none := by rw [HV4.out]; exact grown_setNew (grown_trans hgr3 hg4) _ (Nat.le_refl _) _ _
                  have B4 : Hid (V4.heap[wr.heap.size]? = some (.cells #[.slice ya2 q1.1.length yc2, .slice ya3 q2.1.length yc3, .bool false, .slice ya4 q3.1.length yc4] 52)) := by rw [HV4.out]; exact set_self hb4'
                  have N4 : Hid (PartIs 0 V4 (.slice ya2 q1.1.length yc2) q1.1) := by rw [HV4.out]; exact (N3.out.keptT hg4 (.inl rfl)).setOther hb4' wrT5 (Nat.zero_le _) _
                  have K4 : Hid (PartIs 0 V4 (.slice ya3 q2.1.length yc3) q2.1) := by rw [HV4.out]; exact (K3.out.keptT hg4 (.inl rfl)).setOther hb4' wrT5 (Nat.zero_le _) _
                  have L4 : Hid (PartIs 0 V4 (.slice ya4 q3.1.length yc4) q3.1) := by rw [HV4.out]; exact (Own.part ho4).setOther hb4' wrT5 (Nat.zero_le _) _
                  clear ho4 hb4'
                  go_upto_region 17 with fail
                  rw [← HV4.out]
                  clear t0 t1 t2 t3 f0 f1 f2 f3
                  cases hk3 : q3.2 with
                  | none =>
                    have HE2n : Hid (writeD (b.drop n) = none) := by show _ = _; rw [HLD.out, hk3]
                    rw [show atI none = -1 from rfl]
                    have hno : bodyD b = none := by
                      show writesD (b.getD 3 0).toNat (b.drop 4) = none
                      rw [HX3.out]
                      refine writesD_none_up (m := m + 1) ?_ _ (by omega)
                      rw [writesD_step HWS2.out, HE2n.out]
                    obtain ⟨e1, e2⟩ := decE_none HLO.out HSH.out hno
                    have hrb4 : V4.heap[RB]? = some (.cells #[.int .i64 0, .slice none 0 0] 43) := by rw [hgr4.block _ hRBlt (by simp)]; exact HRB2.out
                    obtain ⟨r0, r1, r2, r3⟩ := two_cellsC hrb4
                    obtain ⟨z0, z1, _, _⟩ := two_cellsC (two_setC hrb4 (.int .i64 0) (.slice none 0 0))
                    have hgZ : w.grownBy ((V4.setCell ⟨RB, 0, none⟩ (.int .i64 0)).setCell ⟨RB, 1, none⟩ (.slice none 0 0)) none := grown_setNew (grown_setNew (grown_trans hgw hgr4) _ (by rw [HWS.out]; exact Nat.le_refl _) _ _) _ (by rw [HWS.out]; exact Nat.le_refl _) _ _
                    have E1 : Hid (decE b = 14) := e1
                    have E2 : Hid (decC b = noCmt) := e2
                    clear e1 e2 hno
                    go_wp2
                    refine bodyPost_ret (v := .tuple #[.agg #[.int .i64 0, .slice none 0 0], .int .i64 14]) (by simp [results, Tryd.results33, go_sem, z0, z1]) rfl ?_
                    exact ⟨_, by rw [E1.out, E2.out]; rfl, by rw [E2.out]; exact ownV_nil _ _ _, hgZ⟩
                  | some k3 =>
                    have HWD : Hid (writeD (b.drop n) = some ((⟨q1.1, q2.1, q3.1, false⟩ : Plc), b.drop k3)) := by show _ = _; rw [HLD.out, hk3]
                    have hat := HK3.out k3 hk3
                    rw [show atI (some k3) = (k3 : Int) from rfl]
                    have hcb4 : V4.heap[CB]? = some (.cells #[.int .i64 T, .slice va ws.length vc] 43) := by rw [hgr4.block _ hCBlt (by simp)]; exact HCB2.out
                    have hrb4 : V4.heap[RB]? = some (.cells #[.int .i64 0, .slice none 0 0] 43) := by rw [hgr4.block _ hRBlt (by simp)]; exact HRB2.out
                    obtain ⟨u0, u1, _, _⟩ := two_cellsC hcb4
                    obtain ⟨⟨t0, t1, t2, t3⟩, f0, f1, f2, f3⟩ := quad_room (grown_refl V4 none) B4.out
                    obtain ⟨WN, HWN, hgN, BN⟩ := alloc_named4 V4 (.cells #[.slice ya2 q1.1.length yc2, .slice ya3 q2.1.length yc3, .bool false, .slice ya4 q3.1.length yc4] 52)
                    have NN : Hid (PartIs 0 WN (.slice ya2 q1.1.length yc2) q1.1) := N4.out.keptT hgN (.inl rfl)
                    have KN : Hid (PartIs 0 WN (.slice ya3 q2.1.length yc3) q2.1) := K4.out.keptT hgN (.inl rfl)
                    have LN : Hid (PartIs 0 WN (.slice ya4 q3.1.length yc4) q3.1) := L4.out.keptT hgN (.inl rfl)
                    have hgrN := grown_trans hgr4 hgN
                    have OVN : Hid (OwnV RB 0 WN (.slice va ws.length vc) ws) := HOV.out.grownNone hgrN
                    have hcbN : WN.heap[CB]? = some (.cells #[.int .i64 T, .slice va ws.length vc] 43) := by rw [hgrN.block _ hCBlt (by simp)]; exact HCB2.out
                    have hrbN : WN.heap[RB]? = some (.cells #[.int .i64 0, .slice none 0 0] 43) := by rw [hgrN.block _ hRBlt (by simp)]; exact HRB2.out
                    have HCN : Hid (WN.heap[CB]? = some (.cells #[.int .i64 T, .slice va ws.length vc] 43)) := hcbN
                    have HRN : Hid (WN.heap[RB]? = some (.cells #[.int .i64 0, .slice none 0 0] 43)) := hrbN
                    have hRN : RB ≤ WN.heap.size := Nat.le_trans (Nat.le_of_lt hRBlt) hgrN.size
                    have hl80 : (ws.length + 1) * 80 ≤ 140737488355328 := by rw [HWL.out]; omega
                    have hgwN := grown_trans hgw hgrN
                    have HNX : Hid (writesD (m + 1) (b.drop 4) = some (ws ++ [⟨q1.1, q2.1, q3.1, false⟩], b.drop (k3))) := by
                      show _ = _
                      rw [writesD_step HWS2.out, HWD.out]
                    have HS3 : Hid (Small3 (ws ++ [⟨q1.1, q2.1, q3.1, false⟩])) := small3_snoc HSM.out ⟨l1, l2, l3⟩
                    clear hcb4 hrb4 hcbN hrbN
                    go_wp2_with (at_builtin; rw [← HWN.out]; refine wpList_append_wrV rfl _ _ rfl RB (.slice va ws.length vc) ws rfl OVN.out (.slice ya2 q1.1.length yc2) (.slice ya3 q2.1.length yc3) (.slice ya4 q3.1.length yc4) (⟨q1.1, q2.1, q3.1, false⟩) NN.out KN.out LN.out V4.heap.size BN.out rfl hl80 hRN ?_; intro v5 w5 ho5 hg5; obtain ⟨a5, n5, c5, rfl⟩ := ho5.any; have hcb5 : w5.heap[CB]? = some (.cells #[.int .i64 T, .slice va ws.length vc] 43) := (by rw [hg5.block CB (Array.getElem?_eq_some_iff.1 HCN.out).1 (fun e => OVN.out.ne HCN.out cmtTW e.symm)]; exact HCN.out); have hrb5 : w5.heap[RB]? = some (.cells #[.int .i64 0, .slice none 0 0] 43) := (by rw [hg5.block RB (Array.getElem?_eq_some_iff.1 HRN.out).1 (fun e => OVN.out.ne HRN.out cmtTW e.symm)]; exact HRN.out); obtain ⟨s0, s1, s2, s3⟩ := two_cellsC hcb5)
                    have hgw5 : w.grownBy w5 none := grown_ownV hgwN OVN.out (by rw [HWS.out]; exact Nat.le_refl _) hg5
                    go_roundw
                    case rel => exact ⟨m + 1, k3, _, ws ++ [⟨q1.1, q2.1, q3.1, false⟩], by omega, by go_num, by first | rfl | go_num, hat, HNX.out, by rw [List.length_append, HWL.out]; rfl, HS3.out, ho5.setOther hcb5 cmtT5 cmtTW (Nat.zero_le _) _, set_self hcb5, set_apart hrb5 (by omega), grown_setNew hgw5 _ (by rw [← HWS.out]; omega) _ _⟩
                    case measure => simp [intOf]; omega
          · obtain rfl : m = X := by omega
            have hbd : bodyD b = some (ws, b.drop n) := by
              show writesD (b.getD 3 0).toNat (b.drop 4) = _
              rw [HX3.out]; exact HWS2.out
            have hdl : (b.drop n).length = b.length - n := List.length_drop
            obtain ⟨u0, u1, _, _⟩ := two_cellsC HCB2.out
            obtain ⟨r0, r1, r2, r3⟩ := two_cellsC HRB2.out
            obtain ⟨z0, z1, _, _⟩ := two_cellsC (two_setC HRB2.out (.int .i64 0) (.slice none 0 0))
            have hgZ : w.grownBy ((wr.setCell ⟨RB, 0, none⟩ (.int .i64 0)).setCell ⟨RB, 1, none⟩ (.slice none 0 0)) none := grown_setNew (grown_setNew hgw _ (by rw [HWS.out]; exact Nat.le_refl _) _ _) _ (by rw [HWS.out]; exact Nat.le_refl _) _ _
            have j1 : ¬ (m : Int) < (m : Int) := by omega
            by_cases hnl : n < b.length
            · obtain ⟨e1, e2⟩ := decE_more HLO.out HSH.out hbd (by omega)
              have E1 : Hid (decE b = 4) := e1
              have E2 : Hid (decC b = noCmt) := e2
              have j2 : (n : Int) < (b.length : Int) := by omega
              clear e1 e2 hbd hdl hnl
              go_wp2
              refine bodyPost_ret (v := .tuple #[.agg #[.int .i64 0, .slice none 0 0], .int .i64 4]) (by simp [results, Tryd.results33, go_sem, z0, z1]) rfl ?_
              exact ⟨_, by rw [E1.out, E2.out]; rfl, by rw [E2.out]; exact ownV_nil _ _ _, hgZ⟩
            · obtain ⟨e1, e2, e3⟩ := decE_body HLO.out HSH.out hbd (by omega)
              have j2 : ¬ (n : Int) < (b.length : Int) := by omega
              rw [HTT.out] at e1 e2
              have CF : Hid (Calls Tryd.prog 51 #[.agg #[.int .i64 T, .slice va ws.length vc]] wr fun e w' => e = .returned (.int .i64 (decE b)) ∧ wr.grownBy w' none) := by
                rw [e1]; exact commitFault_any wr _ ⟨T, ws⟩ ⟨_, rfl, HOV.out.list⟩ (small3_fits HSM.out (by rw [HWL.out]; omega))
              have E2 : Hid (decE b = 0 → decC b = ⟨T, ws⟩) := e2
              have E3 : Hid (decE b ≠ 0 → decC b = noCmt) := e3
              obtain ⟨D, hD⟩ : ∃ D, D = decE b := ⟨_, rfl⟩
              have HD : Hid (D = decE b) := hD
              rw [← hD] at CF
              clear e1 e2 e3 hbd hdl hnl hD z0 z1 hgZ
              have hRBlt : RB < wr.heap.size := (Array.getElem?_eq_some_iff.1 HRB2.out).1
              have hCBlt : CB < wr.heap.size := (Array.getElem?_eq_some_iff.1 HCB2.out).1
              go_wp2_with fail
              refine CF.out.mono ?_
              rintro e w6 ⟨rfl, hg6⟩
              have hrb6 : w6.heap[RB]? = some (.cells #[.int .i64 0, .slice none 0 0] 43) := by rw [hg6.block _ hRBlt (by simp)]; exact HRB2.out
              have hcb6 : w6.heap[CB]? = some (.cells #[.int .i64 T, .slice va ws.length vc] 43) := by rw [hg6.block _ hCBlt (by simp)]; exact HCB2.out
              have HRB6 : Hid (w6.heap[RB]? = some (.cells #[.int .i64 0, .slice none 0 0] 43)) := hrb6
              clear u0 u1 r0 r1 r2 r3
              obtain ⟨u0, u1, _, _⟩ := two_cellsC hcb6
              obtain ⟨r0, r1, r2, r3⟩ := two_cellsC hrb6
              have hgw6 := grown_trans hgw hg6
              have hRw : w.heap.size ≤ RB := by rw [HWS.out]; exact Nat.le_refl _
              by_cases hz : D = 0
              · have hdc : decC b = ⟨T, ws⟩ := E2.out (by rw [← HD.out]; exact hz)
                have HDC : Hid (decC b = ⟨T, ws⟩) := hdc
                obtain ⟨z0, z1, _, _⟩ := two_cellsC (two_setC hrb6 (.int .i64 T) (.slice va ws.length vc))
                subst hz
                clear hdc hrb6 hcb6
                go_wp2
                refine bodyPost_ret (v := .tuple #[.agg #[.int .i64 T, .slice va ws.length vc], .int .i64 0]) (by simp [results, Tryd.results33, go_sem, z0, z1]) rfl ?_
                refine ⟨_, by rw [HDC.out, ← HD.out], ?_, grown_setNew (grown_setNew hgw6 _ hRw _ _) _ hRw _ _⟩
                rw [HDC.out, ← HWS.out]
                exact ((HOV.out.grownNone hg6).setOther HRB6.out cmtT5 cmtTW (Nat.zero_le _) _).setOther (set_self HRB6.out) cmtT5 cmtTW (Nat.zero_le _) _
              · have hdc : decC b = noCmt := E3.out (by rw [← HD.out]; exact hz)
                have HDC : Hid (decC b = noCmt) := hdc
                obtain ⟨z0, z1, _, _⟩ := two_cellsC (two_setC hrb6 (.int .i64 0) (.slice none 0 0))
                have hz' : (D != 0) = true := by simpa using hz
                clear hdc hrb6 hcb6 hz
                go_wp2
                refine bodyPost_ret (v := .tuple #[.agg #[.int .i64 0, .slice none 0 0], .int .i64 D]) (by simp [results, Tryd.results33, go_sem, z0, z1]) rfl ?_
                exact ⟨_, by rw [HDC.out, ← HD.out]; rfl, by rw [HDC.out]; exact ownV_nil _ _ _, grown_setNew (grown_setNew hgw6 _ hRw _ _) _ hRw _ _⟩
end Go.Proofs.YtkheombfjgjedabDoor
