/-
  tape.Decode, as it landed, keeps P6.4, and what it hands back is new.
-/
import Derived.Test.YtkheombfjgjedabDoorPart4
import Derived.Test.YtkheombfjgjedabDoorTpCheckP
import Derived.Test.YtkheombfjgjedabDoorPart16
namespace Go.Proofs.YtkheombfjgjedabDoor
open Go.RowKit
theorem small3_fitsT {ws : List Plc} (h : Small3 ws) (hl : ws.length ≤ 255) : FitsW ws := ⟨by omega, fun i hi => by
  have := h ws[i] (List.getElem_mem hi)
  rw [show ws[i] = ws.getD i noPlc by simp [hi]] at this
  exact ⟨by omega, by omega, by omega⟩⟩
theorem cm_fits (r : Rdr) : FitsC (cmF r) := by
  refine ⟨?_, small3_fitsT (cm_small r).1 (cm_small r).2⟩
  have l1 := num_small r
  have l2 := num_small (numR r)
  have l3 := num_small (numR (numR r))
  unfold cmF
  dsimp only
  omega
set_option maxRecDepth 100000 in
set_option maxHeartbeats 2000000 in
theorem tpdec_new (w : World) (v : Value) (b : List UInt8) (hv : SliceIs w v b) :
    Calls Tryd.prog 27 #[v] w fun e w' => ∃ vs, e = .returned (.tuple #[.agg #[.int .i64 (decC b).turn, vs], .int .i64 (decE b)]) ∧ OwnV w.heap.size 0 w' vs (decC b).writes ∧ w.grownBy w' none := by
  obtain ⟨a, cap, rfl⟩ := hv.shape
  obtain ⟨W0, HW0, hg0, B0⟩ := alloc_named0 w (.cells #[.int .i64 0, .slice none 0 0] 43)
  obtain ⟨y0, y1, y2, y3⟩ := two_cellsR B0.out
  by_cases h4000 : 4000 < b.length
  · obtain ⟨e1, e2⟩ := decE_long h4000
    rw [e1, e2]
    show Calls Tryd.prog 27 #[.slice a b.length cap] w fun e w' => ∃ vs, e = .returned (.tuple #[.agg #[.int .i64 0, vs], .int .i64 1]) ∧ OwnV w.heap.size 0 w' vs [] ∧ w.grownBy w' none
    obtain ⟨z0, z1, _, _⟩ := two_cellsR (two_setR B0.out (.int .i64 0) (.slice none 0 0))
    have hgZ : w.grownBy ((W0.setCell ⟨w.heap.size, 0, none⟩ (.int .i64 0)).setCell ⟨w.heap.size, 1, none⟩ (.slice none 0 0)) none := grown_setNew (grown_setNew hg0 _ (Nat.le_refl _) _ _) _ (Nat.le_refl _) _ _
    have i1 : (b.length : Int) > 4000 := by omega
    clear hv e1 e2 h4000
    go_enter Tryd.func27, Tryd.ntmps27
    go_upto_region 1 with fail
    rw [← HW0.out]
    go_wp2
    refine bodyPost_ret (v := .tuple #[.agg #[.int .i64 0, .slice none 0 0], .int .i64 1]) (by simp [results, Tryd.results27, go_sem, z0, z1]) rfl ?_
    exact ⟨_, rfl, ownV_nil _ _ _, hgZ⟩
  · have i1 : ¬ (b.length : Int) > 4000 := by omega
    obtain ⟨W1, HW1, hg1, B1⟩ := alloc_named0 W0 (.cells #[.slice a b.length cap, .bool false] 74)
    have hWs : W0.heap.size = w.heap.size + 1 := by rw [HW0.out]; simp
    have hR : RdrAt W1 W1 W0.heap.size ⟨b, false⟩ := ⟨⟨a, cap, B1.out, hv.grown (grown_trans hg0 hg1)⟩, ⟨_, _, _, _, B1.out⟩, grown_refl _ _⟩
    have CM : Hid (Calls Tryd.prog 42 #[.pointer (some ⟨W0.heap.size, 0, none⟩)] W1 fun e w' => ∃ vs, e = .returned (.agg #[.int .i64 (cmF ⟨b, false⟩).turn, vs]) ∧ OwnV W1.heap.size 0 w' vs (cmF ⟨b, false⟩).writes ∧ RdrAt W1 w' W0.heap.size (cmR ⟨b, false⟩) ∧ W1.grownBy w' (some W0.heap.size)) := rcommit_any W1 W1 W0.heap.size ⟨b, false⟩ hR
    have CH : Hid (∀ w' u, CommitIs w' u (cmF ⟨b, false⟩) → Calls Tryd.prog 43 #[u] w' fun e w'' => e = .returned (.int .i64 (commitE (cmF ⟨b, false⟩))) ∧ w'.grownBy w'' none) := fun w' u h => tpcheck_ok w' u _ h (cm_fits _)
    have D1 : Hid ((cmR ⟨b, false⟩).short = true → decE b = 14 ∧ decC b = noCmt) := fun h => cm_short h4000 h
    have D2 : Hid ((cmR ⟨b, false⟩).short = false → (cmR ⟨b, false⟩).rest.length ≠ 0 → decE b = 4 ∧ decC b = noCmt) := fun h h2 => cm_more h4000 h h2
    have D3 : Hid ((cmR ⟨b, false⟩).short = false → (cmR ⟨b, false⟩).rest.length = 0 → decE b = commitE (cmF ⟨b, false⟩) ∧ (decE b = 0 → decC b = cmF ⟨b, false⟩) ∧ (decE b ≠ 0 → decC b = noCmt)) := fun h h2 => cm_body h4000 h h2
    generalize cmF ⟨b, false⟩ = C at *
    generalize cmR ⟨b, false⟩ = R at *
    generalize hDE : decE b = DE at *
    generalize hDC : decC b = DC at *
    obtain ⟨RB, hRB⟩ : ∃ RB, RB = w.heap.size := ⟨_, rfl⟩
    have HRB : Hid (RB = w.heap.size) := hRB
    obtain ⟨RD, hRD⟩ : ∃ RD, RD = W0.heap.size := ⟨_, rfl⟩
    have hne : RB ≠ RD := by omega
    have hRBw : w.heap.size ≤ RB := by omega
    have hRDw : w.heap.size ≤ RD := by omega
    have B0' : Hid (W1.heap[RB]? = some (.cells #[.int .i64 0, .slice none 0 0] 43)) := by
      show _ = _
      rw [hRB]; exact pair_old hg1 B0.out
    have hszW1 := hg1.size
    have HRD : Hid (RD = W0.heap.size) := hRD
    rw [← hRD] at CM
    clear hv hR h4000 hDE hDC hWs hRD hRB
    go_enter Tryd.func27, Tryd.ntmps27
    go_upto_region 1 with fail
    rw [← HW0.out]
    clear y0 y1 y2 y3
    go_upto_region 4 with fail
    rw [← HW1.out, ← HRD.out, ← HRB.out]
    go_wp2_with fail
    refine CM.out.mono ?_
    rintro e w2 ⟨vs, rfl, ho2, hr2, hg2⟩
    obtain ⟨va, vn, vc, rfl⟩ := ho2.any
    have B02 := rdr_other hg2 B0'.out hne
    have hgw2 : w.grownBy w2 none := grown_new (grown_trans hg0 hg1) hRDw hg2
    obtain ⟨W3, HW3, hg3, B3⟩ := alloc_named0 w2 (.cells #[.int .i64 C.turn, .slice va vn vc] 43)
    have hgw3 := grown_trans hgw2 hg3
    have B03 : Hid (W3.heap[RB]? = some (.cells #[.int .i64 0, .slice none 0 0] 43)) := pair_old hg3 B02
    obtain ⟨ra, rc, hrb, _⟩ := (hr2.kept hg3).at_
    have O3 : Hid (OwnV W1.heap.size 0 W3 (.slice va vn vc) C.writes) := ho2.grownNone hg3
    obtain ⟨r0, r1, _, _⟩ := two_cellsR hrb
    obtain ⟨u0, u1, _, _⟩ := two_cellsR B3.out
    obtain ⟨y0, y1, y2, y3⟩ := two_cellsR B03.out
    obtain ⟨CB, hCB⟩ : ∃ CB, CB = w2.heap.size := ⟨_, rfl⟩
    have hCR : RB ≠ CB := by
      have h1 := (Array.getElem?_eq_some_iff.1 B02).1
      omega
    clear hg2 hr2 ho2 hrb B02 B0'
    go_upto_region 5 with fail
    rw [← HW3.out]
    rw [← hCB] at u0 u1 B3 ⊢
    clear hCB
    have fin : ∀ (n : Int) (x : Value) (E : Int), True := fun _ _ _ => trivial
    cases hsh : R.short with
    | true =>
      obtain ⟨e1, e2⟩ := D1.out hsh
      subst e1 e2
      rw [hsh] at r1
      obtain ⟨z0, z1, _, _⟩ := two_cellsR (two_setR B03.out (.int .i64 0) (.slice none 0 0))
      have hgZ : w.grownBy ((W3.setCell ⟨RB, 0, none⟩ (.int .i64 0)).setCell ⟨RB, 1, none⟩ (.slice none 0 0)) none := grown_setNew (grown_setNew hgw3 _ hRBw _ _) _ hRBw _ _
      clear fin hsh
      go_wp2
      refine bodyPost_ret (v := .tuple #[.agg #[.int .i64 0, .slice none 0 0], .int .i64 14]) (by simp [results, Tryd.results27, go_sem, z0, z1]) rfl ?_
      exact ⟨_, rfl, ownV_nil _ _ _, hgZ⟩
    | false =>
      rw [hsh] at r1
      by_cases hrl : R.rest.length = 0
      · obtain ⟨e1, e2, e3⟩ := D3.out hsh hrl
        have i2 : ¬ (R.rest.length : Int) > 0 := by omega
        have CHK : Hid (Calls Tryd.prog 43 #[.agg #[.int .i64 C.turn, .slice va vn vc]] W3 fun e w' => e = .returned (.int .i64 DE) ∧ W3.grownBy w' none) := by rw [e1]; exact CH.out W3 _ ⟨_, rfl, O3.out.list⟩
        have E2 : Hid (DE = 0 → DC = C) := e2
        have E3 : Hid (DE ≠ 0 → DC = noCmt) := e3
        clear e1 e2 e3 hsh hrl fin D1 D2 D3 CH
        go_wp2_with fail
        refine CHK.out.mono ?_
        rintro e w6 ⟨rfl, hg6⟩
        have hrb6 : w6.heap[RB]? = some (.cells #[.int .i64 0, .slice none 0 0] 43) := pair_old hg6 B03.out
        have hcb6 : w6.heap[CB]? = some (.cells #[.int .i64 C.turn, .slice va vn vc] 43) := pair_old hg6 B3.out
        have HRB6 : Hid (w6.heap[RB]? = some (.cells #[.int .i64 0, .slice none 0 0] 43)) := hrb6
        have hgw6 := grown_trans hgw3 hg6
        clear u0 u1 y0 y1 y2 y3 r0 r1
        obtain ⟨u0, u1, _, _⟩ := two_cellsR hcb6
        obtain ⟨y0, y1, y2, y3⟩ := two_cellsR hrb6
        by_cases hz : DE = 0
        · have HDC : Hid (DC = C) := E2.out hz
          obtain ⟨z0, z1, _, _⟩ := two_cellsR (two_setR hrb6 (.int .i64 C.turn) (.slice va vn vc))
          subst hz
          clear hrb6 hcb6
          go_wp2
          refine bodyPost_ret (v := .tuple #[.agg #[.int .i64 C.turn, .slice va vn vc], .int .i64 0]) (by simp [results, Tryd.results27, go_sem, z0, z1]) rfl ?_
          refine ⟨_, by rw [HDC.out], ?_, grown_setNew (grown_setNew hgw6 _ hRBw _ _) _ hRBw _ _⟩
          rw [HDC.out]
          have h9 := ((O3.out.grownNone hg6).setOther (i := 0) HRB6.out cmtT5 cmtTW (Nat.zero_le _) (.int .i64 C.turn)).setOther (i := 1) (set_self HRB6.out) cmtT5 cmtTW (Nat.zero_le _) (.slice va vn vc)
          exact h9.down _ (Nat.le_trans hg0.size hszW1)
        · have HDC : Hid (DC = noCmt) := E3.out hz
          obtain ⟨z0, z1, _, _⟩ := two_cellsR (two_setR hrb6 (.int .i64 0) (.slice none 0 0))
          have hz' : (DE != 0) = true := by simpa using hz
          clear hrb6 hcb6 hz
          go_wp2
          refine bodyPost_ret (v := .tuple #[.agg #[.int .i64 0, .slice none 0 0], .int .i64 DE]) (by simp [results, Tryd.results27, go_sem, z0, z1]) rfl ?_
          exact ⟨_, by rw [HDC.out]; rfl, by rw [HDC.out]; exact ownV_nil _ _ _, grown_setNew (grown_setNew hgw6 _ hRBw _ _) _ hRBw _ _⟩
      · obtain ⟨e1, e2⟩ := D2.out hsh hrl
        subst e1 e2
        have i2 : (R.rest.length : Int) > 0 := by omega
        obtain ⟨z0, z1, _, _⟩ := two_cellsR (two_setR B03.out (.int .i64 0) (.slice none 0 0))
        have hgZ : w.grownBy ((W3.setCell ⟨RB, 0, none⟩ (.int .i64 0)).setCell ⟨RB, 1, none⟩ (.slice none 0 0)) none := grown_setNew (grown_setNew hgw3 _ hRBw _ _) _ hRBw _ _
        clear fin hsh hrl
        go_wp2
        refine bodyPost_ret (v := .tuple #[.agg #[.int .i64 0, .slice none 0 0], .int .i64 4]) (by simp [results, Tryd.results27, go_sem, z0, z1]) rfl ?_
        exact ⟨_, rfl, ownV_nil _ _ _, hgZ⟩
theorem tpdec_ok : TpDecOK := fun w v b hv _ => (tpdec_new w v b hv).mono (by
  rintro e w' ⟨vs, rfl, ho, hg⟩
  exact ⟨_, rfl, ⟨vs, rfl, ho.list⟩, hg⟩)
end Go.Proofs.YtkheombfjgjedabDoor
