/-
  Texts of this proof, joined: FirstP, TpRecP.
-/
import Derived.Test.YtkheombfjgjedacDoorFirstF
import Derived.Test.YtkheombfjgjedacDoorTpDecP
import Derived.Test.YtkheombfjgjedacDoorPrefixP
import Derived.Deep.RegionWith
import Derived.Test.YtkheombfjgjedacDoorPart4
import Derived.Test.YtkheombfjgjedacDoorPart14
import Derived.Test.YtkheombfjgjedacDoorCloneP
import Derived.Deep.RegionHeld3
/-
  tape.first, as it landed: the first commit of a tape's bytes.
-/
namespace Go.Proofs.YtkheombfjgjedacDoor
open Go.RowKit
set_option maxRecDepth 100000 in
set_option maxHeartbeats 4000000 in
theorem first_any (w : World) (v : Value) (b : List UInt8) (hv : SliceIs w v b) (hb : b.length ≤ 200000) (ht : Tabs w) :
    Calls Tryd.prog 26 #[v] w fun e w' => ∃ vs, e = .returned (.tuple #[.agg #[.int .i64 (firstF b).1.turn, vs], .int .i64 ((firstF b).2 : Int)]) ∧ OwnV w.heap.size 0 w' vs (firstF b).1.writes ∧ w.grownBy w' none := by
  obtain ⟨a, cap, rfl⟩ := hv.shape
  have hcap := hv.cap.1
  obtain ⟨X, hX⟩ : ∃ X, X = firstF b := ⟨_, rfl⟩
  rw [← hX]
  obtain ⟨W0, HW0, hg0, B0⟩ := alloc_named0 w (.cells #[.int .i64 0, .slice none 0 0] 37)
  obtain ⟨RB, hRB⟩ : ∃ RB, RB = w.heap.size := ⟨_, rfl⟩
  have HRB : Hid (RB = w.heap.size) := hRB
  have hRw : w.heap.size ≤ RB := by omega
  rw [← hRB] at B0
  clear hRB
  have HV : Hid (SliceIs W0 (.slice a b.length cap) b) := hv.grown hg0
  have HT : Hid (Tabs W0) := ht.grownNone hg0
  have HW0s : Hid (RB < W0.heap.size) := (Array.getElem?_eq_some_iff.1 B0.out).1
  by_cases h2 : b.length < 2
  · have HX : Hid (X = (noCmt, 0)) := by show _ = _; rw [hX, first_short h2]
    have i1 : (b.length : Int) < 2 := by omega
    clear hX h2 hv ht
    go_enter Tryd.func26, Tryd.ntmps26
    go_upto_region 1 with fail
    rw [← HW0.out, ← HRB.out]
    obtain ⟨y0, y1, y2, y3⟩ := two_cellsR B0.out
    obtain ⟨z0, z1, _, _⟩ := two_cellsR (two_setR B0.out (.int .i64 0) (.slice none 0 0))
    have YG : Hid (w.grownBy ((W0.setCell ⟨RB, 0, none⟩ (.int .i64 0)).setCell ⟨RB, 1, none⟩ (.slice none 0 0)) none) := grown_setNew (grown_setNew hg0 _ hRw _ _) _ hRw _ _
    go_wp2
    refine bodyPost_ret (v := .tuple #[.agg #[.int .i64 0, .slice none 0 0], .int .i64 0]) (by simp [results, Tryd.results26, go_sem, z0, z1]) rfl ?_
    exact ⟨_, by rw [HX.out]; rfl, by rw [HX.out]; exact ownV_nil _ _ _, YG.out⟩
  · have i1 : ¬ (b.length : Int) < 2 := by omega
    obtain ⟨pb, po, rfl, hbs⟩ := (hv.grown hg0).byte 0 (by omega)
    have c0 := hbs 0 (by omega)
    have c1 := hbs 1 (by omega)
    rw [Nat.add_zero] at c0
    have hsz : sizeD b = 256 * (b.getD 0 0).toNat + (b.getD 1 0).toNat := rfl
    have x0 := (b.getD 0 0).toNat_lt
    have x1 := (b.getD 1 0).toNat_lt
    generalize (b.getD 0 0).toNat = n0 at *
    generalize (b.getD 1 0).toNat = n1 at *
    obtain ⟨s, hs⟩ : ∃ s, s = sizeD b := ⟨_, rfl⟩
    have hsE : s = 256 * n0 + n1 := by rw [hs, hsz]
    have HEI : Hid (2 + (n0 : Int) * 256 + (n1 : Int) = ((s + 2 : Nat) : Int)) := by show _ = _; omega
    have hs65 : s ≤ 65535 := by omega
    obtain ⟨E, hE⟩ : ∃ E : Nat, E = s + 2 := ⟨_, rfl⟩
    rw [← hE] at HEI
    have HFW : Hid (b.length < s + 2 → X = (noCmt, 0)) := fun h => by rw [hX]; exact first_few (by rw [← hs]; exact h)
    have HBD : Hid (decE (toldF b) ≠ 0 → X = (noCmt, 0)) := fun h => by rw [hX]; exact first_bad h
    have HGR : Hid (¬ s + 2 ≤ 4000 → X = (noCmt, 0)) := fun h => by rw [hX]; exact first_great (by rw [← hs]; exact h)
    have HLK : Hid (s + 2 ≤ b.length → s + 2 ≤ 4000 → decE (toldF b) = 0 → X = if (wholeF (toldF b)).length ≤ b.length ∧ b.take (wholeF (toldF b)).length = wholeF (toldF b) then (decC (toldF b), s + 6) else (noCmt, 0)) := fun h1 h2 h3 => by rw [hX, hs]; exact first_like (by rw [← hs]; exact h1) (by rw [← hs]; exact h2) h3
    have HTL : Hid (s + 2 ≤ b.length → (toldF b).length = s) := fun h => by rw [hs]; exact told_len (by rw [← hs]; exact h)
    have HTD : Hid (toldF b = (b.drop 2).take s) := by show _ = _; rw [hs]; rfl
    generalize toldF b = TD at *
    have HEE : Hid (E = s + 2) := hE
    clear hX hv ht hbs hsz hs hsE h2 hE
    go_enter Tryd.func26, Tryd.ntmps26
    go_upto_region 1 with fail
    rw [← HW0.out, ← HRB.out]
    go_upto_region 3 with fail
    go_cut [4] (fun s4 wx => s4 = .int .i64 (E : Int) ∧ W0.grownBy wx none)
    case first =>
      go_region
      all_goals (go_wp2_with fail; go_meet; case rel => exact ⟨by rw [← HEI.out], grown_drew (grown_refl _ _)⟩)
    case rest =>
      obtain ⟨rfl, hgx⟩ := hcut
      clear c0 c1
      have hg0x := grown_trans hg0 hgx
      have BX := pair_old hgx B0.out
      by_cases hfit : E ≤ b.length
      · have j1 : ¬ (b.length : Int) < (E : Int) := by omega
        obtain ⟨a1, k1, p1, p2⟩ := bslice_lh (some ⟨pb, po, none⟩) cap b 2 E (by have := HEE.out; omega) hfit hcap
        have hEs : E - 2 = s := by have := HEE.out; omega
        rw [hEs] at p1 p2
        rw [show (b.take E).drop 2 = TD by rw [HTD.out, List.drop_take, hEs]] at p2
        have htl := HTL.out (by have := HEE.out; omega)
        have P1 : (Instr.slice 26 (.slice (some ⟨pb, po, none⟩) b.length cap) (some (.int .i64 2)) (some (.int .i64 (E : Int))) none).run Tryd.prog wc = .ok (.slice a1 s k1) wc := p1 wc
        have P2 : Hid (∀ w', W0.grownBy w' none → SliceIs w' (.slice a1 s k1) TD) := fun w' h => p2 _ (HV.out.grown h)
        have DC : Hid (∀ w', W0.grownBy w' none → Calls Tryd.prog 39 #[.slice a1 s k1] w' fun e w'' => ∃ vs, e = .returned (.tuple #[.agg #[.int .i64 (decC TD).turn, vs], .int .i64 (decE TD)]) ∧ OwnV w'.heap.size 0 w'' vs (decC TD).writes ∧ w'.grownBy w'' none) := fun w' h => tpdec_new w' _ TD (P2.out w' h)
        have FR : Hid (∀ w', W0.grownBy w' none → Calls Tryd.prog 24 #[.slice a1 s k1] w' fun e w'' => ∃ x, e = .returned (.tuple #[x, .int .i64 (if s + 2 ≤ 4000 then 0 else 1)]) ∧ Own w'.heap.size w'' x (if s + 2 ≤ 4000 then wholeF TD else []) ∧ w'.grownBy w'' none) := fun w' h => by
          have := framed_any w' _ TD (P2.out w' h) (by omega) (HT.out.grownNone h)
          rw [htl] at this
          exact this
        have hwl := wholeF_len TD
        rw [htl] at hwl
        have HWLQ : Hid ((wholeF TD).length = s + 6) := hwl
        clear hwl hEs
        have HL2 : Hid (s + 2 ≤ 4000 → decE TD = 0 → X = if (wholeF TD).length ≤ b.length ∧ b.take (wholeF TD).length = wholeF TD then (decC TD, s + 6) else (noCmt, 0)) := fun h1 h2 => HLK.out (by have := HEE.out; omega) h1 h2
        have PF : Hid (∀ w' x, W0.grownBy w' none → SliceIs w' x (wholeF TD) → Calls Tryd.prog 40 #[.slice (some ⟨pb, po, none⟩) b.length cap, x] w' fun e w'' => e = .returned (.bool (decide ((wholeF TD).length ≤ b.length ∧ b.take (wholeF TD).length = wholeF TD))) ∧ w'' = w') := fun w' x h1 h2 => hasPrefix_any w' _ x b _ (HV.out.grown h1) h2
        clear p1 p2 HLK HTL HTD HFW htl
        generalize hPB : decide ((wholeF TD).length ≤ b.length ∧ b.take (wholeF TD).length = wholeF TD) = PB at *
        have HPB : Hid (PB = true ↔ ((wholeF TD).length ≤ b.length ∧ b.take (wholeF TD).length = wholeF TD)) := by
          show _ ↔ _
          rw [← hPB, decide_eq_true_iff]
        clear hPB
        generalize wholeF TD = WH at *
        generalize decE TD = DE at *
        generalize decC TD = DCc at *
        go_wp2_with fail
        refine (DC.out _ hgx).mono ?_
        rintro e w2 ⟨vs, rfl, ho2, hg2⟩
        obtain ⟨va, vn, vc, rfl⟩ := ho2.any
        obtain ⟨W3, HW3, hg3, B3⟩ := alloc_named0 w2 (.cells #[.int .i64 DCc.turn, .slice va vn vc] 37)
        have hgx3 := grown_trans hgx (grown_trans hg2 hg3)
        have BX3 : Hid (W3.heap[RB]? = some (.cells #[.int .i64 0, .slice none 0 0] 37)) := pair_old hgx3 B0.out
        have O3 : Hid (OwnV w.heap.size 0 W3 (.slice va vn vc) DCc.writes) := (ho2.grownNone hg3).down _ hg0x.size
        obtain ⟨CB, hCB⟩ : ∃ CB, CB = w2.heap.size := ⟨_, rfl⟩
        rw [← hCB] at B3
        have HCBs : Hid (CB = w2.heap.size) := hCB
        clear BX ho2 P1 hCB
        by_cases hde : DE = 0
        · subst hde
          go_upto_region 8 with fail
          rw [← HW3.out, ← HCBs.out]
          go_wp2_with fail
          refine (FR.out _ hgx3).mono ?_
          rintro e w4 ⟨x, rfl, ho4, hg4⟩
          have hgx4 := grown_trans hgx3 hg4
          have BX4 := pair_old hg4 BX3.out
          have B4 := pair_old hg4 B3.out
          by_cases hgr : s + 2 ≤ 4000
          · rw [if_pos hgr] at ho4
            rw [if_pos hgr]
            have hX := HL2.out hgr (by first | rfl | trivial)
            obtain ⟨xa, xc, rfl⟩ := ho4.shape
            have PF4 : Hid (Calls Tryd.prog 40 #[.slice (some ⟨pb, po, none⟩) b.length cap, .slice xa WH.length xc] w4 fun e w'' => e = .returned (.bool PB) ∧ w'' = w4) := PF.out w4 _ hgx4 ho4.slice
            clear PF ho4 HL2 FR DC HBD HGR
            cases hpb : PB with
            | true =>
              rw [if_pos (HPB.out.1 hpb)] at hX
              have HX : Hid (X = (DCc, s + 6)) := hX
              rw [hpb] at PF4
              obtain ⟨u0, u1, _, _⟩ := two_cellsR B4
              obtain ⟨y0, y1, y2, y3⟩ := two_cellsR BX4
              obtain ⟨z0, z1, _, _⟩ := two_cellsR (two_setR BX4 (.int .i64 DCc.turn) (.slice va vn vc))
              have YO : Hid (OwnV w.heap.size 0 ((w4.setCell ⟨RB, 0, none⟩ (.int .i64 DCc.turn)).setCell ⟨RB, 1, none⟩ (.slice va vn vc)) (.slice va vn vc) DCc.writes) := ((O3.out.grownNone hg4).setOther (i := 0) BX4 cmtT5 cmtTW (Nat.zero_le _) (.int .i64 DCc.turn)).setOther (i := 1) (set_self BX4) cmtT5 cmtTW (Nat.zero_le _) (.slice va vn vc)
              have YG : Hid (w.grownBy ((w4.setCell ⟨RB, 0, none⟩ (.int .i64 DCc.turn)).setCell ⟨RB, 1, none⟩ (.slice va vn vc)) none) := grown_setNew (grown_setNew (grown_trans hg0 hgx4) _ hRw _ _) _ hRw _ _
              have HWL : Hid (WH.length = s + 6) := HWLQ.out
              clear hX hpb B4 BX4
              go_wp2_with fail
              refine PF4.out.mono ?_
              rintro e w5 ⟨rfl, rfl⟩
              go_wp2
              refine bodyPost_ret (v := .tuple #[.agg #[.int .i64 DCc.turn, .slice va vn vc], .int .i64 (WH.length : Int)]) (by simp [results, Tryd.results26, go_sem, z0, z1]) rfl ?_
              exact ⟨_, by rw [HX.out, HWL.out], by rw [HX.out]; exact YO.out, YG.out⟩
            | false =>
              have hnp : ¬ (WH.length ≤ b.length ∧ b.take WH.length = WH) := fun h => by rw [HPB.out.2 h] at hpb; cases hpb
              rw [if_neg hnp] at hX
              have HX : Hid (X = (noCmt, 0)) := hX
              rw [hpb] at PF4
              clear hX hpb hnp
              go_wp2_with fail
              refine PF4.out.mono ?_
              rintro e w5 ⟨rfl, rfl⟩
              obtain ⟨y0, y1, y2, y3⟩ := two_cellsR BX4
              obtain ⟨z0, z1, _, _⟩ := two_cellsR (two_setR BX4 (.int .i64 0) (.slice none 0 0))
              have YG : Hid (w.grownBy ((w5.setCell ⟨RB, 0, none⟩ (.int .i64 0)).setCell ⟨RB, 1, none⟩ (.slice none 0 0)) none) := grown_setNew (grown_setNew (grown_trans hg0 hgx4) _ hRw _ _) _ hRw _ _
              go_wp2
              refine bodyPost_ret (v := .tuple #[.agg #[.int .i64 0, .slice none 0 0], .int .i64 0]) (by simp [results, Tryd.results26, go_sem, z0, z1]) rfl ?_
              exact ⟨_, by rw [HX.out]; rfl, by rw [HX.out]; exact ownV_nil _ _ _, YG.out⟩
          · rw [if_neg hgr] at ho4
            rw [if_neg hgr]
            have HX : Hid (X = (noCmt, 0)) := HGR.out hgr
            obtain ⟨xa, xc, rfl⟩ := ho4.shape
            clear ho4
            obtain ⟨y0, y1, y2, y3⟩ := two_cellsR BX4
            obtain ⟨z0, z1, _, _⟩ := two_cellsR (two_setR BX4 (.int .i64 0) (.slice none 0 0))
            have YG : Hid (w.grownBy ((w4.setCell ⟨RB, 0, none⟩ (.int .i64 0)).setCell ⟨RB, 1, none⟩ (.slice none 0 0)) none) := grown_setNew (grown_setNew (grown_trans hg0 hgx4) _ hRw _ _) _ hRw _ _
            go_wp2
            refine bodyPost_ret (v := .tuple #[.agg #[.int .i64 0, .slice none 0 0], .int .i64 0]) (by simp [results, Tryd.results26, go_sem, z0, z1]) rfl ?_
            exact ⟨_, by rw [HX.out]; rfl, by rw [HX.out]; exact ownV_nil _ _ _, YG.out⟩
        · have HX : Hid (X = (noCmt, 0)) := HBD.out hde
          have hde' : (DE != 0) = true := by simpa using hde
          go_upto_region 8 with fail
          rw [← HW3.out, ← HCBs.out]
          clear hde
          obtain ⟨y0, y1, y2, y3⟩ := two_cellsR BX3.out
          obtain ⟨z0, z1, _, _⟩ := two_cellsR (two_setR BX3.out (.int .i64 0) (.slice none 0 0))
          have YG : Hid (w.grownBy ((W3.setCell ⟨RB, 0, none⟩ (.int .i64 0)).setCell ⟨RB, 1, none⟩ (.slice none 0 0)) none) := grown_setNew (grown_setNew (grown_trans hg0 hgx3) _ hRw _ _) _ hRw _ _
          go_wp2
          refine bodyPost_ret (v := .tuple #[.agg #[.int .i64 0, .slice none 0 0], .int .i64 0]) (by simp [results, Tryd.results26, go_sem, z0, z1]) rfl ?_
          exact ⟨_, by rw [HX.out]; rfl, by rw [HX.out]; exact ownV_nil _ _ _, YG.out⟩
      · have j1 : (b.length : Int) < (E : Int) := by omega
        have HX : Hid (X = (noCmt, 0)) := HFW.out (by have := HEE.out; omega)
        obtain ⟨y0, y1, y2, y3⟩ := two_cellsR BX
        obtain ⟨z0, z1, _, _⟩ := two_cellsR (two_setR BX (.int .i64 0) (.slice none 0 0))
        have YG : Hid (w.grownBy ((wc.setCell ⟨RB, 0, none⟩ (.int .i64 0)).setCell ⟨RB, 1, none⟩ (.slice none 0 0)) none) := grown_setNew (grown_setNew hg0x _ hRw _ _) _ hRw _ _
        go_wp2
        refine bodyPost_ret (v := .tuple #[.agg #[.int .i64 0, .slice none 0 0], .int .i64 0]) (by simp [results, Tryd.results26, go_sem, z0, z1]) rfl ?_
        exact ⟨_, by rw [HX.out]; rfl, by rw [HX.out]; exact ownV_nil _ _ _, YG.out⟩
end Go.Proofs.YtkheombfjgjedacDoor

/-
  tape.Recover, as it landed, keeps P6.8.
-/
namespace Go.Proofs.YtkheombfjgjedacDoor
open Go.RowKit
theorem two_setA2 {w : World} {b : Nat} {x y : Value} {t : TypeId} (h : w.heap[b]? = some (.cells #[x, y] t)) (u v : Value) : ((w.setCell ⟨b, 0, none⟩ u).setCell ⟨b, 1, none⟩ v).heap[b]? = some (.cells #[u, v] t) := set_self (set_self h)
theorem Own.setTwoA2 {base : Nat} {w : World} {v : Value} {bs : List UInt8} (h : Own base w v bs) {b : Nat} {x y : Value} {t : TypeId} (hb : w.heap[b]? = some (.cells #[x, y] t)) (ht : t ≠ 5) (p q : Value) : Own base ((w.setCell ⟨b, 0, none⟩ p).setCell ⟨b, 1, none⟩ q) v bs :=
  (h.setBlk hb ht 0 p).setBlk (set_self hb) ht 1 q
theorem rec_next {D : List UInt8 → List UInt8} {d : List UInt8} {cs : List Cmt} {m z : Nat} {c : Cmt} (h : recL D 1 d = (cs ++ (recL D (cs.length + 1) (d.drop m)).1, (recL D (cs.length + 1) (d.drop m)).2)) (hf : frameD D (d.drop m) = some (c, (d.drop m).drop z)) (ht : c.turn = ((cs.length + 1 : Nat) : Int)) : recL D 1 d = ((cs ++ [c]) ++ (recL D ((cs ++ [c]).length + 1) (d.drop (m + z))).1, (recL D ((cs ++ [c]).length + 1) (d.drop (m + z))).2) := by
  rw [rec_go hf ht, List.drop_drop] at h
  rw [h, List.length_append]
  simp
set_option maxRecDepth 100000 in
set_option maxHeartbeats 4000000 in
theorem tprec_ok : TpRecOK := by
  intro w v t hv hl ht
  obtain ⟨a, cap, rfl⟩ := hv.agg
  obtain ⟨U0, HU0, hgU, BU⟩ := alloc_named0 w (.cells #[.slice a t.data.length cap, .int .i64 t.synced] 28)
  obtain ⟨W0, HW0, hgA, B0⟩ := alloc_named0 U0 (.cells #[.slice none 0 0, .int .i64 0] 28)
  have HW : Hid (W0 = (w.alloc (.cells #[.slice a t.data.length cap, .int .i64 t.synced] 28)).alloc (.cells #[.slice none 0 0, .int .i64 0] 28)) := by show _ = _; rw [HW0.out, HU0.out]
  have hszU : U0.heap.size = w.heap.size + 1 := by rw [HU0.out]; simp
  rw [hszU] at B0
  have hg0 := grown_trans hgU hgA
  have BT : Hid (W0.heap[w.heap.size]? = some (.cells #[.slice a t.data.length cap, .int .i64 t.synced] 28)) := pair_old hgA BU.out
  have TM : Hid (Calls Tryd.prog 22 #[.agg #[.slice a t.data.length cap, .int .i64 t.synced]] W0 fun e w' => e = .returned (.int .i64 (if mayT t = true then 0 else 6)) ∧ W0.grownBy w' none) := checkTape_any W0 _ t (hv.grown hg0)
  have HD : Hid (SliceIs w (.slice a t.data.length cap) t.data) := hv.data.1
  have HT : Hid (Tabs w) := ht
  have hcap := hv.data.1.cap.1
  obtain ⟨PB, hPB⟩ : ∃ PB, PB = w.heap.size := ⟨_, rfl⟩
  obtain ⟨RB, hRB⟩ : ∃ RB, RB = w.heap.size + 1 := ⟨_, rfl⟩
  have HPBq : Hid (PB = w.heap.size) := hPB
  have HRBq : Hid (RB = w.heap.size + 1) := hRB
  have hPw : w.heap.size ≤ PB := by omega
  have hRw : w.heap.size ≤ RB := by omega
  have hPR : PB ≠ RB := by omega
  rw [← hRB] at B0
  rw [← hPB] at BT
  clear hv hl ht hszU hPB hRB BU
  obtain ⟨c0, c1, _, _⟩ := two_cellsF BT.out
  by_cases hmy : mayT t = true
  · obtain ⟨m1, m2, m3⟩ := (mayT_iff t).1 hmy
    rw [if_pos hmy] at TM
    have HRE : Hid (recE t = 0) := by show _ = _; rw [recE, if_pos hmy]
    have HEND : Hid (∀ (n : Nat) (cs : List Cmt), recL fourF 1 t.data = (cs, t.data.drop n) → recC fourF t = cs ∧ (n ≤ t.data.length → recT fourF t = ⟨t.data.take n, if t.synced > (n : Int) then (n : Int) else t.synced⟩)) := fun n cs h => by
      refine ⟨by rw [recC, if_pos hmy, h], fun hn => ?_⟩
      have hN : recN fourF t.data = n := by rw [recN, h]; show t.data.length - (t.data.drop n).length = n; rw [List.length_drop]; omega
      rw [recT, if_pos hmy, hN]
    clear hmy
    go_enter Tryd.func14, Tryd.ntmps14
    go_upto_region 1 with fail
    rw [← HW.out, ← HRBq.out, ← HPBq.out]
    go_wp2_with fail
    refine TM.out.mono ?_
    rintro e w1 ⟨rfl, hg1⟩
    have BT1 := pair_old hg1 BT.out
    have BR1 := pair_old hg1 B0.out
    have hgw1 := grown_trans hg0 hg1
    clear c0 c1
    go_wp2_with fail
    go_loopw [6, 7] (fun lv ev wr => ∃ (m : Nat) (cs : List Cmt), ev = .int .i64 (m : Int) ∧ m ≤ t.data.length ∧ cs.length * 6 ≤ m ∧ recL fourF 1 t.data = (cs ++ (recL fourF (cs.length + 1) (t.data.drop m)).1, (recL fourF (cs.length + 1) (t.data.drop m)).2) ∧ OwnC w.heap.size wr lv cs ∧ wr.heap[PB]? = some (.cells #[.slice a t.data.length cap, .int .i64 t.synced] 28) ∧ wr.heap[RB]? = some (.cells #[.slice none 0 0, .int .i64 0] 28) ∧ w.grownBy wr none) (fun _ e _ => t.data.length - (intOf e).toNat)
    case atStart => exact ⟨0, [], rfl, by omega, by simp, rfl, ownC_nil _ _, BT1, BR1, hgw1⟩
    case round =>
      obtain ⟨m, cs, rfl, hm, hc6, hrc, hoc, hbt, hbr, hgw⟩ := hrel
      have HRC : Hid (recL fourF 1 t.data = (cs ++ (recL fourF (cs.length + 1) (t.data.drop m)).1, (recL fourF (cs.length + 1) (t.data.drop m)).2)) := hrc
      obtain ⟨la, lc, rfl⟩ := hoc.shape
      have HOC : Hid (OwnC w.heap.size wr (.slice la cs.length lc) cs) := hoc
      have HBT : Hid (wr.heap[PB]? = some (.cells #[.slice a t.data.length cap, .int .i64 t.synced] 28)) := hbt
      have HBR : Hid (wr.heap[RB]? = some (.cells #[.slice none 0 0, .int .i64 0] 28)) := hbr
      obtain ⟨p0, p1, _, _⟩ := two_cellsF hbt
      obtain ⟨a1, k1, q1, q2⟩ := bslice_l a cap t.data m hm
      have FI : Hid (Calls Tryd.prog 26 #[.slice a1 (t.data.length - m) k1] wr fun e w' => ∃ vs, e = .returned (.tuple #[.agg #[.int .i64 (firstF (t.data.drop m)).1.turn, vs], .int .i64 ((firstF (t.data.drop m)).2 : Int)]) ∧ OwnV wr.heap.size 0 w' vs (firstF (t.data.drop m)).1.writes ∧ wr.grownBy w' none) := first_any wr _ _ (q2 wr (HD.out.grown hgw)) (by simp; omega) (HT.out.grownNone hgw)
      have q1w := q1 wr
      have hFP := firstF_pos (t.data.drop m)
      have HDL : Hid ((t.data.drop m).length = t.data.length - m) := List.length_drop
      obtain ⟨F, hF⟩ : ∃ F, F = firstF (t.data.drop m) := ⟨_, rfl⟩
      rw [← hF] at FI hFP
      obtain ⟨C, Z⟩ := F
      have HFP : Hid (((C, Z).2 = 0 ∧ (C, Z) = (noCmt, 0) ∧ frameD fourF (t.data.drop m) = none) ∨ ((C, Z).2 = sizeD (t.data.drop m) + 6 ∧ frameD fourF (t.data.drop m) = some ((C, Z).1, (t.data.drop m).drop (C, Z).2) ∧ (C, Z).2 ≤ (t.data.drop m).length)) := hFP
      generalize t.data.length - m = dl at *
      clear hrc hoc hbt hbr q1 q2 hFP hF
      go_upto_region 7 with (go_at_call 26; refine FI.out.mono ?_; rintro e w2 ⟨vs, rfl, ho2, hg2⟩; obtain ⟨va, vn, vc, rfl⟩ := ho2.any)
      obtain ⟨W2, HW2, hgA2, B2⟩ := alloc_named0 w2 (.cells #[.int .i64 C.turn, .slice va vn vc] 37)
      rw [← HW2.out]
      have hgr2 := grown_trans hg2 hgA2
      have hgW2 := grown_trans hgw hgr2
      have BT2 : Hid (W2.heap[PB]? = some (.cells #[.slice a t.data.length cap, .int .i64 t.synced] 28)) := pair_old hgr2 HBT.out
      have BR2 : Hid (W2.heap[RB]? = some (.cells #[.slice none 0 0, .int .i64 0] 28)) := pair_old hgr2 HBR.out
      have HOC2 : Hid (OwnC w.heap.size W2 (.slice la cs.length lc) cs) := HOC.out.grownNone hgr2
      have HWB2 : Hid (WritesB w.heap.size W2 (.slice va vn vc) C.writes) := (ho2.grownNone hgA2).writesB.mono (Nat.zero_le _)
      clear p0 p1 q1w ho2 hg2 hgA2 hgr2 HOC HBT HBR FI
      obtain ⟨u0, u1, _, _⟩ := two_cellsR B2.out
      obtain ⟨p0, p1, _, _⟩ := two_cellsF BT2.out
      by_cases hbrk : Z = 0 ∨ C.turn ≠ ((cs.length + 1 : Nat) : Int)
      · have FINQ : Hid (recL fourF 1 t.data = (cs, t.data.drop m)) := by
          show _ = _
          rcases HFP.out with ⟨_, _, h3⟩ | ⟨h1, h2, _⟩
          · rw [HRC.out, rec_stop h3, List.append_nil]
          · rcases hbrk with hz | hz
            · have h1 : Z = sizeD (t.data.drop m) + 6 := h1
              omega
            · rw [HRC.out, rec_other h2 hz, List.append_nil]
        have YCC : Hid (recC fourF t = cs) := (HEND.out m cs FINQ.out).1
        have HBK : Hid (Z = 0 ∨ C.turn ≠ ((cs.length + 1 : Nat) : Int)) := hbrk
        clear hbrk HRC HFP
        go_cut [33] (fun s33 wx => s33 = .bool true ∧ wx = W2)
        case first =>
          by_cases hz : Z = 0
          · have z1 : ((Z : Int) == 0) = true := by simp [hz]
            clear hz
            go_wp2_with fail
            go_meet
            case rel => exact ⟨rfl, rfl⟩
          · have z1 : ((Z : Int) == 0) = false := by simp only [beq_eq_false_iff_ne, ne_eq]; omega
            have z2 : (C.turn != (cs.length : Int) + 1) = true := by
              rcases HBK.out with h | h
              · exact absurd h hz
              · rw [bne_iff_ne]; omega
            clear hz
            go_wp2_with fail
            go_meet
            case rel => exact ⟨rfl, rfl⟩
        case rest =>
          obtain ⟨rfl, hw⟩ := hcut
          have hw := hw.symm
          subst hw
          by_cases hs : t.synced ≤ (m : Int)
          · skip
            have HMIN : (if (m : Int) < t.synced then (m : Int) else t.synced) = t.synced := if_neg (by omega)
            have YT : Hid (recT fourF t = ⟨t.data.take m, t.synced⟩) := by show _ = _; rw [(HEND.out m cs FINQ.out).2 hm, if_neg (by omega)]
            obtain ⟨a3, k3, q3, q4⟩ := bslice_h a cap t.data m hm hcap
            have CL : Hid (∀ w', w.grownBy w' none → Calls Tryd.prog 27 #[.slice a3 m k3] w' fun e w'' => ∃ v', e = .returned v' ∧ Own w'.heap.size w'' v' (t.data.take m) ∧ w'.grownBy w'' none) := fun w' h => clone_any w' _ _ (q4 w' (HD.out.grown h)) (by simp; omega)
            have hgd : W2.grownBy W2.drew none := grown_drew (grown_refl _ _)
            have hgWd := grown_trans hgW2 hgd
            have q3d := q3 W2.drew
            have q3n := q3
            have e0 : W2.drew.cell? ⟨PB, 0, none⟩ = some (.slice a t.data.length cap) := p0
            have e1 : W2.drew.cell? ⟨PB, 1, none⟩ = some (.int .i64 t.synced) := p1
            have OC2 : Hid (OwnC w.heap.size W2.drew (.slice la cs.length lc) cs) := HOC2.out.grownNone hgd
            have BRd : Hid (W2.drew.heap[RB]? = some (.cells #[.slice none 0 0, .int .i64 0] 28)) := BR2.out
            generalize t.data.take m = TK at *
            clear q3d q4 q3n HEND FINQ HDL
            go_upto_region 10 with fail
            go_region_held3 (fun w' => w'.cell? ⟨PB, 0, none⟩ = some (.slice a t.data.length cap) ∧ w'.cell? ⟨PB, 1, none⟩ = some (.int .i64 t.synced)) (first | exact ⟨e0, e1⟩ | exact ⟨f0, f1⟩ | exact ⟨g0, g1⟩) ((go_at_call 27; refine (CL.out _ hgWd).mono ?_; rintro e w5 ⟨v5, rfl, ho5, hg5⟩; obtain ⟨xa, xn, xc, rfl⟩ := Own.anyC ho5; have hgW5 := grown_trans hgWd hg5; have f0 := hg5.cell e0 (by simp); have f1 := hg5.cell e1 (by simp); have hb5 := pair_old hg5 BRd.out; obtain ⟨y0, y1, y2, y3⟩ := two_cellsF hb5; obtain ⟨z0, z1, _, _⟩ := two_cellsF (two_setA2 hb5 (.slice xa xn xc) (.int .i64 t.synced)); have YO : Hid (SliceIs ((w5.setCell ⟨RB, 0, none⟩ (.slice xa xn xc)).setCell ⟨RB, 1, none⟩ (.int .i64 t.synced)) (.slice xa xn xc) TK) := (ho5.setTwoA2 hb5 tapT5 _ _).slice; have YC : Hid (CommitsIs ((w5.setCell ⟨RB, 0, none⟩ (.slice xa xn xc)).setCell ⟨RB, 1, none⟩ (.int .i64 t.synced)) (.slice la cs.length lc) cs) := (((OC2.out.grownNone hg5).setOther hb5 tapT5 tapTW tapTC hRw _).setOther (set_self hb5) tapT5 tapTW tapTC hRw _).list; have YG : Hid (w.grownBy ((w5.setCell ⟨RB, 0, none⟩ (.slice xa xn xc)).setCell ⟨RB, 1, none⟩ (.int .i64 t.synced)) none) := grown_setNew (grown_setNew hgW5 _ hRw _ _) _ hRw _ _; have hgF5 : w5.grownBy ((w5.setCell ⟨RB, 0, none⟩ (.slice xa xn xc)).setCell ⟨RB, 1, none⟩ (.int .i64 t.synced)) (some RB) := grown_set (grown_set (grown_refl _ _) _ _) _ _; have g0 := hgF5.cell f0 (by simpa using hPR); have g1 := hgF5.cell f1 (by simpa using hPR); clear ho5 hb5 hgF5))
            all_goals
              go_wp2_with fail
              refine bodyPost_ret (v := .tuple #[.slice la cs.length lc, .agg #[.slice xa xn xc, .int .i64 t.synced], .int .i64 0]) (by simp [results, Tryd.results14, go_sem, z0, z1]) rfl ?_
              exact ⟨_, _, by rw [HRE.out], by rw [YCC.out]; exact YC.out, by rw [YT.out]; exact ⟨_, rfl, YO.out⟩, YG.out⟩
          · skip
            have HMIN : (m : Int) < t.synced := by omega
            have YT : Hid (recT fourF t = ⟨t.data.take m, (m : Int)⟩) := by show _ = _; rw [(HEND.out m cs FINQ.out).2 hm, if_pos (by omega)]
            obtain ⟨a3, k3, q3, q4⟩ := bslice_h a cap t.data m hm hcap
            have CL : Hid (∀ w', w.grownBy w' none → Calls Tryd.prog 27 #[.slice a3 m k3] w' fun e w'' => ∃ v', e = .returned v' ∧ Own w'.heap.size w'' v' (t.data.take m) ∧ w'.grownBy w'' none) := fun w' h => clone_any w' _ _ (q4 w' (HD.out.grown h)) (by simp; omega)
            have hgd : W2.grownBy W2.drew none := grown_drew (grown_refl _ _)
            have hgWd := grown_trans hgW2 hgd
            have q3d := q3 W2.drew
            have q3n := q3
            have e0 : W2.drew.cell? ⟨PB, 0, none⟩ = some (.slice a t.data.length cap) := p0
            have e1 : W2.drew.cell? ⟨PB, 1, none⟩ = some (.int .i64 t.synced) := p1
            have OC2 : Hid (OwnC w.heap.size W2.drew (.slice la cs.length lc) cs) := HOC2.out.grownNone hgd
            have BRd : Hid (W2.drew.heap[RB]? = some (.cells #[.slice none 0 0, .int .i64 0] 28)) := BR2.out
            generalize t.data.take m = TK at *
            clear q3d q4 q3n HEND FINQ HDL
            go_upto_region 10 with fail
            go_region_held3 (fun w' => w'.cell? ⟨PB, 0, none⟩ = some (.slice a t.data.length cap) ∧ w'.cell? ⟨PB, 1, none⟩ = some (.int .i64 t.synced)) (first | exact ⟨e0, e1⟩ | exact ⟨f0, f1⟩ | exact ⟨g0, g1⟩) ((go_at_call 27; refine (CL.out _ hgWd).mono ?_; rintro e w5 ⟨v5, rfl, ho5, hg5⟩; obtain ⟨xa, xn, xc, rfl⟩ := Own.anyC ho5; have hgW5 := grown_trans hgWd hg5; have f0 := hg5.cell e0 (by simp); have f1 := hg5.cell e1 (by simp); have hb5 := pair_old hg5 BRd.out; obtain ⟨y0, y1, y2, y3⟩ := two_cellsF hb5; obtain ⟨z0, z1, _, _⟩ := two_cellsF (two_setA2 hb5 (.slice xa xn xc) (.int .i64 (m : Int))); have YO : Hid (SliceIs ((w5.setCell ⟨RB, 0, none⟩ (.slice xa xn xc)).setCell ⟨RB, 1, none⟩ (.int .i64 (m : Int))) (.slice xa xn xc) TK) := (ho5.setTwoA2 hb5 tapT5 _ _).slice; have YC : Hid (CommitsIs ((w5.setCell ⟨RB, 0, none⟩ (.slice xa xn xc)).setCell ⟨RB, 1, none⟩ (.int .i64 (m : Int))) (.slice la cs.length lc) cs) := (((OC2.out.grownNone hg5).setOther hb5 tapT5 tapTW tapTC hRw _).setOther (set_self hb5) tapT5 tapTW tapTC hRw _).list; have YG : Hid (w.grownBy ((w5.setCell ⟨RB, 0, none⟩ (.slice xa xn xc)).setCell ⟨RB, 1, none⟩ (.int .i64 (m : Int))) none) := grown_setNew (grown_setNew hgW5 _ hRw _ _) _ hRw _ _; have hgF5 : w5.grownBy ((w5.setCell ⟨RB, 0, none⟩ (.slice xa xn xc)).setCell ⟨RB, 1, none⟩ (.int .i64 (m : Int))) (some RB) := grown_set (grown_set (grown_refl _ _) _ _) _ _; have g0 := hgF5.cell f0 (by simpa using hPR); have g1 := hgF5.cell f1 (by simpa using hPR); clear ho5 hb5 hgF5))
            all_goals
              go_wp2_with fail
              refine bodyPost_ret (v := .tuple #[.slice la cs.length lc, .agg #[.slice xa xn xc, .int .i64 (m : Int)], .int .i64 0]) (by simp [results, Tryd.results14, go_sem, z0, z1]) rfl ?_
              exact ⟨_, _, by rw [HRE.out], by rw [YCC.out]; exact YC.out, by rw [YT.out]; exact ⟨_, rfl, YO.out⟩, YG.out⟩
      · have hz : ¬ Z = 0 := fun h => hbrk (.inl h)
        have htn : C.turn = ((cs.length + 1 : Nat) : Int) := by
          by_cases h : C.turn = ((cs.length + 1 : Nat) : Int)
          · exact h
          · exact absurd (.inr h) hbrk
        have hall : frameD fourF (t.data.drop m) = some (C, (t.data.drop m).drop Z) ∧ 6 ≤ Z ∧ Z ≤ (t.data.drop m).length := by
          rcases HFP.out with ⟨h1, _, _⟩ | ⟨h1, h2, h3⟩
          · exact absurd h1 hz
          · refine ⟨h2, ?_, h3⟩
            have h1 : Z = sizeD (t.data.drop m) + 6 := h1
            omega
        obtain ⟨hfd, hz6, hzl⟩ := hall
        have NX : Hid (recL fourF 1 t.data = ((cs ++ [C]) ++ (recL fourF ((cs ++ [C]).length + 1) (t.data.drop (m + Z))).1, (recL fourF ((cs ++ [C]).length + 1) (t.data.drop (m + Z))).2)) := rec_next HRC.out hfd htn
        have hm' : m + Z ≤ t.data.length := by rw [List.length_drop] at hzl; omega
        have hc6' : (cs ++ [C]).length * 6 ≤ m + Z := by rw [List.length_append]; show (cs.length + 1) * 6 ≤ m + Z; omega
        have z1 : ((Z : Int) == 0) = false := by simp only [beq_eq_false_iff_ne, ne_eq]; omega
        have z2 : (C.turn != (cs.length : Int) + 1) = false := by simp only [bne_eq_false_iff_eq]; omega
        obtain ⟨W3, HW3, hgA3, B3⟩ := alloc_named0 W2 (.cells #[.int .i64 C.turn, .slice va vn vc] 37)
        have OC3 : Hid (OwnC w.heap.size W3 (.slice la cs.length lc) cs) := HOC2.out.grownNone hgA3
        have WB3 : Hid (WritesB w.heap.size W3 (.slice va vn vc) C.writes) := HWB2.out.grown hgA3
        have BT3 : Hid (W3.heap[PB]? = some (.cells #[.slice a t.data.length cap, .int .i64 t.synced] 28)) := pair_old hgA3 BT2.out
        have BR3 : Hid (W3.heap[RB]? = some (.cells #[.slice none 0 0, .int .i64 0] 28)) := pair_old hgA3 BR2.out
        have hgW3 := grown_trans hgW2 hgA3
        have hsz3 := hgW3.size
        have hl32 : (cs.length + 1) * 32 ≤ 140737488355328 := by omega
        have hmz : m < m + Z := by omega
        clear hbrk hz htn hfd hzl HRC HFP HOC2 HWB2
        go_wp2_with (at_builtin; rw [← HW3.out]; refine wpList_append_cmt rfl (.tmp 34) (.tmp 36) rfl w.heap.size (.slice la cs.length lc) cs rfl OC3.out (.slice va vn vc) C WB3.out W2.heap.size B3.out rfl hl32 hsz3 ?_; intro v5 w5 ho5 hg5; have hbt5 := OC3.out.other hg5 BT3.out tapTC; have hbr5 := OC3.out.other hg5 BR3.out tapTC; have hgw5 := grown_ownC hgW3 OC3.out (Nat.le_refl _) hg5; have H5 : Hid (OwnC w.heap.size w5 v5 (cs ++ [C])) := ho5)
        go_roundw
        case rel => exact ⟨m + Z, cs ++ [C], by go_num, hm', hc6', NX.out, H5.out, hbt5, hbr5, hgw5⟩
        case measure => simp [intOf]; omega
  · rw [if_neg hmy] at TM
    have HRE : recE t = 6 := by rw [recE, if_neg hmy]
    have HRC : recC fourF t = [] := by rw [recC, if_neg hmy]
    have HRT : recT fourF t = noTap := by rw [recT, if_neg hmy]
    rw [HRE, HRC, HRT]
    clear hmy HRE HRC HRT
    go_enter Tryd.func14, Tryd.ntmps14
    go_upto_region 1 with fail
    rw [← HW.out, ← HRBq.out, ← HPBq.out]
    go_wp2_with fail
    refine TM.out.mono ?_
    rintro e w1 ⟨rfl, hg1⟩
    have hb2 := pair_old hg1 B0.out
    obtain ⟨y0, y1, y2, y3⟩ := two_cellsF hb2
    obtain ⟨z0, z1, _, _⟩ := two_cellsF (two_setA2 hb2 (.slice none 0 0) (.int .i64 0))
    clear c0 c1
    go_wp2
    refine bodyPost_ret (v := .tuple #[.slice none 0 0, .agg #[.slice none 0 0, .int .i64 0], .int .i64 6]) (by simp [results, Tryd.results14, go_sem, z0, z1]) rfl ?_
    exact ⟨_, _, rfl, commitsIs_nil _, tapeIs_no _, grown_setNew (grown_setNew (grown_trans hg0 hg1) _ hRw _ _) _ hRw _ _⟩
end Go.Proofs.YtkheombfjgjedacDoor
