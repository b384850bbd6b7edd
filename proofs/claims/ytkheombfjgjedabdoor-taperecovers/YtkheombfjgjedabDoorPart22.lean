/-
  Texts of this proof, joined: RFrame, RTapeR.
-/
import Derived.Test.YtkheombfjgjedabDoorPart20
import Derived.Test.YtkheombfjgjedabDoorPart4
import Derived.Test.YtkheombfjgjedabDoorTapeFour
import Derived.Test.YtkheombfjgjedabDoorPart21
import Derived.Test.YtkheombfjgjedabDoorPart19
import Derived.Test.YtkheombfjgjedabDoorRSameB
import Derived.Deep.RegionWith
import Derived.BigQuiet
/-
  The document's answer: frameAt.
-/
namespace Go.Proofs.YtkheombfjgjedabDoor
open Go.RowKit
def frameO (b : List UInt8) (n : Nat) : Cmt × Option Nat := match frameD fourF (b.drop n) with | some (c, _) => (c, some (n + sizeD (b.drop n) + 6)) | none => (noCmt, none)
theorem frameO_none {b : List UInt8} {n : Nat} (h : frameD fourF (b.drop n) = none) : frameO b n = (noCmt, none) := by unfold frameO; rw [h]
theorem drop_len (b : List UInt8) (n : Nat) : (b.drop n).length = b.length - n := List.length_drop
theorem sizeD_drop (b : List UInt8) (n : Nat) : sizeD (b.drop n) = 256 * (b.getD n 0).toNat + (b.getD (n + 1) 0).toNat := by
  unfold sizeD
  rw [show (b.drop n).getD 0 0 = b.getD n 0 by simp [List.getD_eq_getElem?_getD], show (b.drop n).getD 1 0 = b.getD (n + 1) 0 by simp [List.getD_eq_getElem?_getD]]
theorem take_drop_sub (b : List UInt8) (i j : Nat) : (b.take j).drop i = (b.drop i).take (j - i) := List.drop_take
set_option maxRecDepth 100000 in
set_option maxHeartbeats 4000000 in
theorem frameAt_any (w : World) (v : Value) (b : List UInt8) (n : Nat) (hv : SliceIs w v b) (hb : b.length ≤ 200000) (hn : n ≤ b.length) :
    Calls Tryd.prog 19 #[v, .int .i64 (n : Int)] w fun e w' => ∃ vs, e = .returned (.tuple #[.agg #[.int .i64 (frameO b n).1.turn, vs], .int .i64 (atI (frameO b n).2)]) ∧ OwnV w.heap.size 0 w' vs (frameO b n).1.writes ∧ w.grownBy w' none := by
  obtain ⟨a, cap, rfl⟩ := hv.shape
  have hcap := hv.cap.1
  obtain ⟨X, hX⟩ : ∃ X, X = frameO b n := ⟨_, rfl⟩
  obtain ⟨XI, hXI⟩ : ∃ XI, XI = atI X.2 := ⟨_, rfl⟩
  rw [← hX, ← hXI]
  have HX : Hid (X = frameO b n) := hX
  have HXI : Hid (XI = atI X.2) := hXI
  clear hX hXI
  obtain ⟨W0, HW0, hg0, B0⟩ := alloc_named4 w (.cells #[.int .i64 0, .slice none 0 0] 43)
  have HV0 : Hid (SliceIs W0 (.slice a b.length cap) b) := hv.grown hg0
  have hdl := drop_len b n
  have hR := take_drop_sub b
  by_cases h6 : n + 6 ≤ b.length
  · obtain ⟨pb, po, rfl, hbs⟩ := (hv.grown hg0).byte n (by omega)
    have c0 := hbs n (by omega)
    have c1 := hbs (n + 1) (by omega)
    have hsz := sizeD_drop b n
    have x0 := (b.getD n 0).toNat_lt
    have x1 := (b.getD (n + 1) 0).toNat_lt
    generalize (b.getD n 0).toNat = n0 at *
    generalize (b.getD (n + 1) 0).toNat = n1 at *
    have i1 : ¬ (n : Int) + 6 > (b.length : Int) := by omega
    obtain ⟨s, hs⟩ : ∃ s, s = 256 * n0 + n1 := ⟨_, rfl⟩
    obtain ⟨E, hE⟩ : ∃ E : Nat, E = n + 2 + s := ⟨_, rfl⟩
    have HEI : Hid ((n : Int) + 2 + 256 * (n0 : Int) + (n1 : Int) = (E : Int)) := by show _ = _; omega
    have HSD : Hid (sizeD (b.drop n) = s) := by show _ = _; rw [hsz, hs]
    have hs65 : s ≤ 65535 := by omega
    have REG3 : Hid (s = 256 * n0 + n1) := hs
    have HEN : Hid (E = n + 2 + s) := hE
    have hEn : n ≤ E := by omega
    have hE2 : n + 2 ≤ E := by omega
    have hEs : E - (n + 2) = s := by omega
    have hb65 : E ≤ 300000 := by omega
    have HV : Hid (SliceIs W0 (.slice (some ⟨pb, po, none⟩) b.length cap) b) := hv.grown hg0
    have hn0 : n < b.length := by omega
    have hn1 : n + 1 < b.length := by omega
    have HN6 : Hid (n + 6 ≤ b.length) := h6
    clear hsz hs hE hv hbs hR hdl h6
    obtain ⟨r0, r1, r2, r3⟩ := pair_room (grown_refl W0 none) B0.out
    go_enter Tryd.func19, Tryd.ntmps19
    go_upto_region 1 with fail
    rw [← HW0.out]
    go_upto_region 3 with fail
    go_cut [6] (fun s6 wx => s6 = .int .i64 (E : Int) ∧ W0.grownBy wx none)
    case first =>
      go_region
      all_goals (go_wp2_with fail; go_meet; case rel => exact ⟨by rw [← HEI.out], grown_drew (grown_refl _ _)⟩)
    case rest =>
      obtain ⟨rfl, hgx⟩ := hcut
      clear r0 r1 r2 r3 c0 c1
      have hg0x := grown_trans hg0 hgx
      obtain ⟨r0, r1, r2, r3⟩ := pair_room hgx B0.out
      by_cases hfit : E + 4 ≤ b.length ∧ s + 2 ≤ 4000
      · obtain ⟨f1, f2⟩ := hfit
        have j1 : ¬ (E : Int) + 4 > (b.length : Int) := by omega
        have j2 : ¬ (E : Int) - (n : Int) > 4000 := by have := HEN.out; omega
        obtain ⟨a1, k1, p1, p2⟩ := bslice_lh (some ⟨pb, po, none⟩) cap b n E hEn (by omega) hcap
        obtain ⟨a2, k2, p3, p4⟩ := bslice_lh (some ⟨pb, po, none⟩) cap b E (E + 4) (by omega) f1 hcap
        obtain ⟨a3, k3, p5, p6⟩ := bslice_lh (some ⟨pb, po, none⟩) cap b (n + 2) E hE2 (by omega) hcap
        rw [show E + 4 - E = 4 by omega, show ((E + 4 : Nat) : Int) = (E : Int) + 4 by omega] at p3
        rw [show E + 4 - E = 4 by omega] at p4
        rw [hEs, show ((n + 2 : Nat) : Int) = (n : Int) + 2 by omega] at p5
        rw [hEs] at p6
        obtain ⟨R1, hR1⟩ : ∃ R1, R1 = (b.take E).drop n := ⟨_, rfl⟩
        obtain ⟨R2, hR2⟩ : ∃ R2, R2 = (b.take (E + 4)).drop E := ⟨_, rfl⟩
        obtain ⟨M, hM⟩ : ∃ M, M = (b.take E).drop (n + 2) := ⟨_, rfl⟩
        rw [← hR1] at p2
        rw [← hR2] at p4
        rw [← hM] at p6
        have HFD : Hid (X = if fourF R1 = R2 then (if decE M = 0 then (decC M, some (E + 4)) else (noCmt, none)) else (noCmt, none)) := by
          show _ = _
          rw [HX.out]
          have e1 : (b.drop n).take (s + 2) = R1 := by rw [hR1, take_drop_sub, HEN.out]; congr 1; omega
          have e2 : ((b.drop n).drop (s + 2)).take 4 = R2 := by rw [hR2, take_drop_sub, List.drop_drop, show E + 4 - E = 4 by omega, show n + (s + 2) = E by have := HEN.out; omega]
          have e3 : ((b.drop n).drop 2).take s = M := by rw [hM, take_drop_sub, List.drop_drop, hEs]
          have h := HEN.out
          have h' := HN6.out
          unfold frameO frameD
          rw [HSD.out, if_neg (by rw [drop_len]; omega), if_neg (by rw [drop_len]; omega), e1, e2, e3]
          by_cases q1 : fourF R1 = R2
          · rw [if_pos q1, if_pos q1]
            by_cases q2 : decE M = 0
            · rw [if_pos q2, if_pos q2]
              show (decC M, some (n + s + 6)) = _
              rw [show n + s + 6 = E + 4 by omega]
            · rw [if_neg q2, if_neg q2]
          · rw [if_neg q1, if_neg q1]
        have hl1 : R1.length ≤ 4000 := by rw [hR1]; simp; have := HEN.out; omega
        have hlM : M.length ≤ 4000 := by rw [hM]; simp; have := HEN.out; omega
        have DG : Hid (∀ w' x, SliceIs w' x R1 → Calls Tryd.prog 31 #[x] w' fun e w'' => ∃ xa xc, e = .returned (.slice xa 32 xc) ∧ SliceIs w'' (.slice xa 32 xc) (sumF R1) ∧ w'.grownBy w'' none) := fun w' x h => (digested_any w' x _ h hl1).mono (by
          rintro e w'' ⟨v', rfl, h1, h2⟩
          obtain ⟨xa, xc, rfl⟩ := h1.shape
          rw [sumF_len] at h1 ⊢
          exact ⟨xa, xc, rfl, h1, h2⟩)
        have CO : Hid (∀ w' x, SliceIs w' x M → Calls Tryd.prog 33 #[x] w' fun e w'' => ∃ vs, e = .returned (.tuple #[.agg #[.int .i64 (decC M).turn, vs], .int .i64 (decE M)]) ∧ OwnV w'.heap.size 0 w'' vs (decC M).writes ∧ w'.grownBy w'' none) := fun w' x h => commitOf_any w' x M h (by omega)
        have HSF : Hid (fourF R1 = (sumF R1).take 4) := rfl
        have HSL : Hid ((sumF R1).length = 32) := sumF_len R1
        generalize sumF R1 = S at *
        have P1 := p1 wc
        have HP2 : Hid (SliceIs wc (.slice a1 (E - n) k1) R1) := p2 _ (HV.out.grown hgx)
        have HP4 : Hid (∀ w', W0.grownBy w' none → SliceIs w' (.slice a2 4 k2) R2) := fun w' h => p4 _ (HV.out.grown h)
        have HP6 : Hid (∀ w', W0.grownBy w' none → SliceIs w' (.slice a3 s k3) M) := fun w' h => p6 _ (HV.out.grown h)
        generalize E - n = En at *
        clear p1 p2 p4 p6 hR1 hR2 hM
        go_wp2_with fail
        refine (DG.out _ _ HP2.out).mono ?_
        rintro e w2 ⟨da, dc, rfl, h2, hg2⟩
        have hcd := h2.cap.1
        rw [HSL.out] at hcd
        obtain ⟨a4, k4, p7, p8⟩ := bslice_h da dc S 4 (by rw [HSL.out]; omega) (by rw [HSL.out]; exact hcd)
        rw [HSL.out] at p7 p8
        have p7' : ∀ W, (Instr.slice 22 (.slice da 32 dc) none (some (.int .i64 4)) none).run Tryd.prog W = .ok (.slice a4 4 k4) W := p7
        have hg02 := grown_trans hgx hg2
        have HS4 : Hid (SliceIs w2 (.slice a4 4 k4) (S.take 4)) := p8 w2 h2
        have SM : Hid (∀ k, Calls Tryd.prog 32 #[.slice a4 4 k4, .slice a2 4 k2] (w2.drewN k) fun e w' => e = .returned (.bool (decide (S.take 4 = R2))) ∧ w' = w2.drewN k) := fun k => rsame_any _ _ _ _ _ (HS4.out.drewN k) ((HP4.out _ hg02).drewN k)
        rw [HSF.out] at HFD
        clear HSF DG HP2
        clear p7 p8 h2 r0 r1 r2 r3 P1
        go_wp2_with fail
        go_quiet (first | (go_at_call 32; exact Calls.quiet_of_same (SM.out _)))
        have hgd : w2.grownBy (w2.drewN nq) none := grown_drewN (grown_refl _ _) nq
        generalize w2.drewN nq = Wd at *
        have hg0d := grown_trans hg02 hgd
        obtain ⟨r0, r1, r2, r3⟩ := pair_room hg0d B0.out
        by_cases hq : S.take 4 = R2
        · rw [decide_eq_true hq]
          rw [if_pos hq] at HFD
          have P5 := p5 Wd
          clear hq SM p3 p5 p7'
          go_wp2_with fail
          refine (CO.out _ _ (HP6.out _ hg0d)).mono ?_
          rintro e w3 ⟨vs, rfl, h3, hg3⟩
          have hg03 := grown_trans hg0d hg3
          have hgw3 := grown_trans hg0 hg03
          have hWs := hgw3.size
          obtain ⟨va, vn, vc, rfl⟩ := h3.any
          obtain ⟨W4, HW4, hgA4, B4⟩ := alloc_named4 w3 (.cells #[.int .i64 (decC M).turn, .slice va vn vc] 43)
          have HO4 : Hid (OwnV w.heap.size 0 W4 (.slice va vn vc) (decC M).writes) := (h3.grownNone hgA4).down _ (by have := (grown_trans hg0 hg0d).size; omega)
          have hg04 := grown_trans hg03 hgA4
          clear h3 r0 r1 r2 r3 P5
          go_upto_region 10 with fail
          rw [← HW4.out]
          obtain ⟨d0, d1, _, _⟩ := pair_room (grown_refl W4 none) B4.out
          obtain ⟨r0, r1, r2, r3⟩ := pair_room hg04 B0.out
          have hb4 : W4.heap[w.heap.size]? = some (.cells #[.int .i64 0, .slice none 0 0] 43) := pair_old hg04 B0.out
          by_cases hz : decE M = 0
          · rw [if_pos hz] at HFD
            rw [hz]
            obtain ⟨z0, z1⟩ := pair_set hg04 B0.out (.int .i64 (decC M).turn) (.slice va vn vc)
            generalize decC M = C at *
            have HB4 : Hid (W4.heap[w.heap.size]? = some (.cells #[.int .i64 0, .slice none 0 0] 43)) := hb4
            have HZS : Hid ((W4.setCell ⟨w.heap.size, 0, none⟩ (.int .i64 C.turn)).heap[w.heap.size]? = some (.cells #[.int .i64 C.turn, .slice none 0 0] 43)) := set_self HB4.out
            clear hb4 hz
            go_wp2
            refine bodyPost_ret (v := .tuple #[.agg #[.int .i64 C.turn, .slice va vn vc], .int .i64 ((E : Int) + 4)]) (by simp [results, Tryd.results19, go_sem, z0, z1]) rfl ?_
            exact ⟨_, by rw [HXI.out, HFD.out]; rfl, by rw [HFD.out]; exact (HO4.out.setOther HB4.out cmtT5 cmtTW (Nat.zero_le _) _).setOther HZS.out cmtT5 cmtTW (Nat.zero_le _) _, grown_setNew (grown_setNew (grown_trans hg0 hg04) _ (Nat.le_refl _) _ _) _ (Nat.le_refl _) _ _⟩
          · rw [if_neg hz] at HFD
            obtain ⟨z0, z1⟩ := pair_set hg04 B0.out (.int .i64 0) (.slice none 0 0)
            have hz' : (decE M != 0) = true := by simpa using hz
            generalize decE M = DE at *
            generalize decC M = C at *
            clear hz
            go_wp2
            refine bodyPost_ret (v := .tuple #[.agg #[.int .i64 0, .slice none 0 0], .int .i64 (-1)]) (by simp [results, Tryd.results19, go_sem, z0, z1]) rfl ?_
            exact ⟨_, by rw [HXI.out, HFD.out]; rfl, by rw [HFD.out]; exact ownV_nil _ _ _, grown_setNew (grown_setNew (grown_trans hg0 hg04) _ (Nat.le_refl _) _ _) _ (Nat.le_refl _) _ _⟩
        · rw [decide_eq_false hq]
          rw [if_neg hq] at HFD
          obtain ⟨z0, z1⟩ := pair_set hg0d B0.out (.int .i64 0) (.slice none 0 0)
          clear hq SM p3 p5 p7'
          go_wp2
          refine bodyPost_ret (v := .tuple #[.agg #[.int .i64 0, .slice none 0 0], .int .i64 (-1)]) (by simp [results, Tryd.results19, go_sem, z0, z1]) rfl ?_
          exact ⟨_, by rw [HXI.out, HFD.out]; rfl, by rw [HFD.out]; exact ownV_nil _ _ _, grown_setNew (grown_setNew (grown_trans hg0 hg0d) _ (Nat.le_refl _) _ _) _ (Nat.le_refl _) _ _⟩
      · have E0 : Hid (X = (noCmt, none)) := HX.out.trans (frameO_none (by have := HEN.out; have := HN6.out; unfold frameD; rw [HSD.out, if_neg (by rw [drop_len]; omega), if_pos (by rw [drop_len]; omega)]))
        obtain ⟨z0, z1⟩ := pair_set hgx B0.out (.int .i64 0) (.slice none 0 0)
        by_cases f1 : E + 4 ≤ b.length
        · have j1 : ¬ (E : Int) + 4 > (b.length : Int) := by omega
          have j2 : (E : Int) - (n : Int) > 4000 := by have := HEN.out; omega
          clear hfit f1
          go_wp2
          refine bodyPost_ret (v := .tuple #[.agg #[.int .i64 0, .slice none 0 0], .int .i64 (-1)]) (by simp [results, Tryd.results19, go_sem, z0, z1]) rfl ?_
          exact ⟨_, by rw [HXI.out, E0.out]; rfl, by rw [E0.out]; exact ownV_nil _ _ _, grown_setNew (grown_setNew (grown_trans hg0 hgx) _ (Nat.le_refl _) _ _) _ (Nat.le_refl _) _ _⟩
        · have j1 : (E : Int) + 4 > (b.length : Int) := by omega
          clear hfit f1
          go_wp2
          refine bodyPost_ret (v := .tuple #[.agg #[.int .i64 0, .slice none 0 0], .int .i64 (-1)]) (by simp [results, Tryd.results19, go_sem, z0, z1]) rfl ?_
          exact ⟨_, by rw [HXI.out, E0.out]; rfl, by rw [E0.out]; exact ownV_nil _ _ _, grown_setNew (grown_setNew (grown_trans hg0 hgx) _ (Nat.le_refl _) _ _) _ (Nat.le_refl _) _ _⟩
  · have E0 : Hid (X = (noCmt, none)) := HX.out.trans (frameO_none (by unfold frameD; rw [if_pos (by omega)]))
    have i1 : (n : Int) + 6 > (b.length : Int) := by omega
    clear hv hdl hR hcap h6
    obtain ⟨r0, r1, r2, r3⟩ := pair_room (grown_refl W0 none) B0.out
    obtain ⟨z0, z1⟩ := pair_set (grown_refl W0 none) B0.out (.int .i64 0) (.slice none 0 0)
    go_enter Tryd.func19, Tryd.ntmps19
    go_upto_region 1 with fail
    rw [← HW0.out]
    go_wp2
    refine bodyPost_ret (v := .tuple #[.agg #[.int .i64 0, .slice none 0 0], .int .i64 (-1)]) (by simp [results, Tryd.results19, go_sem, z0, z1]) rfl ?_
    exact ⟨_, by rw [HXI.out, E0.out]; rfl, by rw [E0.out]; exact ownV_nil _ _ _, grown_setNew (grown_setNew hg0 _ (Nat.le_refl _) _ _) _ (Nat.le_refl _) _ _⟩
end Go.Proofs.YtkheombfjgjedabDoor

/-
  The document's answer: TapeRecovered.
-/
namespace Go.Proofs.YtkheombfjgjedabDoor
open Go.RowKit
theorem frame_size {D : List UInt8 → List UInt8} {r r2 : List UInt8} {c : Cmt} (h : frameD D r = some (c, r2)) : r2 = r.drop (sizeD r + 6) ∧ sizeD r + 6 ≤ r.length := by
  unfold frameD at h
  by_cases h1 : r.length < 6
  · rw [if_pos h1] at h; cases h
  rw [if_neg h1] at h
  by_cases h2 : r.length < sizeD r + 6 ∨ 4000 < sizeD r + 2
  · rw [if_pos h2] at h; cases h
  rw [if_neg h2] at h
  by_cases h3 : D (r.take (sizeD r + 2)) = (r.drop (sizeD r + 2)).take 4
  · rw [if_pos h3] at h
    by_cases h4 : decE ((r.drop 2).take (sizeD r)) = 0
    · rw [if_pos h4] at h
      simp only [Option.some.injEq, Prod.mk.injEq] at h
      exact ⟨h.2.symm, by omega⟩
    · rw [if_neg h4] at h; cases h
  · rw [if_neg h3] at h; cases h
theorem frameO_some {b r2 : List UInt8} {n : Nat} {c : Cmt} (h : frameD fourF (b.drop n) = some (c, r2)) (hn : n ≤ b.length) : ∃ k, frameO b n = (c, some k) ∧ r2 = b.drop k ∧ n + 6 ≤ k ∧ k ≤ b.length := by
  obtain ⟨h1, h2⟩ := frame_size h
  rw [drop_len] at h2
  refine ⟨n + sizeD (b.drop n) + 6, by unfold frameO; rw [h], ?_, by omega, by omega⟩
  rw [h1, List.drop_drop, Nat.add_assoc]
set_option maxRecDepth 100000 in
set_option maxHeartbeats 4000000 in
theorem tapeRecovered_any (w : World) (v : Value) (t : Tap) (hv : TapeIs w v t) :
    Calls Tryd.prog 7 #[v] w fun e w' => ∃ vs x, e = .returned (.tuple #[vs, x, .int .i64 (recE t)]) ∧ CommitsIs w' vs (recC fourF t) ∧ TapeIs w' x (recT fourF t) ∧ w.grownBy w' none := by
  obtain ⟨a, cap, rfl⟩ := hv.agg
  obtain ⟨U0, HU0, hgU, BU⟩ := alloc_named4 w (.cells #[.slice a t.data.length cap, .int .i64 t.synced] 24)
  obtain ⟨W0, HW0, hgA, B0⟩ := alloc_named4 U0 (.cells #[.slice none 0 0, .int .i64 0] 24)
  have HW : Hid (W0 = (w.alloc (.cells #[.slice a t.data.length cap, .int .i64 t.synced] 24)).alloc (.cells #[.slice none 0 0, .int .i64 0] 24)) := by show _ = _; rw [HW0.out, HU0.out]
  have hsz : U0.heap.size = w.heap.size + 1 := by rw [HU0.out]; simp
  rw [hsz] at B0
  clear hsz
  have hg0 := grown_trans hgU hgA
  have B1 : Hid (W0.heap[w.heap.size]? = some (.cells #[.slice a t.data.length cap, .int .i64 t.synced] 24)) := pair_old hgA BU.out
  obtain ⟨c0, c1, _, _⟩ := pair_room (grown_refl W0 none) B1.out
  have TM : Hid (Calls Tryd.prog 18 #[.agg #[.slice a t.data.length cap, .int .i64 t.synced]] W0 fun e w' => e = .returned (.bool (mayT t)) ∧ W0.grownBy w' none) := tapeMay_any W0 _ t (hv.grown hg0)
  have HD : Hid (SliceIs w (.slice a t.data.length cap) t.data) := hv.data.1
  have hcap := hv.data.1.cap.1
  by_cases hm : mayT t = true
  · obtain ⟨m1, m2, m3⟩ := (mayT_iff t).1 hm
    rw [hm] at TM
    have HRE : Hid (recE t = 0) := by show _ = _; rw [recE, if_pos hm]
    have FA : Hid (∀ w' (n : Nat), n ≤ t.data.length → w.grownBy w' none → Calls Tryd.prog 19 #[.slice a t.data.length cap, .int .i64 (n : Int)] w' fun e w'' => ∃ vs, e = .returned (.tuple #[.agg #[.int .i64 (frameO t.data n).1.turn, vs], .int .i64 (atI (frameO t.data n).2)]) ∧ OwnV w'.heap.size 0 w'' vs (frameO t.data n).1.writes ∧ w'.grownBy w'' none) := fun w' n h1 h2 => frameAt_any w' _ t.data n (HD.out.grown h2) m1 h1
    have HEND : Hid (∀ (n : Nat) (cs : List Cmt), recL fourF 1 t.data = (cs, t.data.drop n) → recC fourF t = cs ∧ (n ≤ t.data.length → recT fourF t = ⟨t.data.take n, if t.synced > (n : Int) then (n : Int) else t.synced⟩)) := fun n cs h => by
      refine ⟨by rw [recC, if_pos hm, h], fun hn => ?_⟩
      have hN : recN fourF t.data = n := by rw [recN, h]; show t.data.length - (t.data.drop n).length = n; rw [drop_len]; omega
      rw [recT, if_pos hm, hN]
    clear hv hm HU0 HW0 hgU hgA BU
    go_enter Tryd.func7, Tryd.ntmps7
    go_upto_region 1 with fail
    rw [← HW.out]
    go_wp2_with fail
    refine TM.out.mono ?_
    rintro e w1 ⟨rfl, hg1⟩
    have hgw1 := grown_trans hg0 hg1
    have HB1a : Hid (w1.heap[w.heap.size]? = some (.cells #[.slice a t.data.length cap, .int .i64 t.synced] 24)) := pair_old hg1 B1.out
    have HB0a : Hid (w1.heap[w.heap.size + 1]? = some (.cells #[.slice none 0 0, .int .i64 0] 24)) := pair_old hg1 B0.out
    clear c0 c1 B0 B1 HW TM hg0 hg1
    go_wp2_with fail
    go_loopw [5, 6, 7] (fun ov av tv wr => ∃ (m n : Nat) (cs : List Cmt), tv = .int .i64 ((m : Int) + 1) ∧ av = .int .i64 (n : Int) ∧ n ≤ t.data.length ∧ 6 * m ≤ n ∧ cs.length = m ∧ recL fourF 1 t.data = (cs ++ (recL fourF (m + 1) (t.data.drop n)).1, (recL fourF (m + 1) (t.data.drop n)).2) ∧ OwnC w.heap.size wr ov cs ∧ wr.heap[w.heap.size]? = some (.cells #[.slice a t.data.length cap, .int .i64 t.synced] 24) ∧ wr.heap[w.heap.size + 1]? = some (.cells #[.slice none 0 0, .int .i64 0] 24) ∧ w.grownBy wr none) (fun _ av _ _ => t.data.length - (intOf av).toNat)
    case atStart => exact ⟨0, 0, [], rfl, rfl, by omega, by omega, rfl, by simp, ownC_nil _ _, HB1a.out, HB0a.out, hgw1⟩
    case round =>
      obtain ⟨m, n, cs, rfl, rfl, hn, h6, hcl, hrec, hoc, hb1, hb0, hgw⟩ := hrel
      have HCL : Hid (cs.length = m) := hcl
      have HRC : Hid (recL fourF 1 t.data = (cs ++ (recL fourF (m + 1) (t.data.drop n)).1, (recL fourF (m + 1) (t.data.drop n)).2)) := hrec
      obtain ⟨oa, oc, rfl⟩ := hoc.shape
      have HOC : Hid (OwnC w.heap.size wr (.slice oa cs.length oc) cs) := hoc
      have HB1r : Hid (wr.heap[w.heap.size]? = some (.cells #[.slice a t.data.length cap, .int .i64 t.synced] 24)) := hb1
      have HB0r : Hid (wr.heap[w.heap.size + 1]? = some (.cells #[.slice none 0 0, .int .i64 0] 24)) := hb0
      have F1 := FA.out wr n hn hgw
      obtain ⟨c0, c1, _, _⟩ := pair_room (grown_refl wr none) HB1r.out
      clear HB1a HB0a hgw1 hcl hrec hoc hb1 hb0 w1
      cases hf : frameD fourF (t.data.drop n) with
      | none =>
        rw [frameO_none hf] at F1
        have HF1 : Hid (Calls Tryd.prog 19 #[.slice a t.data.length cap, .int .i64 (n : Int)] wr fun e w'' => ∃ vs, e = .returned (.tuple #[.agg #[.int .i64 0, vs], .int .i64 (-1)]) ∧ OwnV wr.heap.size 0 w'' vs [] ∧ wr.grownBy w'' none) := F1
        have HST : Hid (recL fourF 1 t.data = (cs, t.data.drop n)) := by show _ = _; rw [HRC.out, rec_stop hf, List.append_nil]
        clear F1 hf HRC
        go_wp2_with fail
        refine HF1.out.mono ?_
        rintro e w2 ⟨vs, rfl, ho2, hg2⟩
        obtain ⟨va, vn, vc, rfl⟩ := ho2.any
        obtain ⟨WE, HWE, hgA2, _⟩ := alloc_named4 w2 (.cells #[.int .i64 0, .slice va vn vc] 43)
        have hg2E := grown_trans hg2 hgA2
        have hgE := grown_trans hgw hg2E
        have HB1 : Hid (WE.heap[w.heap.size]? = some (.cells #[.slice a t.data.length cap, .int .i64 t.synced] 24)) := pair_old hg2E HB1r.out
        have HB0 : Hid (WE.heap[w.heap.size + 1]? = some (.cells #[.slice none 0 0, .int .i64 0] 24)) := pair_old hg2E HB0r.out
        have HOE : Hid (OwnC w.heap.size WE (.slice oa cs.length oc) cs) := HOC.out.grownNone hg2E
        clear ho2 c0 c1
        go_upto_region 8 with fail
        rw [← HWE.out]
        obtain ⟨c0, c1, _, _⟩ := pair_room (grown_refl WE none) HB1.out
        obtain ⟨a1, k1, q1, q2⟩ := bslice_h a cap t.data n hn hcap
        have q1w := q1 WE
        have JN : Hid (Calls Tryd.prog 20 #[.slice a1 n k1, .slice none 0 0] WE fun e w'' => ∃ v', e = .returned v' ∧ SliceIs w'' v' (t.data.take n) ∧ WE.grownBy w'' none) := by
          have h := joined_gen WE _ _ _ _ (q2 WE (HD.out.grown hgE)) (sliceIs_nil WE) (by simp; omega)
          rw [List.append_nil] at h
          refine h.mono ?_
          rintro e w'' ⟨v', rfl, h1, h2⟩
          exact ⟨v', rfl, h1.slice, h2⟩
        have hPl : (t.data.take n).length = n := by simp; omega
        have E1 : Hid (recE t = 0) := HRE.out
        have E2 : Hid (recC fourF t = cs) := (HEND.out n cs HST.out).1
        have E3 : Hid (recT fourF t = ⟨t.data.take n, if t.synced > (n : Int) then (n : Int) else t.synced⟩) := (HEND.out n cs HST.out).2 hn
        obtain ⟨P, hP⟩ : ∃ P, P = t.data.take n := ⟨_, rfl⟩
        rw [← hP] at JN E3 hPl
        clear hP q1 q2
        by_cases hsy : t.synced > (n : Int)
        · rw [if_pos hsy] at E3
          go_wp2_with fail
          refine JN.out.mono ?_
          rintro e WF ⟨x, rfl, hx, hgF⟩
          obtain ⟨xa, xc, rfl⟩ := hx.shape
          rw [hPl] at hx ⊢
          obtain ⟨s0, s1, s2, s3⟩ := pair_room hgF HB0.out
          obtain ⟨z0, z1⟩ := pair_set hgF HB0.out (.slice xa n xc) (.int .i64 (n : Int))
          have HBF : Hid (WF.heap[w.heap.size + 1]? = some (.cells #[.slice none 0 0, .int .i64 0] 24)) := pair_set2 hgF HB0.out
          have HX : Hid (SliceIs WF (.slice xa n xc) P) := hx
          have HOF : Hid (OwnC w.heap.size WF (.slice oa cs.length oc) cs) := HOE.out.grownNone hgF
          have HSF : Hid ((WF.setCell ⟨w.heap.size + 1, 0, none⟩ (.slice xa n xc)).heap[w.heap.size + 1]? = some (.cells #[.slice xa n xc, .int .i64 0] 24)) := set_self HBF.out
          clear hx hPl
          go_wp2
          refine bodyPost_ret (v := .tuple #[.slice oa cs.length oc, .agg #[.slice xa n xc, .int .i64 (n : Int)], .int .i64 0]) (by simp [results, Tryd.results7, go_sem, z0, z1]) rfl ?_
          exact ⟨_, _, by rw [E1.out], by rw [E2.out]; exact ((HOF.out.setOther HBF.out tapT5 tapTW tapTC (by omega) _).setOther HSF.out tapT5 tapTW tapTC (by omega) _).list, by rw [E3.out]; exact ⟨_, rfl, HX.out.tapeS HBF.out _ _⟩, grown_setNew (grown_setNew (grown_trans hgE hgF) _ (by omega) _ _) _ (by omega) _ _⟩
        · rw [if_neg hsy] at E3
          go_wp2_with fail
          refine JN.out.mono ?_
          rintro e WF ⟨x, rfl, hx, hgF⟩
          obtain ⟨xa, xc, rfl⟩ := hx.shape
          rw [hPl] at hx ⊢
          obtain ⟨s0, s1, s2, s3⟩ := pair_room hgF HB0.out
          obtain ⟨z0, z1⟩ := pair_set hgF HB0.out (.slice xa n xc) (.int .i64 t.synced)
          have HBF : Hid (WF.heap[w.heap.size + 1]? = some (.cells #[.slice none 0 0, .int .i64 0] 24)) := pair_set2 hgF HB0.out
          have HX : Hid (SliceIs WF (.slice xa n xc) P) := hx
          have HOF : Hid (OwnC w.heap.size WF (.slice oa cs.length oc) cs) := HOE.out.grownNone hgF
          have HSF : Hid ((WF.setCell ⟨w.heap.size + 1, 0, none⟩ (.slice xa n xc)).heap[w.heap.size + 1]? = some (.cells #[.slice xa n xc, .int .i64 0] 24)) := set_self HBF.out
          clear hx hPl
          go_wp2
          refine bodyPost_ret (v := .tuple #[.slice oa cs.length oc, .agg #[.slice xa n xc, .int .i64 t.synced], .int .i64 0]) (by simp [results, Tryd.results7, go_sem, z0, z1]) rfl ?_
          exact ⟨_, _, by rw [E1.out], by rw [E2.out]; exact ((HOF.out.setOther HBF.out tapT5 tapTW tapTC (by omega) _).setOther HSF.out tapT5 tapTW tapTC (by omega) _).list, by rw [E3.out]; exact ⟨_, rfl, HX.out.tapeS HBF.out _ _⟩, grown_setNew (grown_setNew (grown_trans hgE hgF) _ (by omega) _ _) _ (by omega) _ _⟩
      | some q =>
        obtain ⟨c, r2⟩ := q
        obtain ⟨k, hk1, hk2, hk3, hk4⟩ := frameO_some hf hn
        rw [hk1] at F1
        have HF1 : Hid (Calls Tryd.prog 19 #[.slice a t.data.length cap, .int .i64 (n : Int)] wr fun e w'' => ∃ vs, e = .returned (.tuple #[.agg #[.int .i64 c.turn, vs], .int .i64 (k : Int)]) ∧ OwnV wr.heap.size 0 w'' vs c.writes ∧ wr.grownBy w'' none) := F1
        obtain ⟨ct, cw⟩ := c
        have j1 : ¬ (k : Int) < 0 := by omega
        by_cases hct : ct = (m : Int) + 1
        · subst hct
          have HST : Hid (recL fourF 1 t.data = ((cs ++ [⟨(m : Int) + 1, cw⟩]) ++ (recL fourF (m + 1 + 1) (t.data.drop k)).1, (recL fourF (m + 1 + 1) (t.data.drop k)).2)) := by
            show _ = _
            rw [HRC.out, rec_go hf (by show (m : Int) + 1 = ((m + 1 : Nat) : Int); omega), hk2, List.append_assoc]; rfl
          clear F1 hf HRC hk1 hk2 HD
          go_wp2_with fail
          refine HF1.out.mono ?_
          rintro e w2 ⟨vs, rfl, ho2, hg2⟩
          obtain ⟨va, vn, vc, rfl⟩ := ho2.any
          obtain ⟨WE, HWE, hgA2, BE⟩ := alloc_named4 w2 (.cells #[.int .i64 ((m : Int) + 1), .slice va vn vc] 43)
          have hg2E := grown_trans hg2 hgA2
          have hgE := grown_trans hgw hg2E
          have hg3 := World.grownBy_alloc WE (.cells #[.int .i64 ((m : Int) + 1), .slice va vn vc] 43) none
          have hg23 := grown_trans hg2E hg3
          have hgw3 := grown_trans hgw hg23
          have HO3 : Hid (OwnC w.heap.size (WE.alloc (.cells #[.int .i64 ((m : Int) + 1), .slice va vn vc] 43)) (.slice oa cs.length oc) cs) := HOC.out.grownNone hg23
          have HV3 : Hid (WritesB w.heap.size (WE.alloc (.cells #[.int .i64 ((m : Int) + 1), .slice va vn vc] 43)) (.slice va vn vc) cw) := ((ho2.writesB.grown hgA2).grown hg3).mono (Nat.zero_le _)
          have HB1 : Hid ((WE.alloc (.cells #[.int .i64 ((m : Int) + 1), .slice va vn vc] 43)).heap[w.heap.size]? = some (.cells #[.slice a t.data.length cap, .int .i64 t.synced] 24)) := pair_old hg23 HB1r.out
          have HB0 : Hid ((WE.alloc (.cells #[.int .i64 ((m : Int) + 1), .slice va vn vc] 43)).heap[w.heap.size + 1]? = some (.cells #[.slice none 0 0, .int .i64 0] 24)) := pair_old hg23 HB0r.out
          have hl32 : (cs.length + 1) * 32 ≤ 140737488355328 := by rw [HCL.out]; omega
          have HBS : Hid (w.heap.size ≤ (WE.alloc (.cells #[.int .i64 ((m : Int) + 1), .slice va vn vc] 43)).heap.size) := hgw3.size
          clear ho2 c0 c1 HB1r HB0r
          go_upto_region 8 with fail
          rw [← HWE.out]
          obtain ⟨d0, d1, _, _⟩ := pair_room (grown_refl WE none) BE.out
          go_wp2_with (at_builtin; refine wpList_append_cmt rfl _ _ rfl w.heap.size (.slice oa cs.length oc) cs rfl HO3.out (.slice va vn vc) ⟨(m : Int) + 1, cw⟩ HV3.out WE.heap.size (heap_alloc_new WE _) rfl hl32 HBS.out ?_; intro v4 w4 ho4 hg4)
          have hgw4 := grown_ownC hgw3 HO3.out (Nat.le_refl _) hg4
          go_roundw
          case rel => exact ⟨m + 1, k, _, by go_num, rfl, hk4, by omega, by rw [List.length_append, HCL.out]; rfl, HST.out, ho4, HO3.out.other hg4 HB1.out tapTC, HO3.out.other hg4 HB0.out tapTC, hgw4⟩
          case measure => simp [intOf]; omega
        · have HST : Hid (recL fourF 1 t.data = (cs, t.data.drop n)) := by show _ = _; rw [HRC.out, rec_other hf (by show ct ≠ ((m + 1 : Nat) : Int); omega), List.append_nil]
          have j2 : (ct != (m : Int) + 1) = true := by simpa using hct
          clear F1 hf HRC hct hk1 hk2
          go_wp2_with fail
          refine HF1.out.mono ?_
          rintro e w2 ⟨vs, rfl, ho2, hg2⟩
          obtain ⟨va, vn, vc, rfl⟩ := ho2.any
          obtain ⟨WE, HWE, hgA2, BE⟩ := alloc_named4 w2 (.cells #[.int .i64 ct, .slice va vn vc] 43)
          have hg2E := grown_trans hg2 hgA2
          have hgE := grown_trans hgw hg2E
          have HB1 : Hid (WE.heap[w.heap.size]? = some (.cells #[.slice a t.data.length cap, .int .i64 t.synced] 24)) := pair_old hg2E HB1r.out
          have HB0 : Hid (WE.heap[w.heap.size + 1]? = some (.cells #[.slice none 0 0, .int .i64 0] 24)) := pair_old hg2E HB0r.out
          have HOE : Hid (OwnC w.heap.size WE (.slice oa cs.length oc) cs) := HOC.out.grownNone hg2E
          clear ho2 c0 c1
          go_upto_region 8 with fail
          rw [← HWE.out]
          obtain ⟨d0, d1, _, _⟩ := pair_room (grown_refl WE none) BE.out
          obtain ⟨c0, c1, _, _⟩ := pair_room (grown_refl WE none) HB1.out
          obtain ⟨a1, k1, q1, q2⟩ := bslice_h a cap t.data n hn hcap
          have q1w := q1 WE
          have JN : Hid (Calls Tryd.prog 20 #[.slice a1 n k1, .slice none 0 0] WE fun e w'' => ∃ v', e = .returned v' ∧ SliceIs w'' v' (t.data.take n) ∧ WE.grownBy w'' none) := by
            have h := joined_gen WE _ _ _ _ (q2 WE (HD.out.grown hgE)) (sliceIs_nil WE) (by simp; omega)
            rw [List.append_nil] at h
            refine h.mono ?_
            rintro e w'' ⟨v', rfl, h1, h2⟩
            exact ⟨v', rfl, h1.slice, h2⟩
          have hPl : (t.data.take n).length = n := by simp; omega
          have E1 : Hid (recE t = 0) := HRE.out
          have E2 : Hid (recC fourF t = cs) := (HEND.out n cs HST.out).1
          have E3 : Hid (recT fourF t = ⟨t.data.take n, if t.synced > (n : Int) then (n : Int) else t.synced⟩) := (HEND.out n cs HST.out).2 hn
          obtain ⟨P, hP⟩ : ∃ P, P = t.data.take n := ⟨_, rfl⟩
          rw [← hP] at JN E3 hPl
          clear hP q1 q2
          by_cases hsy : t.synced > (n : Int)
          · rw [if_pos hsy] at E3
            go_wp2_with fail
            refine JN.out.mono ?_
            rintro e WF ⟨x, rfl, hx, hgF⟩
            obtain ⟨xa, xc, rfl⟩ := hx.shape
            rw [hPl] at hx ⊢
            obtain ⟨s0, s1, s2, s3⟩ := pair_room hgF HB0.out
            obtain ⟨z0, z1⟩ := pair_set hgF HB0.out (.slice xa n xc) (.int .i64 (n : Int))
            have HBF : Hid (WF.heap[w.heap.size + 1]? = some (.cells #[.slice none 0 0, .int .i64 0] 24)) := pair_set2 hgF HB0.out
            have HX : Hid (SliceIs WF (.slice xa n xc) P) := hx
            have HOF : Hid (OwnC w.heap.size WF (.slice oa cs.length oc) cs) := HOE.out.grownNone hgF
            have HSF : Hid ((WF.setCell ⟨w.heap.size + 1, 0, none⟩ (.slice xa n xc)).heap[w.heap.size + 1]? = some (.cells #[.slice xa n xc, .int .i64 0] 24)) := set_self HBF.out
            clear hx hPl
            go_wp2
            refine bodyPost_ret (v := .tuple #[.slice oa cs.length oc, .agg #[.slice xa n xc, .int .i64 (n : Int)], .int .i64 0]) (by simp [results, Tryd.results7, go_sem, z0, z1]) rfl ?_
            exact ⟨_, _, by rw [E1.out], by rw [E2.out]; exact ((HOF.out.setOther HBF.out tapT5 tapTW tapTC (by omega) _).setOther HSF.out tapT5 tapTW tapTC (by omega) _).list, by rw [E3.out]; exact ⟨_, rfl, HX.out.tapeS HBF.out _ _⟩, grown_setNew (grown_setNew (grown_trans hgE hgF) _ (by omega) _ _) _ (by omega) _ _⟩
          · rw [if_neg hsy] at E3
            go_wp2_with fail
            refine JN.out.mono ?_
            rintro e WF ⟨x, rfl, hx, hgF⟩
            obtain ⟨xa, xc, rfl⟩ := hx.shape
            rw [hPl] at hx ⊢
            obtain ⟨s0, s1, s2, s3⟩ := pair_room hgF HB0.out
            obtain ⟨z0, z1⟩ := pair_set hgF HB0.out (.slice xa n xc) (.int .i64 t.synced)
            have HBF : Hid (WF.heap[w.heap.size + 1]? = some (.cells #[.slice none 0 0, .int .i64 0] 24)) := pair_set2 hgF HB0.out
            have HX : Hid (SliceIs WF (.slice xa n xc) P) := hx
            have HOF : Hid (OwnC w.heap.size WF (.slice oa cs.length oc) cs) := HOE.out.grownNone hgF
            have HSF : Hid ((WF.setCell ⟨w.heap.size + 1, 0, none⟩ (.slice xa n xc)).heap[w.heap.size + 1]? = some (.cells #[.slice xa n xc, .int .i64 0] 24)) := set_self HBF.out
            clear hx hPl
            go_wp2
            refine bodyPost_ret (v := .tuple #[.slice oa cs.length oc, .agg #[.slice xa n xc, .int .i64 t.synced], .int .i64 0]) (by simp [results, Tryd.results7, go_sem, z0, z1]) rfl ?_
            exact ⟨_, _, by rw [E1.out], by rw [E2.out]; exact ((HOF.out.setOther HBF.out tapT5 tapTW tapTC (by omega) _).setOther HSF.out tapT5 tapTW tapTC (by omega) _).list, by rw [E3.out]; exact ⟨_, rfl, HX.out.tapeS HBF.out _ _⟩, grown_setNew (grown_setNew (grown_trans hgE hgF) _ (by omega) _ _) _ (by omega) _ _⟩
  · have E1 : Hid (recE t = 6) := by show _ = _; rw [recE, if_neg hm]
    have E2 : Hid (recC fourF t = []) := by show _ = _; rw [recC, if_neg hm]
    have E3 : Hid (recT fourF t = noTap) := by show _ = _; rw [recT, if_neg hm]
    rw [show mayT t = false by simpa using hm] at TM
    clear hv hm
    go_enter Tryd.func7, Tryd.ntmps7
    go_upto_region 1 with fail
    rw [← HW.out]
    go_wp2_with fail
    refine TM.out.mono ?_
    rintro e w1 ⟨rfl, hg1⟩
    obtain ⟨r0, r1, r2, r3⟩ := pair_room hg1 B0.out
    obtain ⟨z0, z1⟩ := pair_set hg1 B0.out (.slice none 0 0) (.int .i64 0)
    go_wp2
    refine bodyPost_ret (v := .tuple #[.slice none 0 0, .agg #[.slice none 0 0, .int .i64 0], .int .i64 6]) (by simp [results, Tryd.results7, go_sem, z0, z1]) rfl ?_
    exact ⟨_, _, by rw [E1.out], by rw [E2.out]; exact commitsIs_nil _, by rw [E3.out]; exact tapeIs_no _, grown_setNew (grown_setNew (grown_trans hg0 hg1) _ (by omega) _ _) _ (by omega) _ _⟩
end Go.Proofs.YtkheombfjgjedabDoor
