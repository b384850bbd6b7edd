/-
  The walk of canopykeep.Forest.
-/
import Derived.Test.YtkkcjnhfbblgiacKWrites
import Derived.Test.YtkkcjnhfbblgiacPart3
import Derived.Test.YtkkcjnhfbblgiacPart1
namespace Go.Proofs.Ytkkcjnhfbblgiac
open Go.RowKit
theorem WritesIs.cap {w : World} {a : Option Addr} {n cap : Nat} {l : List Plc} (h : WritesIs w (.slice a n cap) l) : l.length ≤ cap := by
  obtain ⟨a', cap', e, hc, _⟩ := h
  simp only [Value.slice.injEq] at e
  obtain ⟨_, _, rfl⟩ := e
  exact hc
theorem writeE_fits {p : Plc} (h : writeE p = 0) : PlcFits p := by
  obtain ⟨h1, h2, h3⟩ := (writeE_iff p).1 h
  refine ⟨by omega, by omega, ?_⟩
  by_cases hg : p.gone = true
  · rw [if_pos hg] at h3; rw [h3]; simp
  · rw [if_neg hg] at h3; omega
theorem fitsW_small {l : List Plc} (hl : l.length ≤ 1000) (h : ∀ w ∈ l, writeE w = 0) : FitsW l :=
  ⟨by omega, fun i hi => writeE_fits (by
    have := h l[i] (List.getElem_mem hi)
    rwa [show l[i] = l.getD i noPlc by simp [hi]] at this)⟩
/-- Apply of one write that may be. -/
theorem applied_one {f : FL} (h : Forest f) {p : Plc} (hp : writeE p = 0) : appliedE f [p] = writtenE f p ∧ (writtenE f p = 0 → appliedF f [p] = writtenL f p) ∧ (writtenE f p ≠ 0 → appliedF f [p] = []) := by
  have h1 := apply_one (l := f) hp
  have h2 := applied_ok h [p] (by simp)
  rw [h1.1] at h2
  refine ⟨h2, fun h0 => ?_, fun h0 => ?_⟩
  · rw [appliedF, h2, if_pos h0, h1.2]
  · rw [appliedF, h2, if_neg h0]
set_option maxRecDepth 100000 in
set_option maxHeartbeats 2000000 in
theorem kforest_any (hA : FApplyOK) (w : World) (v : Value) (l : List Plc) (most : Nat) (hv : PlacesIs w v l) (hl : FitsQ l) (hm : most ≤ 50) :
    Calls Try.prog 6 #[v, .int .i64 (most : Int)] w fun e w' => ∃ v', e = .returned v' ∧ TensIs w' v' (mkP l most) ∧ w.grownBy w' none := by
  have KW : Hid (Calls Try.prog 16 #[v, .int .i64 (most : Int)] w fun e w' => ∃ v', e = .returned v' ∧ OwnW w.heap.size w' v' ((l.take most).map writeF) ∧ w.grownBy w' none) := kwrites_any w v l most hv hl (by omega)
  obtain ⟨a, cap, rfl⟩ := hv.shape
  have hlen : ((l.take most).map writeF).length ≤ 50 := by simp; omega
  have hmk : mkP l most = mkF ((l.take most).map writeF) := rfl
  rw [hmk]
  have hok : ∀ x ∈ (l.take most).map writeF, writeE x = 0 := fun x hx => by
    obtain ⟨p, _, rfl⟩ := List.mem_map.1 hx
    exact writeF_ok p
  have HOK : Hid (∀ x ∈ (l.take most).map writeF, writeE x = 0) := hok
  generalize (l.take most).map writeF = ws at *
  have HA : Hid FApplyOK := hA
  obtain ⟨R, hR⟩ : ∃ R, R = mkF ws := ⟨_, rfl⟩
  rw [← hR]
  have HR : Hid (R = mkF ws) := hR
  clear hv hl hmk hok hA hR
  go_enter Try.func6, Try.ntmps6
  go_wp2_with fail
  refine KW.out.mono ?_
  rintro e w1 ⟨u, rfl, ho1, hg1⟩
  have HO1 : Hid (WritesIs w1 u ws) := ho1.list
  obtain ⟨ua, uc, rfl⟩ := ho1.shape
  have hcp := HO1.out.cap
  clear ho1
  go_wp2_with fail
  go_loopw [5, 7] (fun cv i wr => ∃ m : Nat, m ≤ ws.length ∧ i = .int .i64 (m : Int) ∧ TensIs wr cv (mkF (ws.take m)) ∧ w1.grownBy wr none) (fun _ i _ => ws.length - (intOf i).toNat)
  case atStart => exact ⟨0, by omega, rfl, tensIs_nil _, grown_refl _ _⟩
  case round =>
    obtain ⟨m, hm', rfl, hf, hg⟩ := hrel
    obtain ⟨fa, fc, rfl⟩ := hf.shape
    by_cases hlt : m < ws.length
    · have i1 : (m : Int) < (ws.length : Int) := by omega
      have hmk := mkF_take ws m hlt
      have hF := (mkF_ok (ws.take m) (fun x hx => HOK.out x (List.mem_of_mem_take hx))).1
      have hp : writeE (ws.getD m noPlc) = 0 := by
        have := HOK.out ws[m] (List.getElem_mem hlt)
        rwa [show ws[m] = ws.getD m noPlc by simp [hlt]] at this
      obtain ⟨a1, c1, k1, q1⟩ := wslice_one ua uc ws m hlt hcp
      obtain ⟨e1, e2, _⟩ := applied_one hF hp
      have AP : Hid (Calls Try.prog 13 #[.slice fa (mkF (ws.take m)).length fc, .slice a1 1 c1] wr fun e w' => ∃ x, e = .returned (.tuple #[x, .int .i64 (appliedE (mkF (ws.take m)) [ws.getD m noPlc])]) ∧ TensIs w' x (appliedF (mkF (ws.take m)) [ws.getD m noPlc]) ∧ wr.grownBy w' none) := HA.out wr _ _ _ _ hf (q1 wr (HO1.out.grown hg)) hF.fits (fitsW_small (by simp) (fun x hx => by simp at hx; rw [hx]; exact hp))
      rw [e1] at AP
      have HMK : Hid (mkF (ws.take (m + 1)) = if writtenE (mkF (ws.take m)) (ws.getD m noPlc) = 0 then writtenL (mkF (ws.take m)) (ws.getD m noPlc) else mkF (ws.take m)) := hmk
      have HE2 : Hid (writtenE (mkF (ws.take m)) (ws.getD m noPlc) = 0 → appliedF (mkF (ws.take m)) [ws.getD m noPlc] = writtenL (mkF (ws.take m)) (ws.getD m noPlc)) := e2
      have HF0 : Hid (TensIs wr (.slice fa (mkF (ws.take m)).length fc) (mkF (ws.take m))) := hf
      generalize appliedF (mkF (ws.take m)) [ws.getD m noPlc] = Y at *
      generalize writtenL (mkF (ws.take m)) (ws.getD m noPlc) = Y2 at *
      generalize writtenE (mkF (ws.take m)) (ws.getD m noPlc) = z at *
      generalize mkF (ws.take m) = X at *
      have hw1 : IntKind.i64.wrap ((m : Int) + 1) = (m : Int) + 1 := by rw [IntKind.wrap_i64]; omega
      clear hmk hF hp q1 e1 e2 hf
      go_wp2_with fail
      refine AP.out.mono ?_
      rintro e w2 ⟨x, rfl, hx, hg2⟩
      have HX : Hid (TensIs w2 x Y) := hx
      obtain ⟨xa, xc, rfl⟩ := hx.shape
      have hgw := grown_trans hg hg2
      by_cases hz : z = 0
      · have HN : Hid (TensIs w2 (.slice xa Y.length xc) (mkF (ws.take (m + 1)))) := by
          rw [HMK.out, if_pos hz, ← HE2.out hz]; exact HX.out
        subst hz
        clear hx AP HMK HE2 k1
        go_wp2_with fail
        go_roundw
        case rel => exact ⟨m + 1, by omega, by go_num, HN.out, hgw⟩
        case measure => simp [intOf]; omega
      · have HN : Hid (TensIs w2 (.slice fa X.length fc) (mkF (ws.take (m + 1)))) := by
          rw [HMK.out, if_neg hz]; exact HF0.out.grown hg2
        have hz' : (z == 0) = false := by simpa using hz
        clear hx AP HMK HE2 k1 hz
        go_wp2_with fail
        go_roundw
        case rel => exact ⟨m + 1, by omega, by go_num, HN.out, hgw⟩
        case measure => simp [intOf]; omega
    · have e : ws.take m = ws := List.take_of_length_le (by omega)
      have i1 : ¬ (m : Int) < (ws.length : Int) := by omega
      have HQ : Hid (TensIs wr (.slice fa (mkF (ws.take m)).length fc) R) := by
        rw [HR.out]
        rw [e] at hf ⊢
        exact hf
      generalize (mkF (ws.take m)).length = n at *
      clear hf e
      go_wp2
      go_ret
      exact ⟨_, rfl, HQ.out, grown_trans hg1 hg⟩
end Go.Proofs.Ytkkcjnhfbblgiac
