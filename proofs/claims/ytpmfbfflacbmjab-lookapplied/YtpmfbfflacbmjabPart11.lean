/-
  Texts of this proof, joined: KWrites, KForest.
-/
import Derived.Test.YtpmfbfflacbmjabKWrite
import Derived.Test.YtpmfbfflacbmjabWrMem
import Derived.Test.YtpmfbfflacbmjabPart1
import Derived.Test.YtpmfbfflacbmjabPart7
/-
  The walks of canopykeep.Writes and canopykeep.Forest.
-/
namespace Go.Proofs.Ytpmfbfflacbmjab
open Go.RowKit
/-- Raw places fit into memory. -/
def FitsQ (l : List Plc) : Prop := l.length * 80 ≤ 140737488355328 ∧ ∀ i, i < l.length → PlcFits (l.getD i noPlc)
set_option maxRecDepth 100000 in
set_option maxHeartbeats 2000000 in
theorem kwrites_any (w : World) (v : Value) (l : List Plc) (most : Nat) (hv : PlacesIs w v l) (hl : FitsQ l) (hm : most ≤ 1000) :
    Calls Try.prog 27 #[v, .int .i64 (most : Int)] w fun e w' => ∃ v', e = .returned v' ∧ OwnW w.heap.size w' v' ((l.take most).map writeF) ∧ w.grownBy w' none := by
  obtain ⟨a, cap, rfl⟩ := hv.shape
  have hmany := hl.1
  have HF : Hid (∀ i, i < l.length → PlcFits (l.getD i noPlc)) := hl.2
  clear hl
  obtain ⟨R, hR⟩ : ∃ R, R = (l.take most).map writeF := ⟨_, rfl⟩
  rw [← hR]
  have HR : Hid (R = (l.take most).map writeF) := hR
  clear hR
  go_enter Try.func27, Try.ntmps27
  go_wp2_with fail
  go_loopw [5, 6] (fun cv i wr => ∃ m : Nat, m ≤ l.length ∧ m ≤ most ∧ i = .int .i64 (m : Int) ∧ OwnW w.heap.size wr cv ((l.take m).map writeF) ∧ w.grownBy wr none) (fun _ i _ => l.length - (intOf i).toNat)
  case atStart => exact ⟨0, by omega, by omega, rfl, ownW_nil _ _, grown_refl _ _⟩
  case round =>
    obtain ⟨m, hm1, hm2, rfl, hown, hg⟩ := hrel
    obtain ⟨ca, ccap, rfl⟩ := hown.shape
    by_cases hlt : m < l.length
    · by_cases hlm : m < most
      · obtain ⟨b, o, rfl, hat⟩ := hv.at m hlt
        obtain ⟨vn, vk, vv, c1, c2, c3, c4, s1, s2, s3⟩ := hat.grown hg
        have HT : Hid ((l.take (m + 1)).map writeF = (l.take m).map writeF ++ [writeF (l.getD m noPlc)]) := by
          show _ = _
          rw [List.take_succ_eq_append_getElem hlt, List.map_append, show l[m] = l.getD m noPlc by simp [hlt]]; rfl
        have hTl : ((l.take m).map writeF).length = m := by simp; omega
        have hpf := HF.out m hlt
        generalize l.getD m noPlc = P at *
        generalize (l.take m).map writeF = T at *
        have CP : Hid (Calls Try.prog 11 #[.agg #[vn, vk, vv, .bool P.gone]] wr fun e w' => ∃ xn xk xv, e = .returned (.agg #[xn, xk, .bool P.gone, xv]) ∧ Own wr.heap.size w' xn (writeF P).name ∧ Own wr.heap.size w' xk (writeF P).key ∧ Own wr.heap.size w' xv (writeF P).value ∧ wr.grownBy w' none) := write_any wr _ P ⟨vn, vk, vv, rfl, s1, s2, s3⟩ hpf
        obtain ⟨a1, k1, rfl⟩ := s1.shape
        obtain ⟨a2, k2, rfl⟩ := s2.shape
        obtain ⟨a3, k3, rfl⟩ := s3.shape
        rw [hTl] at hown ⊢
        have HOW : Hid (OwnW w.heap.size wr (.slice ca m ccap) T) := hown
        have i1 : (m : Int) < (l.length : Int) := by omega
        have i2 : (m : Int) < (most : Int) := by omega
        have HG : Hid ((writeF P).gone = P.gone) := rfl
        generalize hQ : writeF P = Q at *
        clear hat s1 s2 s3 hpf hown hQ
        go_wp2_with fail
        refine CP.out.mono ?_
        rintro e w1 ⟨xn, xk, xv, rfl, h1, h2, h3, hg1⟩
        obtain ⟨na, nc, rfl⟩ := h1.shape
        obtain ⟨ka, kc, rfl⟩ := h2.shape
        obtain ⟨va, vc, rfl⟩ := h3.shape
        rw [← HG.out]
        have hgw1 := grown_trans hg hg1
        have hsz := hgw1.size
        obtain ⟨W2, hW2⟩ : ∃ W2 : World, W2 = w1.alloc (.cells #[.slice na Q.name.length nc, .slice ka Q.key.length kc, .bool Q.gone, .slice va Q.value.length vc] 35) := ⟨_, rfl⟩
        have HW2 : Hid (W2 = w1.alloc (.cells #[.slice na Q.name.length nc, .slice ka Q.key.length kc, .bool Q.gone, .slice va Q.value.length vc] 35)) := hW2
        have hga : w1.grownBy W2 none := by rw [hW2]; exact World.grownBy_alloc _ _ _
        obtain ⟨⟨y0, y1, y2, y3⟩, _⟩ := quad_room (grown_refl W2 none) (by rw [hW2]; exact heap_alloc_new w1 _ : W2.heap[w1.heap.size]? = some (.cells #[.slice na Q.name.length nc, .slice ka Q.key.length kc, .bool Q.gone, .slice va Q.value.length vc] 35))
        have hsz2 := hga.size
        have hg3 := World.grownBy_alloc W2 (.cells #[.slice na Q.name.length nc, .slice ka Q.key.length kc, .bool Q.gone, .slice va Q.value.length vc] 35) none
        have hg13 := grown_trans hga hg3
        have HO : Hid (OwnW w.heap.size (W2.alloc (.cells #[.slice na Q.name.length nc, .slice ka Q.key.length kc, .bool Q.gone, .slice va Q.value.length vc] 35)) (.slice ca m ccap) T) := (HOW.out.grownNone hg1).grownNone hg13
        have H1 : Hid (PartIs w.heap.size (W2.alloc (.cells #[.slice na Q.name.length nc, .slice ka Q.key.length kc, .bool Q.gone, .slice va Q.value.length vc] 35)) (.slice na Q.name.length nc) Q.name) := (h1.grownNone hg13).part
        have H2 : Hid (PartIs w.heap.size (W2.alloc (.cells #[.slice na Q.name.length nc, .slice ka Q.key.length kc, .bool Q.gone, .slice va Q.value.length vc] 35)) (.slice ka Q.key.length kc) Q.key) := (h2.grownNone hg13).part
        have H3 : Hid (PartIs w.heap.size (W2.alloc (.cells #[.slice na Q.name.length nc, .slice ka Q.key.length kc, .bool Q.gone, .slice va Q.value.length vc] 35)) (.slice va Q.value.length vc) Q.value) := (h3.grownNone hg13).part
        have hgw3 := grown_trans hgw1 hg13
        have hl80 : (T.length + 1) * 80 ≤ 140737488355328 := by omega
        have HBS : Hid (w.heap.size ≤ (W2.alloc (.cells #[.slice na Q.name.length nc, .slice ka Q.key.length kc, .bool Q.gone, .slice va Q.value.length vc] 35)).heap.size) := hgw3.size
        clear h1 h2 h3 hW2 c1 c2 c3 c4 CP
        go_upto_region 6 with fail
        rw [← HW2.out]
        go_wp2_with (at_builtin; refine wpList_append_wr rfl _ _ rfl w.heap.size (.slice ca m ccap) T rfl HO.out (.slice na Q.name.length nc) (.slice ka Q.key.length kc) (.slice va Q.value.length vc) Q H1.out H2.out H3.out W2.heap.size (heap_alloc_new W2 _) rfl hl80 HBS.out ?_; intro v4 w4 ho4 hg4)
        have hgw := grown_ownW hgw3 HO.out (Nat.le_refl _) hg4
        go_roundw
        case rel => exact ⟨m + 1, by omega, by omega, by go_num, by rw [HT.out]; exact ho4, hgw⟩
        case measure => simp [intOf]; omega
      · have hTl : ((l.take m).map writeF).length = m := by simp; omega
        have i1 : (m : Int) < (l.length : Int) := by omega
        have i2 : ¬ (m : Int) < (most : Int) := by omega
        have HQ : Hid (OwnW w.heap.size wr (.slice ca m ccap) R) := by
          rw [hTl] at hown
          rw [HR.out, show most = m by omega]; exact hown
        rw [hTl]
        clear hown hTl
        go_wp2
        go_ret
        exact ⟨_, rfl, HQ.out, hg⟩
    · have hTl : ((l.take m).map writeF).length = m := by simp; omega
      have i1 : ¬ (m : Int) < (l.length : Int) := by omega
      have HQ : Hid (OwnW w.heap.size wr (.slice ca m ccap) R) := by
        rw [hTl] at hown
        have e : l.take most = l.take m := by
          obtain rfl : m = l.length := by omega
          rw [List.take_of_length_le hm2, List.take_length]
        rw [HR.out, e]; exact hown
      rw [hTl]
      clear hown hTl
      go_wp2
      go_ret
      exact ⟨_, rfl, HQ.out, hg⟩
/-- A piece of one write. -/
theorem sizeWrS (w : World) : (sizeOf (Try.prog.elem 29)).run Try.prog w = .ok 4 w := by kernel_rfl
theorem wslice_one (a : Option Addr) (cap : Nat) (l : List Plc) (m : Nat) (hm : m < l.length) (hc : l.length ≤ cap) : ∃ a1 c1, (∀ W, (Instr.slice 29 (.slice a l.length cap) (some (.int .i64 (m : Int))) (some (.int .i64 ((m : Int) + 1))) none).run Try.prog W = .ok (.slice a1 1 c1) W) ∧ ∀ W, WritesIs W (.slice a l.length cap) l → WritesIs W (.slice a1 1 c1) [l.getD m noPlc] := by
  have hne : ¬ (cap = m) := by omega
  refine ⟨a.map (fun x : Addr => x.add (m * 4)), cap - m, fun W => ?_, fun W h => ?_⟩
  · rw [run_slice_lh _ _ _ _ _ (by kernel_rfl) _ _ _ _ (by omega) (by omega) (by omega), sizeWrS]
    simp only [Result.andThen, Go.sliced, Int.toNat_natCast]
    rw [if_neg hne, show ((m : Int) + 1).toNat - m = 1 by omega]
  · obtain ⟨b, o, rfl, hat⟩ := h.at m hm
    refine ⟨_, cap - m, rfl, by simp; omega, .inr ⟨b, o + m * 4, by simp [addr_add], fun i hi => ?_⟩⟩
    obtain rfl : i = 0 := by simpa using hi
    simpa using hat
end Go.Proofs.Ytpmfbfflacbmjab

/-
  The walk of canopykeep.Forest.
-/
namespace Go.Proofs.Ytpmfbfflacbmjab
open Go.RowKit
theorem WritesIs.cap {w : World} {a : Option Addr} {n cap : Nat} {l : List Plc} (h : WritesIs w (.slice a n cap) l) : l.length ≤ cap := by
  obtain ⟨a', cap', e, hc, _⟩ := h
  simp only [Value.slice.injEq] at e
  obtain ⟨_, _, rfl⟩ := e
  exact hc
theorem writeE_fits {p : Plc} (h : writeE p = 0) : PlcFits p := by
  obtain ⟨h1, h2, h3⟩ := (writeE_iff p).1 h
  refine ⟨by omega, by omega, ?_⟩
  by_cases hg : p.gone = true
  · rw [if_pos hg] at h3; rw [h3]; simp
  · rw [if_neg hg] at h3; omega
theorem fitsW_small {l : List Plc} (hl : l.length ≤ 1000) (h : ∀ w ∈ l, writeE w = 0) : FitsW l :=
  ⟨by omega, fun i hi => writeE_fits (by
    have := h l[i] (List.getElem_mem hi)
    rwa [show l[i] = l.getD i noPlc by simp [hi]] at this)⟩
/-- Apply of one write that may be. -/
theorem applied_one {f : FL} (h : Forest f) {p : Plc} (hp : writeE p = 0) : appliedE f [p] = writtenE f p ∧ (writtenE f p = 0 → appliedF f [p] = writtenL f p) ∧ (writtenE f p ≠ 0 → appliedF f [p] = []) := by
  have h1 := apply_one (l := f) hp
  have h2 := applied_ok h [p] (by simp)
  rw [h1.1] at h2
  refine ⟨h2, fun h0 => ?_, fun h0 => ?_⟩
  · rw [appliedF, h2, if_pos h0, h1.2]
  · rw [appliedF, h2, if_neg h0]
set_option maxRecDepth 100000 in
set_option maxHeartbeats 2000000 in
theorem kforest_any (hA : FApplyOK) (w : World) (v : Value) (l : List Plc) (most : Nat) (hv : PlacesIs w v l) (hl : FitsQ l) (hm : most ≤ 50) :
    Calls Try.prog 9 #[v, .int .i64 (most : Int)] w fun e w' => ∃ v', e = .returned v' ∧ TensIs w' v' (mkP l most) ∧ w.grownBy w' none := by
  have KW : Hid (Calls Try.prog 27 #[v, .int .i64 (most : Int)] w fun e w' => ∃ v', e = .returned v' ∧ OwnW w.heap.size w' v' ((l.take most).map writeF) ∧ w.grownBy w' none) := kwrites_any w v l most hv hl (by omega)
  obtain ⟨a, cap, rfl⟩ := hv.shape
  have hlen : ((l.take most).map writeF).length ≤ 50 := by simp; omega
  have hmk : mkP l most = mkF ((l.take most).map writeF) := rfl
  rw [hmk]
  have hok : ∀ x ∈ (l.take most).map writeF, writeE x = 0 := fun x hx => by
    obtain ⟨p, _, rfl⟩ := List.mem_map.1 hx
    exact writeF_ok p
  have HOK : Hid (∀ x ∈ (l.take most).map writeF, writeE x = 0) := hok
  generalize (l.take most).map writeF = ws at *
  have HA : Hid FApplyOK := hA
  obtain ⟨R, hR⟩ : ∃ R, R = mkF ws := ⟨_, rfl⟩
  rw [← hR]
  have HR : Hid (R = mkF ws) := hR
  clear hv hl hmk hok hA hR
  go_enter Try.func9, Try.ntmps9
  go_wp2_with fail
  refine KW.out.mono ?_
  rintro e w1 ⟨u, rfl, ho1, hg1⟩
  have HO1 : Hid (WritesIs w1 u ws) := ho1.list
  obtain ⟨ua, uc, rfl⟩ := ho1.shape
  have hcp := HO1.out.cap
  clear ho1
  go_wp2_with fail
  go_loopw [5, 7] (fun cv i wr => ∃ m : Nat, m ≤ ws.length ∧ i = .int .i64 (m : Int) ∧ TensIs wr cv (mkF (ws.take m)) ∧ w1.grownBy wr none) (fun _ i _ => ws.length - (intOf i).toNat)
  case atStart => exact ⟨0, by omega, rfl, tensIs_nil _, grown_refl _ _⟩
  case round =>
    obtain ⟨m, hm', rfl, hf, hg⟩ := hrel
    obtain ⟨fa, fc, rfl⟩ := hf.shape
    by_cases hlt : m < ws.length
    · have i1 : (m : Int) < (ws.length : Int) := by omega
      have hmk := mkF_take ws m hlt
      have hF := (mkF_ok (ws.take m) (fun x hx => HOK.out x (List.mem_of_mem_take hx))).1
      have hp : writeE (ws.getD m noPlc) = 0 := by
        have := HOK.out ws[m] (List.getElem_mem hlt)
        rwa [show ws[m] = ws.getD m noPlc by simp [hlt]] at this
      obtain ⟨a1, c1, k1, q1⟩ := wslice_one ua uc ws m hlt hcp
      obtain ⟨e1, e2, _⟩ := applied_one hF hp
      have AP : Hid (Calls Try.prog 15 #[.slice fa (mkF (ws.take m)).length fc, .slice a1 1 c1] wr fun e w' => ∃ x, e = .returned (.tuple #[x, .int .i64 (appliedE (mkF (ws.take m)) [ws.getD m noPlc])]) ∧ TensIs w' x (appliedF (mkF (ws.take m)) [ws.getD m noPlc]) ∧ wr.grownBy w' none) := HA.out wr _ _ _ _ hf (q1 wr (HO1.out.grown hg)) hF.fits (fitsW_small (by simp) (fun x hx => by simp at hx; rw [hx]; exact hp))
      rw [e1] at AP
      have HMK : Hid (mkF (ws.take (m + 1)) = if writtenE (mkF (ws.take m)) (ws.getD m noPlc) = 0 then writtenL (mkF (ws.take m)) (ws.getD m noPlc) else mkF (ws.take m)) := hmk
      have HE2 : Hid (writtenE (mkF (ws.take m)) (ws.getD m noPlc) = 0 → appliedF (mkF (ws.take m)) [ws.getD m noPlc] = writtenL (mkF (ws.take m)) (ws.getD m noPlc)) := e2
      have HF0 : Hid (TensIs wr (.slice fa (mkF (ws.take m)).length fc) (mkF (ws.take m))) := hf
      generalize appliedF (mkF (ws.take m)) [ws.getD m noPlc] = Y at *
      generalize writtenL (mkF (ws.take m)) (ws.getD m noPlc) = Y2 at *
      generalize writtenE (mkF (ws.take m)) (ws.getD m noPlc) = z at *
      generalize mkF (ws.take m) = X at *
      have hw1 : IntKind.i64.wrap ((m : Int) + 1) = (m : Int) + 1 := by rw [IntKind.wrap_i64]; omega
      clear hmk hF hp q1 e1 e2 hf
      go_wp2_with fail
      refine AP.out.mono ?_
      rintro e w2 ⟨x, rfl, hx, hg2⟩
      have HX : Hid (TensIs w2 x Y) := hx
      obtain ⟨xa, xc, rfl⟩ := hx.shape
      have hgw := grown_trans hg hg2
      by_cases hz : z = 0
      · have HN : Hid (TensIs w2 (.slice xa Y.length xc) (mkF (ws.take (m + 1)))) := by
          rw [HMK.out, if_pos hz, ← HE2.out hz]; exact HX.out
        subst hz
        clear hx AP HMK HE2 k1
        go_wp2_with fail
        go_roundw
        case rel => exact ⟨m + 1, by omega, by go_num, HN.out, hgw⟩
        case measure => simp [intOf]; omega
      · have HN : Hid (TensIs w2 (.slice fa X.length fc) (mkF (ws.take (m + 1)))) := by
          rw [HMK.out, if_neg hz]; exact HF0.out.grown hg2
        have hz' : (z == 0) = false := by simpa using hz
        clear hx AP HMK HE2 k1 hz
        go_wp2_with fail
        go_roundw
        case rel => exact ⟨m + 1, by omega, by go_num, HN.out, hgw⟩
        case measure => simp [intOf]; omega
    · have e : ws.take m = ws := List.take_of_length_le (by omega)
      have i1 : ¬ (m : Int) < (ws.length : Int) := by omega
      have HQ : Hid (TensIs wr (.slice fa (mkF (ws.take m)).length fc) R) := by
        rw [HR.out]
        rw [e] at hf ⊢
        exact hf
      generalize (mkF (ws.take m)).length = n at *
      clear hf e
      go_wp2
      go_ret
      exact ⟨_, rfl, HQ.out, grown_trans hg1 hg⟩
end Go.Proofs.Ytpmfbfflacbmjab
