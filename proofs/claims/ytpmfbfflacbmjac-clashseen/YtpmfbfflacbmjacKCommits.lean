/-
  The walk of canopykeep.Commits.
-/
import Derived.Test.YtpmfbfflacbmjacKWrites
import Derived.Test.YtpmfbfflacbmjacPart10
import Derived.Test.YtpmfbfflacbmjacPart5
namespace Go.Proofs.Ytpmfbfflacbmjac
open Go.RowKit
theorem cmtTT : (55 : Nat) ≠ 113 := by decide
theorem cmtTP : (55 : Nat) ≠ 80 := by decide
/-- Tenants stay where a list of commits grows. -/
theorem OwnT.keptC {base b2 : Nat} {w w' : World} {v u : Value} {l : FL} {cs : List Cmt} (h : OwnT base w v l) (ho : OwnC b2 w u cs) (hg : w.grownBy w' u.ownBlock) : OwnT base w' v l := by
  obtain ⟨vs, h1, h2, h3⟩ := h
  obtain ⟨us, _, hr, _⟩ := ho
  have hrow : u.ownBlock = none ∨ ∃ g cur t fz, u.ownBlock = some g ∧ 0 ≤ g ∧ w.heap[g]? = some (.cells cur t fz) ∧ t ≠ 5 ∧ t ≠ 80 := by
    rcases hr.2 with ⟨rfl, _⟩ | ⟨g, cap, cur, rfl, hb, hg, _⟩
    · exact .inl rfl
    · exact .inr ⟨g, cur, _, _, rfl, Nat.zero_le _, hg, cmtT5, cmtTP⟩
  refine ⟨vs, h1, World.ownsRow.kept h2 hg ?_, fun i hi => ⟨((h3 i hi).1).keptT hg (row5 hrow), ((h3 i hi).2).kept hg hrow⟩⟩
  rcases h2.2 with ⟨rfl, _⟩ | ⟨g, cap, cur, rfl, hb, hgc, _⟩
  · exact .inl rfl
  · refine .inr fun e => ?_
    rcases hr.2 with ⟨rfl, _⟩ | ⟨g', cap', cur', rfl, hb', hgc', _⟩
    · cases e
    · simp only [Value.ownBlock, Option.some.injEq] at e
      subst e
      rw [hgc] at hgc'
      simp only [Option.some.injEq, Obj.cells.injEq] at hgc'
      exact cmtTT hgc'.2.1.symm
/-- A piece of writes: ws[i:j], and ws[i:j:j]. -/
theorem sizeWrC (w : World) : (sizeOf (Try.prog.elem 26)).run Try.prog w = .ok 4 w := by kernel_rfl
theorem WritesIs.capC {w : World} {a : Option Addr} {n cap : Nat} {l : List Plc} (h : WritesIs w (.slice a n cap) l) : l.length ≤ cap := by
  obtain ⟨a', cap', e, hc, _⟩ := h
  simp only [Value.slice.injEq] at e
  omega
theorem WritesIs.sliced {w : World} {a : Option Addr} {cap : Nat} {l : List Plc} (h : WritesIs w (.slice a l.length cap) l) (i j : Nat) (hij : i < j) (hj : j ≤ l.length) (c2 : Nat) (hc2 : j - i ≤ c2) : WritesIs w (.slice (a.map (·.add (i * 4))) (j - i) c2) ((l.drop i).take (j - i)) := by
  obtain ⟨b, o, rfl, _⟩ := h.at i (by omega)
  have hlen : ((l.drop i).take (j - i)).length = j - i := by simp; omega
  refine ⟨_, c2, by rw [hlen], by rw [hlen]; exact hc2, .inr ⟨b, o + i * 4, by simp [addr_add], fun k hk => ?_⟩⟩
  rw [hlen] at hk
  obtain ⟨b', o', e, hat⟩ := h.at (i + k) (by omega)
  simp only [Option.some.injEq, Addr.mk.injEq] at e
  obtain ⟨rfl, rfl, _⟩ := e
  rw [show ((l.drop i).take (j - i)).getD k noPlc = l.getD (i + k) noPlc by simp [List.getD_eq_getElem?_getD, hk]]
  rw [show o + i * 4 + k * 4 = o + (i + k) * 4 by omega]
  exact hat
theorem wslice_lh (a : Option Addr) (cap : Nat) (l : List Plc) (i j : Nat) (hij : i < j) (hj : j ≤ l.length) (hc : l.length ≤ cap) : ∃ a1 c1, (∀ W, (Instr.slice 26 (.slice a l.length cap) (some (.int .i64 (i : Int))) (some (.int .i64 (j : Int))) none).run Try.prog W = .ok (.slice a1 (j - i) c1) W) ∧ ∀ W, WritesIs W (.slice a l.length cap) l → WritesIs W (.slice a1 (j - i) c1) ((l.drop i).take (j - i)) := by
  have hne : ¬ (cap = i) := by omega
  refine ⟨a.map (fun x : Addr => x.add (i * 4)), cap - i, fun W => ?_, fun W h => h.sliced i j hij hj _ (by omega)⟩
  rw [run_slice_lh _ _ _ _ _ (by kernel_rfl) _ _ _ _ (by omega) (by omega) (by omega), sizeWrC]
  simp only [Result.andThen, Go.sliced, Int.toNat_natCast]
  rw [if_neg hne]
theorem wslice_lhm (a : Option Addr) (cap : Nat) (l : List Plc) (i j : Nat) (hij : i < j) (hj : j ≤ l.length) (hc : l.length ≤ cap) : ∃ a1, (∀ W, (Instr.slice 26 (.slice a l.length cap) (some (.int .i64 (i : Int))) (some (.int .i64 (j : Int))) (some (.int .i64 (j : Int)))).run Try.prog W = .ok (.slice a1 (j - i) (j - i)) W) ∧ ∀ W, WritesIs W (.slice a l.length cap) l → WritesIs W (.slice a1 (j - i) (j - i)) ((l.drop i).take (j - i)) := by
  have hne : ¬ (j = i) := by omega
  refine ⟨a.map (fun x : Addr => x.add (i * 4)), fun W => ?_, fun W h => h.sliced i j hij hj _ (Nat.le_refl _)⟩
  rw [run_slice_any _ _ _ _ _ (by kernel_rfl)]
  simp only [Instr.sliceBounds, Sem.run_bind, Sem.run_pure, Result.andThen]
  have hb : ∀ (k y : Nat) (code : BoundsCode), k ≤ y → (Instr.sliceBound (.int .i64 (k : Int)) y code).run Try.prog W = .ok k W := fun k y code hy => by
    rw [run_sliceBound _ _ _ _ _ (by omega) (by omega)]; simp
  simp [hb, sizeWrC, Go.sliced, show j ≤ cap by omega, show i ≤ j by omega, hne]
set_option maxRecDepth 100000 in
set_option maxHeartbeats 2000000 in
theorem kcommits_own (hA : FApplyNewOK) (w : World) (v : Value) (l : List Plc) (most : Nat) (hv : PlacesIs w v l) (hl : FitsQ l) (hm : most ≤ 50) :
    Calls Try.prog 6 #[v, .int .i64 (most : Int)] w fun e w' => ∃ v', e = .returned v' ∧ ∃ cs, (∃ base, w.heap.size ≤ base ∧ OwnC base w' v' cs) ∧ (∃ f, CmtsOf ((l.take most).map writeF) ((l.take most).map writeF).length cs f) ∧ w.grownBy w' none := by
  obtain ⟨a, cap, rfl⟩ := hv.shape
  have KW : Hid (Calls Try.prog 20 #[.slice a l.length cap, .int .i64 (most : Int)] w fun e w' => ∃ v', e = .returned v' ∧ OwnW w.heap.size w' v' ((l.take most).map writeF) ∧ w.grownBy w' none) := kwrites_any w _ l most hv hl (by omega)
  have hok : ∀ x ∈ (l.take most).map writeF, writeE x = 0 := fun x hx => by
    obtain ⟨p, _, rfl⟩ := List.mem_map.1 hx
    exact writeF_ok p
  have hlen : ((l.take most).map writeF).length ≤ 50 := by simp; omega
  have HOK : Hid (∀ x ∈ (l.take most).map writeF, writeE x = 0) := hok
  generalize (l.take most).map writeF = ws at *
  have HA : Hid FApplyNewOK := hA
  clear hv hl hok hA
  go_enter Try.func6, Try.ntmps6
  go_wp2_with fail
  refine KW.out.mono ?_
  rintro e w1 ⟨u, rfl, ho1, hg1⟩
  have HO1 : Hid (WritesIs w1 u ws) := ho1.list
  obtain ⟨ua, uc, rfl⟩ := ho1.shape
  have hcp := HO1.out.capC
  clear ho1 KW
  go_wp2_with fail
  go_loopw [5, 6, 8] (fun ov fv iv wr => ∃ (i : Nat) (cs : List Cmt) (f : FL), i ≤ ws.length ∧ iv = .int .i64 (i : Int) ∧ CmtsOf ws i cs f ∧ OwnC w1.heap.size wr ov cs ∧ OwnT w1.heap.size wr fv f ∧ w1.grownBy wr none) (fun _ _ iv _ => ws.length - (intOf iv).toNat)
  case atStart => exact ⟨0, [], [], by omega, rfl, cmtsOf_nil ws, ownC_nil _ _, ownT_nil _ _, grown_refl _ _⟩
  case round =>
    obtain ⟨i, cs, f, hi, rfl, hco, hoc, hot, hg⟩ := hrel
    obtain ⟨oa, oc, rfl⟩ := hoc.shape
    obtain ⟨fa, fc, rfl⟩ := hot.shape
    by_cases hlt : i < ws.length
    · have i1 : (i : Int) < (ws.length : Int) := by omega
      obtain ⟨b, o, rfl, hat⟩ := HO1.out.at i hlt
      obtain ⟨vn, vk, vv, _, x2, _, _, _, s2, _⟩ := hat.grown hg
      obtain ⟨ka, kc, rfl⟩ := s2.shape
      obtain ⟨n1, n2, n3⟩ := cutN_le ws i hlt
      have HCN : Hid (cutN ws i = min (1 + (ws.getD i noPlc).key.length % 3) (ws.length - i)) := rfl
      have hkl : (ws.getD i noPlc).key.length ≤ 16 := by
        have := HOK.out ws[i] (List.getElem_mem hlt)
        rw [show ws[i] = ws.getD i noPlc by simp [hlt]] at this
        exact ((writeE_iff _).1 this).2.1.2
      obtain ⟨a1, k1, p1, p2⟩ := wslice_lh (some ⟨b, o, none⟩) uc ws i (i + cutN ws i) (by omega) n3 hcp
      obtain ⟨a2, p3, p4⟩ := wslice_lhm (some ⟨b, o, none⟩) uc ws i (i + cutN ws i) (by omega) n3 hcp
      have hsub : i + cutN ws i - i = cutN ws i := by omega
      rw [hsub] at p1 p2 p3 p4
      rw [show ((i + cutN ws i : Nat) : Int) = (i : Int) + (cutN ws i : Int) by omega] at p1 p3
      have P2 : WritesIs wr (.slice a1 (cutN ws i) k1) (cutW ws i) := p2 wr (HO1.out.grown hg)
      have P4 : Hid (WritesIs w1 (.slice a2 (cutN ws i) (cutN ws i)) (cutW ws i)) := p4 w1 HO1.out
      have hfw : FitsW (cutW ws i) := ⟨by rw [cutW_len ws i hlt]; omega, fun j hj => by
        have h0 := cutW_ok HOK.out i (cutW ws i)[j] (List.getElem_mem hj)
        rw [show (cutW ws i)[j] = (cutW ws i).getD j noPlc by simp [hj]] at h0
        have h2 := (writeE_iff _).1 h0
        have h3 : ((cutW ws i).getD j noPlc).value.length ≤ 32 := by
          have := h2.2.2
          split at this
          · rw [this]; simp
          · exact this
        exact ⟨by omega, by omega, by omega⟩⟩
      have AP : Hid (Calls Try.prog 21 #[.slice fa f.length fc, .slice a1 (cutN ws i) k1] wr fun e w' => ∃ x, e = .returned (.tuple #[x, .int .i64 (appliedE f (cutW ws i))]) ∧ OwnT wr.heap.size w' x (appliedF f (cutW ws i)) ∧ wr.grownBy w' none) := HA.out wr _ _ f _ hot.list P2 hco.forest.fits hfw
      have HGO : Hid (appliedE f (cutW ws i) = 0 → CmtsOf ws (i + cutN ws i) (cs ++ [⟨((cs.length + 1 : Nat) : Int), cutW ws i⟩]) (appliedF f (cutW ws i))) := fun h => hco.go HOK.out hlt hlen h
      have HSK : Hid (appliedE f (cutW ws i) ≠ 0 → CmtsOf ws (i + cutN ws i) cs f) := fun h => hco.skip HOK.out hlt h
      have hcl : cs.length ≤ 50 := by have := hco.few; omega
      have HOC : Hid (OwnC w1.heap.size wr (.slice oa cs.length oc) cs) := hoc
      have HOT : Hid (OwnT w1.heap.size wr (.slice fa f.length fc) f) := hot
      have hsz := hg.size
      generalize (ws.getD i noPlc).key.length = kl at *
      generalize appliedF f (cutW ws i) = Y at *
      generalize appliedE f (cutW ws i) = z at *
      generalize cutW ws i = cw at *
      obtain ⟨N, hN⟩ : ∃ N, N = cutN ws i := ⟨_, rfl⟩
      rw [← hN] at HCN n1 n2 n3 p1 p3 P4 AP HGO HSK
      have hNe : (N : Int) = min (1 + (kl : Int) % 3) ((ws.length : Int) - (i : Int)) := by have := HCN.out; omega
      have HNE : Hid ((if (ws.length : Int) - (i : Int) < 1 + (kl : Int) % 3 then (ws.length : Int) - (i : Int) else 1 + (kl : Int) % 3) = (N : Int)) := by show _ = _; split <;> omega
      clear hat s2 P2 p2 p4 hfw hco hoc hot hsub hN HCN hNe HOK HA
      have p1w := p1 wr
      go_upto_region 7 with fail
      rw [HNE.out]
      go_wp2_with fail
      refine AP.out.mono ?_
      rintro e w2 ⟨x, rfl, hx, hg2⟩
      obtain ⟨xa, xc, rfl⟩ := hx.shape
      have hgw := grown_trans hg hg2
      by_cases hz : z = 0
      · subst hz
        have HX : Hid (OwnT w1.heap.size w2 (.slice xa Y.length xc) Y) := hx.down _ hsz
        have HC2 := HGO.out rfl
        have hg3 := World.grownBy_alloc w2 (.cells #[.int .i64 ((cs.length : Int) + 1), .slice a2 N N] 55) none
        have hgw3 := grown_trans hgw hg3
        have HO3 : Hid (OwnC w1.heap.size (w2.alloc (.cells #[.int .i64 ((cs.length : Int) + 1), .slice a2 N N] 55)) (.slice oa cs.length oc) cs) := HOC.out.grownNone (grown_trans hg2 hg3)
        have HX3 : Hid (OwnT w1.heap.size (w2.alloc (.cells #[.int .i64 ((cs.length : Int) + 1), .slice a2 N N] 55)) (.slice xa Y.length xc) Y) := HX.out.grownNone hg3
        have HV3 : Hid (WritesB w1.heap.size (w2.alloc (.cells #[.int .i64 ((cs.length : Int) + 1), .slice a2 N N] 55)) (.slice a2 N N) cw) := P4.out.writesB hgw3 _ (Nat.le_refl _)
        have HBS : Hid (w1.heap.size ≤ (w2.alloc (.cells #[.int .i64 ((cs.length : Int) + 1), .slice a2 N N] 55)).heap.size) := hgw3.size
        have hl32 : (cs.length + 1) * 32 ≤ 140737488355328 := by omega
        have HC3 : Hid (CmtsOf ws (i + N) (cs ++ [⟨(cs.length : Int) + 1, cw⟩]) Y) := by
          rw [show ((cs.length + 1 : Nat) : Int) = (cs.length : Int) + 1 by omega] at HC2; exact HC2
        have p3w := p3 w2
        clear hx AP HGO HSK HC2 p1w p1 p3
        go_wp2_with (at_builtin; refine wpList_append_cmt rfl _ _ rfl w1.heap.size (.slice oa cs.length oc) cs rfl HO3.out (.slice a2 N N) ⟨(cs.length : Int) + 1, cw⟩ HV3.out w2.heap.size (heap_alloc_new w2 _) rfl hl32 HBS.out ?_; intro v4 w4 ho4 hg4)
        have hgw4 := grown_ownC hgw3 HO3.out (Nat.le_refl _) hg4
        go_roundw
        case rel => exact ⟨i + N, _, _, n3, by go_num, HC3.out, ho4, HX3.out.keptC HO3.out hg4, hgw4⟩
        case measure => simp [intOf]; omega
      · have HC2 : Hid (CmtsOf ws (i + N) cs f) := HSK.out hz
        have hz' : (z == 0) = false := by simpa using hz
        clear hx AP HGO HSK p1w p1 p3 hz
        go_wp2_with fail
        go_roundw
        case rel => exact ⟨i + N, _, _, n3, by go_num, HC2.out, HOC.out.grownNone hg2, HOT.out.grownNone hg2, hgw⟩
        case measure => simp [intOf]; omega
    · have i1 : ¬ (i : Int) < (ws.length : Int) := by omega
      obtain rfl : i = ws.length := by omega
      have HCO : Hid (CmtsOf ws ws.length cs f) := hco
      have HOC : Hid (OwnC w1.heap.size wr (.slice oa cs.length oc) cs) := hoc
      clear hco hoc hot
      go_wp2
      go_ret
      exact ⟨_, rfl, cs, ⟨w1.heap.size, hg1.size, HOC.out⟩, ⟨f, HCO.out⟩, grown_trans hg1 hg⟩
theorem kcommits_any (hA : FApplyNewOK) (w : World) (v : Value) (l : List Plc) (most : Nat) (hv : PlacesIs w v l) (hl : FitsQ l) (hm : most ≤ 50) :
    Calls Try.prog 6 #[v, .int .i64 (most : Int)] w fun e w' => ∃ v', e = .returned v' ∧ ∃ cs, CommitsIs w' v' cs ∧ (∃ f, CmtsOf ((l.take most).map writeF) ((l.take most).map writeF).length cs f) ∧ w.grownBy w' none :=
  (kcommits_own hA w v l most hv hl hm).mono (by
    rintro e w' ⟨v', rfl, cs, ⟨base, _, ho⟩, hf, hg⟩
    exact ⟨v', rfl, cs, ho.list, hf, hg⟩)
end Go.Proofs.Ytpmfbfflacbmjac
