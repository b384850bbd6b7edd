/-
  The walk of the document's answer to P5.4: Applied.
-/
import Derived.Test.YtljdconhplgipaaRWritten
import Derived.Test.YtljdconhplgipaaPart12
import Derived.Test.YtljdconhplgipaaRWrF
import Derived.Test.YtljdconhplgipaaPart14
namespace Go.Proofs.Ytljdconhplgipaa
open Go.RowKit
theorem applied_long {l : FL} {ws : List Plc} (h : forestE l = 0) (hl : 10 < ws.length) : appliedE l ws = 1 ∧ appliedF l ws = [] := by
  have h1 : appliedE l ws = 1 := by rw [appliedE, if_pos h, if_pos hl]
  exact ⟨h1, by rw [appliedF, if_neg (by rw [h1]; decide)]⟩
theorem applied_bad {l : FL} {ws : List Plc} (h : forestE l ≠ 0) : appliedE l ws = forestE l ∧ appliedF l ws = [] := by
  have h1 : appliedE l ws = forestE l := by rw [appliedE, if_neg h]
  exact ⟨h1, by rw [appliedF, if_neg (by rw [h1]; exact h)]⟩
theorem drop_cons (ws : List Plc) (m : Nat) (h : m < ws.length) : ws.drop m = ws.getD m noPlc :: ws.drop (m + 1) := by
  rw [List.drop_eq_getElem_cons h]; simp [h]
set_option maxRecDepth 100000 in
set_option maxHeartbeats 2000000 in
theorem applied_any (w : World) (v u : Value) (l : FL) (ws : List Plc) (hv : TensIs w v l) (hu : WritesIs w u ws) :
    Calls Try.prog 24 #[v, u] w fun e w' => ∃ x, e = .returned (.tuple #[x, .int .i64 (appliedE l ws)]) ∧ TensIs w' x (appliedF l ws) ∧ w.grownBy w' none := by
  obtain ⟨a, cap, rfl⟩ := hv.shape
  obtain ⟨ua, uc, rfl⟩ := hu.shape
  have FF : Hid (Calls Try.prog 40 #[.slice a l.length cap] w fun e w' => e = .returned (.int .i64 (forestE l)) ∧ w.grownBy w' none) := forestFault_any w _ l hv
  by_cases hE : forestE l = 0
  · have hF := (forest_iff l).1 hE
    rw [hE] at FF
    by_cases hL : 10 < ws.length
    · obtain ⟨e1, e2⟩ := applied_long hE hL
      rw [e1, e2]
      have t1 : (ws.length : Int) > 10 := by omega
      clear e1 e2 hE hF hv hu
      go_enter Try.func24, Try.ntmps24
      go_wp2_with fail
      refine FF.out.mono ?_
      rintro e w1 ⟨rfl, hg1⟩
      go_wp2
      go_ret2
      exact ⟨_, rfl, tensIs_nil _, hg1⟩
    · have t1 : ¬ (ws.length : Int) > 10 := by omega
      have hE0 : appliedE l ws = applyE l ws := by rw [appliedE, if_pos hE, if_neg hL]
      have HAE : Hid (appliedE l ws = applyE l ws) := hE0
      have HAF : Hid (appliedF l ws = if applyE l ws = 0 then applyL l ws else []) := by show _ = _; rw [appliedF, hE0]
      have FC : Hid (∀ w', w.grownBy w' none → Calls Try.prog 41 #[.slice a l.length cap] w' fun e w'' => ∃ v', e = .returned v' ∧ OwnT w'.heap.size w'' v' l ∧ w'.grownBy w'' none) := fun w' hg => forestCopy_any w' _ l (hv.grown hg) hF.fits
      have HF : Hid (Forest l) := hF
      have HU : Hid (WritesIs w (.slice ua ws.length uc) ws) := hu
      generalize appliedE l ws = AE at *
      generalize appliedF l ws = AF at *
      clear hE hF hv hu hE0
      go_enter Try.func24, Try.ntmps24
      go_wp2_with fail
      refine FF.out.mono ?_
      rintro e w1 ⟨rfl, hg1⟩
      go_wp2_with fail
      refine (FC.out _ hg1).mono ?_
      rintro e w2 ⟨v2, rfl, ho2, hg2⟩
      have hg02 := grown_trans hg1 hg2
      have HO2 : Hid (TensIs w2 v2 l) := ho2.list
      clear ho2 FC FF
      go_wp2_with fail
      go_loopw [7, 8] (fun cv i wr => ∃ (m : Nat) (L : FL), m ≤ ws.length ∧ i = .int .i64 (m : Int) ∧ TensIs wr cv L ∧ Forest L ∧ applyE l ws = applyE L (ws.drop m) ∧ applyL l ws = applyL L (ws.drop m) ∧ w.grownBy wr none) (fun _ i _ => ws.length - (intOf i).toNat)
      case atStart => exact ⟨0, l, by omega, rfl, HO2.out, HF.out, rfl, rfl, hg02⟩
      case round =>
        clear hg1 hg2 hg02 HO2 HF
        obtain ⟨m, L, hm, rfl, hcv, hFL, h1, h2, hg⟩ := hrel
        obtain ⟨la, lc, rfl⟩ := hcv.shape
        by_cases hlt : m < ws.length
        · obtain ⟨b, o, rfl, hat⟩ := HU.out.at m hlt
          obtain ⟨vn, vk, vv, c1, c2, c3, c4, s1, s2, s3⟩ := hat.grown hg
          rw [drop_cons ws m hlt] at h1 h2
          generalize ws.getD m noPlc = P at *
          have WF : Hid (Calls Try.prog 39 #[.agg #[vn, vk, .bool P.gone, vv]] wr fun e w' => e = .returned (.int .i64 (writeE P)) ∧ wr.grownBy w' none) := writeFault_any wr _ P ⟨vn, vk, vv, rfl, s1, s2, s3⟩
          have WR : Hid (writeE P = 0 → ∀ w', wr.grownBy w' none → Calls Try.prog 42 #[.slice la L.length lc, .agg #[vn, vk, .bool P.gone, vv]] w' fun e w'' => ∃ x, e = .returned (.tuple #[x, .int .i64 (writtenE L P)]) ∧ TensIs w'' x (if writtenE L P = 0 then writtenL L P else []) ∧ w'.grownBy w'' none) := fun hw w' hg' => written_any w' _ _ L P (hcv.grown hg') ⟨vn, vk, vv, rfl, s1.grown hg', s2.grown hg', s3.grown hg'⟩ hFL hw
          have HE1 : Hid (writeE P ≠ 0 → applyE l ws = writeE P) := fun h => by rw [h1, applyE, if_neg h]
          have HE2 : Hid (writeE P = 0 → writtenE L P ≠ 0 → applyE l ws = writtenE L P) := fun h h' => by rw [h1, applyE, if_pos h, if_neg h']
          have HE3 : Hid (writeE P = 0 → writtenE L P = 0 → applyE l ws = applyE (writtenL L P) (ws.drop (m + 1)) ∧ applyL l ws = applyL (writtenL L P) (ws.drop (m + 1))) := fun h h' => ⟨by rw [h1, applyE, if_pos h, if_pos h'], by rw [h2, applyL]⟩
          have HFN : Hid (writeE P = 0 → writtenE L P = 0 → Forest (writtenL L P)) := fun h h' => written_forest hFL h h'
          obtain ⟨na, nc, rfl⟩ := s1.shape
          obtain ⟨ka, kc, rfl⟩ := s2.shape
          obtain ⟨va, vc, rfl⟩ := s3.shape
          have i1 : (m : Int) < (ws.length : Int) := by omega
          generalize writeE P = PE at *
          generalize writtenE L P = WE at *
          generalize writtenL L P = WL at *
          clear hat s1 s2 s3 h1 h2 hcv hFL
          go_wp2_with fail
          refine WF.out.mono ?_
          rintro e w3 ⟨rfl, hg3⟩
          have hgw3 := grown_trans hg hg3
          by_cases hP : PE = 0
          · have d1 := hg3.cell c1 (by simp)
            have d2 := hg3.cell c2 (by simp)
            have d3 := hg3.cell c3 (by simp)
            have d4 := hg3.cell c4 (by simp)
            have WR2 := WR.out hP
            have HE2' : Hid (WE ≠ 0 → applyE l ws = WE) := HE2.out hP
            have HE3' : Hid (WE = 0 → applyE l ws = applyE WL (ws.drop (m + 1)) ∧ applyL l ws = applyL WL (ws.drop (m + 1))) := HE3.out hP
            have HFN' : Hid (WE = 0 → Forest WL) := HFN.out hP
            have WR3 : Hid (∀ w', wr.grownBy w' none → Calls Try.prog 42 #[.slice la L.length lc, .agg #[.slice na P.name.length nc, .slice ka P.key.length kc, .bool P.gone, .slice va P.value.length vc]] w' fun e w'' => ∃ x, e = .returned (.tuple #[x, .int .i64 WE]) ∧ TensIs w'' x (if WE = 0 then WL else []) ∧ w'.grownBy w'' none) := WR2
            clear WR WR2 HE1 HE2 HE3 HFN c1 c2 c3 c4 WF
            subst hP
            go_wp2_with fail
            refine (WR3.out _ hg3).mono ?_
            rintro e w4 ⟨x, rfl, hx, hg4⟩
            have hgw4 := grown_trans hgw3 hg4
            by_cases hW : WE = 0
            · rw [if_pos hW] at hx
              obtain ⟨e1, e2⟩ := HE3'.out hW
              have HFW : Hid (Forest WL) := HFN'.out hW
              have HX : Hid (TensIs w4 x WL) := hx
              have HE4 : Hid (applyE l ws = applyE WL (ws.drop (m + 1))) := e1
              have HE5 : Hid (applyL l ws = applyL WL (ws.drop (m + 1))) := e2
              clear e1 e2 HE2' HE3' HFN' hx d1 d2 d3 d4 WR3
              subst hW
              go_wp2_with fail
              go_roundw
              case rel => exact ⟨m + 1, WL, by omega, by go_num, HX.out, HFW.out, HE4.out, HE5.out, hgw4⟩
              case measure => simp [intOf]; omega
            · have hz : (WE != 0) = true := by simpa using hW
              have HA1 : Hid (AE = WE) := by show _ = _; rw [HAE.out, HE2'.out hW]
              have HA2 : Hid (AF = []) := by show _ = _; rw [HAF.out, if_neg (by rw [HE2'.out hW]; exact hW)]
              clear HAE HAF HE2' HE3' HFN' hx d1 d2 d3 d4 WR3 hW
              go_wp2
              go_ret2
              exact ⟨_, by rw [HA1.out]; rfl, by rw [HA2.out]; exact tensIs_nil _, hgw4⟩
          · have hz : (PE != 0) = true := by simpa using hP
            have HA1 : Hid (AE = PE) := by show _ = _; rw [HAE.out, HE1.out hP]
            have HA2 : Hid (AF = []) := by show _ = _; rw [HAF.out, if_neg (by rw [HE1.out hP]; exact hP)]
            clear HAE HAF HE1 HE2 HE3 HFN WR c1 c2 c3 c4 WF hP
            go_wp2
            go_ret2
            exact ⟨_, by rw [HA1.out]; rfl, by rw [HA2.out]; exact tensIs_nil _, hgw3⟩
        · obtain rfl : m = ws.length := by omega
          rw [List.drop_length] at h1 h2
          have HA1 : Hid (AE = 0) := by show _ = _; rw [HAE.out, h1]; rfl
          have HA2 : Hid (AF = L) := by show _ = _; rw [HAF.out, if_pos (by rw [h1]; rfl), h2]; rfl
          have HX : Hid (TensIs wr (.slice la L.length lc) L) := hcv
          clear HAE HAF h1 h2 hcv hFL
          go_wp2
          go_ret2
          exact ⟨_, by rw [HA1.out]; rfl, by rw [HA2.out]; exact HX.out, hg⟩
  · obtain ⟨e1, e2⟩ := applied_bad (ws := ws) hE
    rw [e1, e2]
    generalize forestE l = E at *
    have hz : (E != 0) = true := by simpa using hE
    have hz2 : (E == 0) = false := by simpa using hE
    clear e1 e2 hv hu
    go_enter Try.func24, Try.ntmps24
    go_wp2_with fail
    refine FF.out.mono ?_
    rintro e w1 ⟨rfl, hg1⟩
    go_wp2
    go_ret2
    exact ⟨_, rfl, tensIs_nil _, hg1⟩
end Go.Proofs.Ytljdconhplgipaa
