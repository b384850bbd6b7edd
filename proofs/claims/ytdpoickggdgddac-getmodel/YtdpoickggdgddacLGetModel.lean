/-
  The walk of canopykeep.GetModel, over what the code must keep.
-/
import Derived.Test.YtdpoickggdgddacTCPut
import Derived.Test.YtdpoickggdgddacTCGet
import Derived.Test.YtdpoickggdgddacTCDelete
import Derived.Test.YtdpoickggdgddacTCCheck
import Derived.Test.YtdpoickggdgddacKWrite
import Derived.Test.YtdpoickggdgddacMapM
namespace Go.Proofs.Ytdpoickggdgddac
open Go.RowKit Go.Maps
set_option maxRecDepth 100000 in
set_option maxHeartbeats 2000000 in
theorem getModel_walk (hP : TPutOK) (hG : TGetOK) (hD : TDelOK) (hC : TCheckOK) (w : World) (v : Value) (l : List Plc) (hv : PlacesIs w v l) (hl : l.length ≤ 140737488355328) (hf : ∀ i, i < l.length → PlcFits (l.getD i noPlc)) :
    Calls Try.prog 4 #[v] w fun e w' => e = .returned (.bool true) ∧ w.grownBy w' none := by
  have HPut : Hid (∀ (w' : World) (v1 v2 : Value) (T : PL) (p : Pr), PairsIs w' v1 T → PairIs w' v2 p → Tree T → (1 ≤ p.1.length ∧ p.1.length ≤ 16) ∧ p.2.length ≤ 32 → T.length < 60 → Calls Try.prog 6 #[v1, v2] w' fun e w'' => ∃ y, e = .returned (.tuple #[y, .int .i64 0]) ∧ PairsIs w'' y (putL T p) ∧ w'.grownBy w'' none) := fun w' v1 v2 T p h1 h2 hT hp hl => by
    obtain ⟨p1, p2, p3⟩ := putE_ok T p hT hp hl
    have := hP w' v1 v2 T p h1 h2 hT.fits (by omega) (by omega)
    rw [p1, p2] at this
    exact this
  have HDel : Hid (∀ (w' : World) (v1 v2 : Value) (T : PL) (k : List UInt8), PairsIs w' v1 T → SliceIs w' v2 k → Tree T → (1 ≤ k.length ∧ k.length ≤ 16) → Calls Try.prog 10 #[v1, v2] w' fun e w'' => ∃ y, e = .returned (.tuple #[y, .int .i64 0]) ∧ PairsIs w'' y (delL T k) ∧ w'.grownBy w'' none) := fun w' v1 v2 T k h1 h2 hT hk => by
    obtain ⟨d1, d2, d3⟩ := delF_ok T k hT hk
    have := hD w' v1 v2 T k h1 h2 hT.fits (by omega)
    rw [d1, d2] at this
    exact this
  have HGet : Hid (∀ (w' : World) (v1 v2 : Value) (T : PL) (k : List UInt8), PairsIs w' v1 T → SliceIs w' v2 k → Tree T → (1 ≤ k.length ∧ k.length ≤ 16) → Calls Try.prog 11 #[v1, v2] w' fun e w'' => ∃ y, e = .returned (.tuple #[.agg #[.bool (getF T k).isSome, y], .int .i64 0]) ∧ SliceIs w'' y ((getF T k).getD []) ∧ w'.grownBy w'' none) := fun w' v1 v2 T k h1 h2 hT hk => by
    obtain ⟨g1, g2, g3⟩ := get_ok T k hT hk
    have := hG w' v1 v2 T k h1 h2 hT.fits (by omega)
    rw [g1, g2, g3] at this
    exact this
  have HCk : Hid (∀ (w' : World) (v1 : Value), PairsIs w' v1 [([], [])] → Calls Try.prog 8 #[v1] w' fun e w'' => e = .returned (.int .i64 1) ∧ w'.grownBy w'' none) := fun w' v1 h1 => by
    have := hC w' v1 [([], [])] h1 ⟨by simp, fun i hi => by obtain rfl : i = 0 := (by simpa using hi); simp⟩
    rw [show pairsFaultF [([], [])] = 1 by decide] at this
    exact this
  have HWr : Hid (∀ (w' : World) (vn vk vv : Value) (p : Plc), PlcFits p → SliceIs w' vn p.name → SliceIs w' vk p.key → SliceIs w' vv p.value → Calls Try.prog 9 #[.agg #[vn, vk, vv, .bool p.gone]] w' fun e w'' => ∃ xn xk xv, e = .returned (.agg #[xn, xk, .bool p.gone, xv]) ∧ SliceIs w'' xn (writeF p).name ∧ SliceIs w'' xk (writeF p).key ∧ SliceIs w'' xv (writeF p).value ∧ w'.grownBy w'' none) := fun w' vn vk vv p hp h1 h2 h3 => by
    refine (write_any w' _ p ⟨vn, vk, vv, rfl, h1, h2, h3⟩ hp).mono ?_
    rintro e w2 ⟨xn, xk, xv, rfl, o1, o2, o3, hg⟩
    exact ⟨xn, xk, xv, rfl, o1.slice, o2.slice, o3.slice, hg⟩
  have HL : Hid (PlacesIs w v l) := hv
  obtain ⟨a, cap, rfl⟩ := hv.shape
  have HF : Hid (∀ i, i < l.length → PlcFits (l.getD i noPlc)) := hf
  clear hP hG hD hC hv hf
  have hmm := @run_makeMap Try.prog
  have M0 : Hid (ModelIs (w.alloc (.map #[] 0)) w.heap.size 0 []) := modelIs_made w
  have hga : w.grownBy (w.alloc (.map #[] 0)) none := World.grownBy_alloc _ _ _
  go_enter Try.func4, Try.ntmps4
  go_wp2_with fail
  go_loopw [3, 5] (fun cv i wr => ∃ (m : Nat) (T : PL) (ca : Option Addr) (cc : Nat), m ≤ l.length ∧ m ≤ 40 ∧ i = .int .i64 (m : Int) ∧ cv = .slice ca T.length cc ∧ PairsIs wr (.slice ca T.length cc) T ∧ Tree T ∧ T.length ≤ m ∧ ModelIs wr w.heap.size m T ∧ w.grownBy wr none) (fun _ i _ => 40 - (intOf i).toNat)
  case atStart => exact ⟨0, [], none, 0, by omega, by omega, rfl, rfl, pairsIs_nil _, tree_nil, by simp, M0.out, hga⟩
  case round =>
    clear M0 hga hmm
    obtain ⟨m, T, ca, cc, hm1, hm2, rfl, rfl, hps, hT, hTl, hmod, hgr⟩ := hrel
    have HPS : Hid (PairsIs wr (.slice ca T.length cc) T) := hps
    have HT : Hid (Tree T) := hT
    have HMD : Hid (ModelIs wr w.heap.size m T) := hmod
    clear hps hT hmod
    by_cases hc : m < l.length ∧ m < 40
    · obtain ⟨h1, h2⟩ := hc
      have t1 : (m : Int) < (l.length : Int) := by omega
      have t2 : (m : Int) < 40 := by omega
      obtain ⟨pb, po, rfl, hat⟩ := HL.out.at m h1
      obtain ⟨vn, vk, vv, c1, c2, c3, c4, s1, s2, s3⟩ := hat.grown hgr
      have WR : Hid (Calls Try.prog 9 #[.agg #[vn, vk, vv, .bool (l.getD m noPlc).gone]] wr fun e w'' => ∃ xn xk xv, e = .returned (.agg #[xn, xk, .bool (l.getD m noPlc).gone, xv]) ∧ SliceIs w'' xn (writeF (l.getD m noPlc)).name ∧ SliceIs w'' xk (writeF (l.getD m noPlc)).key ∧ SliceIs w'' xv (writeF (l.getD m noPlc)).value ∧ wr.grownBy w'' none) := HWr.out wr vn vk vv _ (HF.out m h1) s1 s2 s3
      obtain ⟨wl1, wl2, wl3⟩ := writeF_len (l.getD m noPlc)
      obtain ⟨na, nc, rfl⟩ := s1.shape
      obtain ⟨ka, kc, rfl⟩ := s2.shape
      obtain ⟨va, vc, rfl⟩ := s3.shape
      generalize writeF (l.getD m noPlc) = Wf at *
      generalize (l.getD m noPlc) = Pm at *
      generalize Pm.gone = G at *
      clear s1 s2 s3 hat
      go_wp2_with fail
      refine WR.out.mono ?_
      rintro e w2 ⟨xn, xk, xv, rfl, x1, x2, x3, hg2⟩
      obtain ⟨na2, nc2, rfl⟩ := x1.shape
      obtain ⟨ka2, kc2, rfl⟩ := x2.shape
      obtain ⟨va2, vc2, rfl⟩ := x3.shape
      have X2 : Hid (SliceIs w2 (.slice ka2 Wf.key.length kc2) Wf.key) := x2
      have X3 : Hid (SliceIs w2 (.slice va2 Wf.value.length vc2) Wf.value) := x3
      have hga2 : w2.grownBy (w2.alloc (.cells #[.slice na2 Wf.name.length nc2, .slice ka2 Wf.key.length kc2, .bool G, .slice va2 Wf.value.length vc2] 36)) none := World.grownBy_alloc _ _ _
      have hgA := grown_trans hg2 hga2
      clear x1 x2 x3 c1 c2 c3 c4 WR
      have HB2 : Hid ((w2.alloc (.cells #[.slice na2 Wf.name.length nc2, .slice ka2 Wf.key.length kc2, .bool G, .slice va2 Wf.value.length vc2] 36)).heap[w2.heap.size]? = some (.cells #[.slice na2 Wf.name.length nc2, .slice ka2 Wf.key.length kc2, .bool G, .slice va2 Wf.value.length vc2] 36)) := heap_alloc_new w2 _
      cases G with
      | true =>
        go_wp2_with fail
        refine (HDel.out _ _ _ T Wf.key (HPS.out.grown hgA) (X2.out.grown hga2) HT.out wl2).mono ?_
        rintro e w4 ⟨y4, rfl, h4, hg4⟩
        obtain ⟨a4, c4, rfl⟩ := h4.shape
        have HM4 : Hid (ModelIs w4 w.heap.size m T) := HMD.out.grown (grown_trans hgA hg4)
        obtain ⟨⟨_, e1, _, _⟩, _, _, _, _, _⟩ := quad_room hg4 HB2.out
        have cv := conv_bytes w4 _ _ ((X2.out.grown hga2).grown hg4)
        have H4 : Hid (PairsIs w4 (.slice a4 (delL T Wf.key).length c4) (delL T Wf.key)) := h4
        clear h4
        go_wp2_with (at_delete; refine wpList_model_del rfl _ _ rfl w.heap.size m T rfl HM4.out HT.out.rises Wf.key rfl (by unfold maxLen; omega) ?_; intro w5 hm5 hg5)
        have HP5 : Hid (PairsIs w5 (.slice a4 (delL T Wf.key).length c4) (delL T Wf.key)) := H4.out.model HM4.out hg5
        have HT5 : Hid (Tree (delL T Wf.key)) := (delF_ok T Wf.key HT.out wl2).2.2
        have hln := del_len T Wf.key
        have HM5 : Hid (ModelIs w5 w.heap.size (m + 1) (delL T Wf.key)) := by obtain ⟨D, h1, h2⟩ := hm5; exact ⟨D, h1.mono (by omega), h2⟩
        have hgw5 : w.grownBy w5 none := grown_new (grown_trans hgr (grown_trans hgA hg4)) (Nat.le_refl _) hg5
        clear hm5 hg5
        go_roundw
        case rel =>
          first
            | exact ⟨m + 1, delL T Wf.key, a4, c4, by omega, by omega, by go_num, rfl, HP5.out, HT5.out, by omega, HM5.out, hgw5⟩
            | ((repeat apply Exists.intro); refine ⟨⟨m + 1, delL T Wf.key, a4, c4, by omega, by omega, ?_, rfl, HP5.out, HT5.out, by omega, HM5.out, hgw5⟩, rfl⟩; go_num)
        case measure => simp [intOf]; omega
      | false =>
        go_wp2_with fail
        refine (HPut.out _ _ _ T (Wf.key, Wf.value) (HPS.out.grown hgA) ⟨_, _, rfl, X2.out.grown hga2, X3.out.grown hga2⟩ HT.out ⟨wl2, wl3⟩ (by omega)).mono ?_
        rintro e w4 ⟨y4, rfl, h4, hg4⟩
        obtain ⟨a4, c4, rfl⟩ := h4.shape
        have HM4 : Hid (ModelIs w4 w.heap.size m T) := HMD.out.grown (grown_trans hgA hg4)
        obtain ⟨⟨_, e1, _, e3⟩, _, _, _, _, _⟩ := quad_room hg4 HB2.out
        have cv := conv_bytes w4 _ _ ((X2.out.grown hga2).grown hg4)
        have cw := conv_bytes w4 _ _ ((X3.out.grown hga2).grown hg4)
        have H4 : Hid (PairsIs w4 (.slice a4 (putL T (Wf.key, Wf.value)).length c4) (putL T (Wf.key, Wf.value))) := h4
        clear h4
        go_wp2_with (at_mapUpdate; refine wpList_model_put rfl _ _ _ rfl w.heap.size m T rfl HM4.out HT.out.rises (by unfold maxLen; omega) (Wf.key, Wf.value) rfl rfl (by show Wf.key.length ≤ maxLen; unfold maxLen; omega) (by show Wf.value.length ≤ maxLen; unfold maxLen; omega) ?_; intro w5 hm5 hg5)
        have HP5 : Hid (PairsIs w5 (.slice a4 (putL T (Wf.key, Wf.value)).length c4) (putL T (Wf.key, Wf.value))) := H4.out.model HM4.out hg5
        have HT5 : Hid (Tree (putL T (Wf.key, Wf.value))) := (putE_ok T (Wf.key, Wf.value) HT.out ⟨wl2, wl3⟩ (by omega)).2.2
        have hln := put_len T (Wf.key, Wf.value)
        have HM5 : Hid (ModelIs w5 w.heap.size (m + 1) (putL T (Wf.key, Wf.value))) := hm5
        have hgw5 : w.grownBy w5 none := grown_new (grown_trans hgr (grown_trans hgA hg4)) (Nat.le_refl _) hg5
        clear hm5 hg5
        go_roundw
        case rel =>
          first
            | exact ⟨m + 1, putL T (Wf.key, Wf.value), a4, c4, by omega, by omega, by go_num, rfl, HP5.out, HT5.out, by omega, HM5.out, hgw5⟩
            | ((repeat apply Exists.intro); refine ⟨⟨m + 1, putL T (Wf.key, Wf.value), a4, c4, by omega, by omega, ?_, rfl, HP5.out, HT5.out, by omega, HM5.out, hgw5⟩, rfl⟩; go_num)
        case measure => simp [intOf]; omega
    · have HCC : Hid (¬ (m < l.length ∧ m < 40)) := hc
      have SPL : ¬ m < l.length ∨ (m < l.length ∧ ¬ m < 40) := by omega
      obtain ⟨W1, hW1⟩ : ∃ W1 : World, W1 = wr := ⟨_, rfl⟩
      subst hW1
      have hln := HT.out.room
      go_upto_region 4 with fail
      go_cut [25] (fun s25 wx => s25 = .bool false ∧ wx = W1)
      case first =>
        rcases SPL with h1 | ⟨h1, h2⟩
        · have t1 : ¬ (m : Int) < (l.length : Int) := by omega
          go_wp2_with fail
          go_meet
          case rel => exact ⟨rfl, rfl⟩
        · have t1 : (m : Int) < (l.length : Int) := by omega
          have t2 : ¬ (m : Int) < 40 := by omega
          go_wp2_with fail
          go_meet
          case rel => exact ⟨rfl, rfl⟩
      case rest =>
        obtain ⟨rfl, rfl⟩ := hcut
        clear SPL hc
        go_wp2_with fail
        go_loopw [11] (fun i wr => ∃ j : Nat, j ≤ l.length ∧ j ≤ 40 ∧ i = .int .i64 (j : Int) ∧ wc.grownBy wr none) (fun i _ => 40 - (intOf i).toNat)
        case atStart => exact ⟨0, by omega, by omega, rfl, grown_refl _ _⟩
        case round =>
          obtain ⟨j, hj1, hj2, rfl, hgr2⟩ := hrel
          have hgw2 := grown_trans hgr hgr2
          have HP2 : Hid (PairsIs wr (.slice ca T.length cc) T) := HPS.out.grown hgr2
          have HM2 : Hid (ModelIs wr w.heap.size m T) := HMD.out.grown hgr2
          by_cases hc : j < l.length ∧ j < 40
          · obtain ⟨h1, h2⟩ := hc
            have t1 : (j : Int) < (l.length : Int) := by omega
            have t2 : (j : Int) < 40 := by omega
            obtain ⟨pb, po, rfl, hat⟩ := HL.out.at j h1
            obtain ⟨vn, vk, vv, c1, c2, c3, c4, s1, s2, s3⟩ := hat.grown hgw2
            have WR : Hid (Calls Try.prog 9 #[.agg #[vn, vk, vv, .bool (l.getD j noPlc).gone]] wr fun e w'' => ∃ xn xk xv, e = .returned (.agg #[xn, xk, .bool (l.getD j noPlc).gone, xv]) ∧ SliceIs w'' xn (writeF (l.getD j noPlc)).name ∧ SliceIs w'' xk (writeF (l.getD j noPlc)).key ∧ SliceIs w'' xv (writeF (l.getD j noPlc)).value ∧ wr.grownBy w'' none) := HWr.out wr vn vk vv _ (HF.out j h1) s1 s2 s3
            obtain ⟨wl1, wl2, wl3⟩ := writeF_len (l.getD j noPlc)
            obtain ⟨na, nc, rfl⟩ := s1.shape
            obtain ⟨ka, kc, rfl⟩ := s2.shape
            obtain ⟨va, vc, rfl⟩ := s3.shape
            generalize writeF (l.getD j noPlc) = Wf at *
            generalize (l.getD j noPlc) = Pm at *
            generalize Pm.gone = G at *
            clear s1 s2 s3 hat
            go_wp2_with fail
            refine WR.out.mono ?_
            rintro e w2 ⟨xn, xk, xv, rfl, x1, x2, x3, hg2⟩
            obtain ⟨na2, nc2, rfl⟩ := x1.shape
            obtain ⟨ka2, kc2, rfl⟩ := x2.shape
            obtain ⟨va2, vc2, rfl⟩ := x3.shape
            have X2 : Hid (SliceIs w2 (.slice ka2 Wf.key.length kc2) Wf.key) := x2
            have hga2 : w2.grownBy (w2.alloc (.cells #[.slice na2 Wf.name.length nc2, .slice ka2 Wf.key.length kc2, .bool G, .slice va2 Wf.value.length vc2] 36)) none := World.grownBy_alloc _ _ _
            have hgA := grown_trans hg2 hga2
            have HB2 : Hid ((w2.alloc (.cells #[.slice na2 Wf.name.length nc2, .slice ka2 Wf.key.length kc2, .bool G, .slice va2 Wf.value.length vc2] 36)).heap[w2.heap.size]? = some (.cells #[.slice na2 Wf.name.length nc2, .slice ka2 Wf.key.length kc2, .bool G, .slice va2 Wf.value.length vc2] 36)) := heap_alloc_new w2 _
            clear x1 x2 x3 c1 c2 c3 c4 WR
            go_wp2_with fail
            refine (HGet.out _ _ _ T Wf.key (HP2.out.grown hgA) (X2.out.grown hga2) HT.out wl2).mono ?_
            rintro e w4 ⟨y4, rfl, h4, hg4⟩
            obtain ⟨a4, c4, rfl⟩ := h4.shape
            have hgr4 := grown_trans hgA hg4
            have hga4 : w4.grownBy (w4.alloc (.cells #[.bool (getF T Wf.key).isSome, .slice a4 ((getF T Wf.key).getD []).length c4] 42)) none := World.grownBy_alloc _ _ _
            have HM4 : Hid (ModelIs (w4.alloc (.cells #[.bool (getF T Wf.key).isSome, .slice a4 ((getF T Wf.key).getD []).length c4] 42)) w.heap.size m T) := HM2.out.grown (grown_trans hgr4 hga4)
            obtain ⟨⟨_, e1, _, _⟩, _, _, _, _, _⟩ := quad_room (grown_trans hg4 hga4) HB2.out
            have cv := conv_bytes _ _ _ (((X2.out.grown hga2).grown hg4).grown hga4)
            have cw := conv_bytes _ _ _ (h4.grown hga4)
            have hgf := grown_trans hgr2 (grown_trans hgr4 hga4)
            generalize hBq : (getF T Wf.key).isSome = B at *
            generalize hVq : (getF T Wf.key).getD [] = V at *
            have HBq : Hid ((getF T Wf.key).isSome = B) := hBq
            have HVq : Hid ((getF T Wf.key).getD [] = V) := hVq
            clear h4 hBq hVq
            obtain ⟨z1, z2, _, _⟩ := pair_room (grown_refl (w4.alloc (.cells #[.bool B, .slice a4 V.length c4] 42)) none) (heap_alloc_new w4 _)
            go_wp2_with (at_lookup; refine wpList_model_get rfl _ _ rfl w.heap.size m T rfl HM4.out Wf.key rfl (by unfold maxLen; omega) ?_; rw [HBq.out, HVq.out])
            all_goals
              go_roundw
              case rel =>
                first
                  | exact ⟨j + 1, by omega, by omega, by go_num, hgf⟩
                  | ((repeat apply Exists.intro); refine ⟨⟨j + 1, by omega, by omega, ?_, hgf⟩, rfl⟩; go_num)
              case measure => simp [intOf]; omega
          · have SPL : ¬ j < l.length ∨ (j < l.length ∧ ¬ j < 40) := by omega
            obtain ⟨W2, hW2⟩ : ∃ W2 : World, W2 = wr := ⟨_, rfl⟩
            subst hW2
            clear hc
            go_upto_region 19 with fail
            go_cut [76] (fun s76 wx => s76 = .bool false ∧ wx = W2)
            case first =>
              rcases SPL with h1 | ⟨h1, h2⟩
              · have t1 : ¬ (j : Int) < (l.length : Int) := by omega
                go_wp2_with fail
                go_meet
                case rel => exact ⟨rfl, rfl⟩
              · have t1 : (j : Int) < (l.length : Int) := by omega
                have t2 : ¬ (j : Int) < 40 := by omega
                go_wp2_with fail
                go_meet
                case rel => exact ⟨rfl, rfl⟩
            case rest =>
              obtain ⟨rfl, rfl⟩ := hcut
              clear SPL
              have P0 : Hid (PairsIs (wc.alloc (.cells #[.slice none 0 0, .slice none 0 0] 25)) (.slice (some ⟨wc.heap.size, 0, none⟩) 1 1) [([], [])]) := by
                refine ⟨_, 1, rfl, by simp, .inr ⟨wc.heap.size, 0, rfl, fun i hi => ?_⟩⟩
                obtain rfl : i = 0 := by simpa using hi
                exact ⟨_, _, by simp, by simp, sliceIs_nil _, sliceIs_nil _⟩
              go_wp2_with (at_len; refine wpList_model_len rfl _ rfl w.heap.size m T rfl HM2.out ?_)
              refine (HCk.out _ _ P0.out).mono ?_
              rintro e w9 ⟨rfl, hg9⟩
              go_wp2
              go_ret
              exact ⟨rfl, grown_trans hgw2 (grown_trans (World.grownBy_alloc _ _ _) hg9)⟩
end Go.Proofs.Ytdpoickggdgddac
