/-
  The walk of Digested of the document's answer: it is the program's digest.
-/
import Derived.Test.YtdpoickggdgddaaDoorRArith
import Derived.Test.YtdpoickggdgddaaDoorBase
namespace Go.Proofs.YtdpoickggdgddaaDoor
open Go.RowKit
/-- Numbers in memory. -/
def NumsAt (w : World) (g : Nat) (st : List (BitVec 64)) : Prop := ∀ i, i < st.length → w.cell? ⟨g, i, none⟩ = some (.int .i64 (I (st.getD i 0)))
theorem NumsAt.grown {w w' : World} {g : Nat} {st : List (BitVec 64)} {r : Option Nat} (h : NumsAt w g st) (hg : w.grownBy w' r) (hr : some g ≠ r) : NumsAt w' g st :=
  fun i hi => hg.cell (h i hi) hr
theorem OwnI.block {base : Nat} {w : World} {v : Value} {st : List (BitVec 64)} (h : OwnI base w v st) (hne : st ≠ []) : ∃ g cap, v = .slice (some ⟨g, 0, none⟩) st.length cap ∧ base ≤ g ∧ g < w.heap.size ∧ NumsAt w g st := by
  obtain ⟨h1, h2⟩ := h
  rcases h2 with ⟨rfl, h0⟩ | ⟨g, cap, cur, rfl, hb, hg, hn, hm, hs, ht⟩
  · exact absurd (List.eq_nil_of_length_eq_zero h0) hne
  · refine ⟨g, cap, rfl, hb, (Array.getElem?_eq_some_iff.1 hg).1, fun i hi => ?_⟩
    have hc : cur.toList[i]? = some (.int .i64 (I (st.getD i 0))) := by
      have e : (cur.toList.take (st.length * 1))[i]? = (ivals st)[i]? := by rw [ht]
      rw [List.getElem?_take, if_pos (by omega)] at e
      rw [e, ivals, List.getElem?_map, List.getElem?_eq_getElem hi]
      simp [hi]
    simp [World.cell?, hg]
    simpa using hc
set_option maxRecDepth 100000 in
set_option maxHeartbeats 2000000 in
theorem digested_core (w : World) (v : Value) (bs : List UInt8) (hv : SliceIs w v bs) (hl : bs.length ≤ 4000) (D : List UInt8) (HD : Kept (outN (spongeTo (padF bs) (bs.length / 136 + 1)) 32 = D)) :
    Calls Tryd.prog 35 #[v] w fun e w' => ∃ v', e = .returned v' ∧ SliceIs w' v' D ∧ w.grownBy w' none := by
  obtain ⟨a, cap, rfl, hc, hrest⟩ := hv
  go_enter Tryd.func35, Tryd.ntmps35
  go_wp2_with fail
  go_loopw [3, 4] (fun p i wr => ∃ m : Nat, m ≤ bs.length ∧ i = .int .i64 (m : Int) ∧ Own w.heap.size wr p (bs.take m) ∧ w.grownBy wr none) (fun _ i _ => bs.length - (intOf i).toNat)
  case atStart => exact ⟨0, by omega, rfl, own_nil _ _, grown_refl _ _⟩
  case round =>
    obtain ⟨m, hm, rfl, hown, hg⟩ := hrel
    by_cases hlt : m < bs.length
    · obtain ⟨b, o, rfl, hB⟩ : ∃ b o, a = some ⟨b, o, none⟩ ∧ BytesAt w b o bs := by
        rcases hrest with ⟨rfl, _⟩ | h
        · simp at hlt
        · exact h
      have c0 := (hB.grown hg (by simp)) m hlt
      have HT : Hid (bs.take (m + 1) = bs.take m ++ [bs.getD m 0]) := by
        show _ = _
        rw [List.take_succ_eq_append_getElem hlt]; simp [hlt]
      have hTl : (bs.take m).length ≤ 4000 := by simp; omega
      generalize bs.getD m 0 = x at *
      generalize bs.take m = T at *
      obtain ⟨pa, pcap, rfl⟩ := hown.shape
      have hsz := hg.size
      have HB : Hid (SliceIs (wr.alloc (.cells #[.int .u8 (x.toNat : Int)] 5)) (.slice (some ⟨wr.heap.size, 0, none⟩) 1 1) [x]) := one_slice _ _ _
      clear hB hrest
      have i1 : (m : Int) < (bs.length : Int) := by omega
      go_wp2_with (at_builtin; refine wpList_append_bytes rfl (.tmp 23) (.tmp 28) rfl w.heap.size (.slice pa T.length pcap) T rfl (hown.alloc _) (some ⟨wr.heap.size, 0, none⟩) 1 1 _ rfl HB.out (by omega) (by simp; omega) ?_; intro v1 w1 ho1 hg1)
      have hgw := grown_own (grown_alloc hg _) (hown.alloc _) hg1
      go_roundw
      case rel => exact ⟨m + 1, by omega, by go_num, by rw [HT.out]; exact ho1, hgw⟩
      case measure => simp [intOf]; omega
    · obtain rfl : m = bs.length := by omega
      rw [List.take_length] at hown
      obtain ⟨pa, pcap, rfl⟩ := hown.shape
      have hsz := hg.size
      have HB : Hid (SliceIs (wr.alloc (.cells #[.int .u8 (((6 : UInt8).toNat : Nat) : Int)] 5)) (.slice (some ⟨wr.heap.size, 0, none⟩) 1 1) [6]) := one_slice _ _ _
      have HB6 : Hid (SliceIs (wr.alloc (.cells #[.int .u8 6] 5)) (.slice (some ⟨wr.heap.size, 0, none⟩) 1 1) [6]) := HB
      clear HB hrest hlt
      go_wp2_with (at_builtin; refine wpList_append_bytes rfl (.tmp 30) (.tmp 31) rfl w.heap.size (.slice pa bs.length pcap) bs rfl (hown.alloc _) (some ⟨wr.heap.size, 0, none⟩) 1 1 _ rfl HB6.out (by omega) (by simp; omega) ?_; intro v1 w1 ho1 hg1)
      have hg1' := grown_own (grown_alloc hg _) (hown.alloc _) hg1
      clear hg hg1 hown HB6 hsz
      have hN : bs.length + 1 ≤ padLen bs.length := by unfold padLen; omega
      have hNm : padLen bs.length % 136 = 0 := by unfold padLen; omega
      have hNd : padLen bs.length ≤ bs.length + 136 := by unfold padLen; omega
      have hN2 : padLen bs.length = 136 * (bs.length / 136 + 1) := by unfold padLen; omega
      have HPM : Hid (padMark bs = bs ++ [6] ++ zeros (padLen bs.length - (bs.length + 1))) := padMark_eq bs
      have HPF : Hid (padF bs = (padMark bs).set (padLen bs.length - 1) ((padMark bs).getD (padLen bs.length - 1) 0 ||| 128)) := rfl
      have HPL : Hid ((padMark bs).length = padLen bs.length) := padMark_len bs
      have hlast := padMark_last bs
      have hFl := padF_len bs
      rw [hN2] at hFl
      have HFL : Hid ((padF bs).length = 136 * (bs.length / 136 + 1)) := hFl
      clear hFl
      have hM : bs.length / 136 + 1 ≤ 30 := by omega
      have HN2 : Hid (padLen bs.length = 136 * (bs.length / 136 + 1)) := hN2
      clear hN2
      go_loopw [3] (fun p wr => ∃ j : Nat, bs.length + 1 + j ≤ padLen bs.length ∧ Own w.heap.size wr p (bs ++ [6] ++ zeros j) ∧ w.grownBy wr none) (fun p _ => padLen bs.length - sliceLen p)
      case atStart => exact ⟨0, by omega, by simpa [zeros] using ho1, hg1'⟩
      case round =>
        clear ho1 hg1'
        obtain ⟨j, hj, hown, hg⟩ := hrel
        have hTl : (bs ++ [6] ++ zeros j).length = bs.length + 1 + j := by simp [zeros]; omega
        have HTS : Hid (bs ++ [6] ++ zeros (j + 1) = bs ++ [6] ++ zeros j ++ [0]) := by show _ = _; simp [zeros, List.replicate_succ']
        have HTL : Hid ((bs ++ [6] ++ zeros j).length = bs.length + 1 + j) := hTl
        by_cases hlt : bs.length + 1 + j < padLen bs.length
        · obtain ⟨qa, qcap, rfl⟩ := hown.shape
          generalize bs ++ [6] ++ zeros j = T at *
          have tne : ((T.length : Int) % 136 != 0) = true := by rw [bne_iff_ne]; omega
          have hsz := hg.size
          have HB0 : Hid (SliceIs (wr.alloc (.cells #[.int .u8 0] 5)) (.slice (some ⟨wr.heap.size, 0, none⟩) 1 1) [0]) := one_slice _ 0 _
          have hTm : T.length ≤ 5000 := by omega
          clear hTl HPM HPF HPL hlast HFL hM HN2
          go_wp2_with (at_builtin; refine wpList_append_bytes rfl (.tmp 37) (.tmp 38) rfl w.heap.size (.slice qa T.length qcap) T rfl (hown.alloc _) (some ⟨wr.heap.size, 0, none⟩) 1 1 _ rfl HB0.out (by omega) (by simp; omega) ?_; intro v1 w1 ho1 hg1)
          have hgw := grown_own (grown_alloc hg _) (hown.alloc _) hg1
          obtain ⟨va, vcap, rfl⟩ := ho1.shape
          go_roundw
          case rel => exact ⟨j + 1, by omega, by rw [HTS.out]; exact ho1, hgw⟩
          case measure => have := HTL.out; simp [sliceLen]; omega
        · have hje : j = padLen bs.length - (bs.length + 1) := by omega
          have HTM : Hid (bs ++ [6] ++ zeros j = padMark bs) := by show _ = _; rw [HPM.out, hje]
          rw [HTM.out] at hown
          clear HTM HTS HTL hTl HPM
          generalize padMark bs = PM at *
          generalize padF bs = PF at *
          generalize bs.length / 136 + 1 = M at *
          generalize padLen bs.length = N at *
          have hPl : PM.length = N := HPL.out
          obtain ⟨g, gcap, rfl, hbg, hgl, hBg, hfg⟩ := hown.block (by intro h; rw [h] at hPl; simp at hPl; omega)
          rw [hPl] at hown ⊢
          have c0 := hBg (N - 1) (by omega)
          have f0 := hfg (N - 1)
          rw [Nat.zero_add] at c0
          generalize hx : PM.getD (N - 1) 0 = x at *
          have HX : Hid (PM.getD (N - 1) 0 = x) := hx
          have hxb : (x.toNat : Int) ≤ 6 := by omega
          have HNM : Hid (N = 136 * M) := HN2
          clear hx hPl hje hlt hj hBg hfg HN2
          have teq : ((N : Int) % 136 != 0) = false := by rw [bne_eq_false_iff_eq]; omega
          have i1 : (N : Int) - 1 < (N : Int) := by omega
          have i2 : (0 : Int) ≤ (N : Int) - 1 := by omega
          have e1 : ((N : Int) - 1).toNat = N - 1 := by omega
          have iN : (N : Int) ≤ 5000 := by omega
          go_upto_region 10 with fail
          have HO1 : Hid (Own w.heap.size (wr.setCell ⟨g, N - 1, none⟩ (.int .u8 ((x.toNat : Int) + 128))) (.slice (some ⟨g, 0, none⟩) N gcap) PF) := by
            show Own _ _ _ _
            rw [HPF.out, add128 x (by omega)]
            exact hown.set _ _
          have hg1 := grown_setNew hg g hbg (N - 1) (.int .u8 ((x.toNat : Int) + 128))
          generalize wr.setCell ⟨g, N - 1, none⟩ (.int .u8 ((x.toNat : Int) + 128)) = W1 at *
          clear c0 f0 HX HPF hown hg hxb hlast
          obtain ⟨g', gc', eg, _, hgl1, hBg, _⟩ := HO1.out.block (by intro h; have := HFL.out; rw [h] at this; simp at this; have := HNM.out; omega)
          simp only [Value.slice.injEq, Option.some.injEq, Addr.mk.injEq, and_true] at eg
          obtain ⟨rfl, _, rfl⟩ := eg
          clear HO1
          go_wp2_with fail
          refine (numbers_any W1).mono ?_
          rintro e W2 ⟨v5, rfl, ho5, hg5⟩
          obtain ⟨ng, ncap, rfl, hng, hngl, hNu⟩ := ho5.block (by decide)
          have hg2 := grown_trans hg1 hg5
          have hB2 := hBg.grown hg5 (by simp)
          have hgl2 : g < W2.heap.size := Nat.lt_of_lt_of_le hgl1 hg5.size
          clear hg1 hg5 hBg ho5 hgl1 hgl
          have hmk := make25
          have hl24 : roundNumbersT.length = 24 := rfl
          rw [hl24]
          go_wp2_with fail
          have hs3 := ILanes.new (n := 25) W2 3 (outL fun _ => 0) (outL_len _)
          have hg3 := grown_alloc hg2 (.cells (icellsOf (outL fun _ => 0)) 3)
          have hB3 := hB2.grown (World.grownBy_alloc W2 (.cells (icellsOf (outL fun _ => 0)) 3) none) (by simp)
          have hN3 := hNu.grown (World.grownBy_alloc W2 (.cells (icellsOf (outL fun _ => 0)) 3) none) (by simp)
          have hsz3 : (W2.alloc (.cells (icellsOf (outL fun _ => 0)) 3)).heap.size = W2.heap.size + 1 := by simp
          have hw2 := hg2.size
          generalize W2.alloc (.cells (icellsOf (outL fun _ => 0)) 3) = W3 at *
          have HZ : Kept (spongeTo PF 0 = outL fun _ => 0) := fun _ => rfl
          clear hmk hB2 hNu hg2 hl24
          go_loopw [6, 7] (fun sv fv wr => ∃ k sb : Nat, k ≤ M ∧ fv = .int .i64 ((136 * k : Nat) : Int) ∧ sv = .slice (some ⟨sb, 0, none⟩) 25 25 ∧ ILanes 25 wr sb (spongeTo PF k) ∧ sb ≠ g ∧ sb ≠ ng ∧ w.heap.size ≤ sb ∧ BytesAt wr g 0 PF ∧ NumsAt wr ng roundNumbersT ∧ g < wr.heap.size ∧ ng < wr.heap.size ∧ w.grownBy wr none) (fun _ f _ => N - (intOf f).toNat)
          case atStart => exact ⟨0, W2.heap.size, by omega, rfl, rfl, by rw [HZ.out]; exact hs3, by omega, by omega, hw2, hB3, hN3, by omega, by omega, hg3⟩
          case round =>
            clear hs3 hg3 hB3 hN3 hsz3 HZ hgl2 hngl hng hw2
            obtain ⟨k, sb, hk, rfl, rfl, hst, hsg, hsn, hsw, hB, hNu, hgl, hngl, hg⟩ := hrel
            by_cases hlk : k < M
            · have HFM := HFL.out
              have tlt : ((136 * k : Nat) : Int) < (N : Int) := by have := HNM.out; omega
              have HK : Hid (136 * k + 136 ≤ PF.length) := by show _ ≤ _; omega
              have HSS : Kept (spongeTo PF (k + 1) = roundsTo (absorbTo (blockAt PF k) (spongeTo PF k) 17) 24) := fun _ => rfl
              generalize spongeTo PF k = S0 at *
              have hf136 : 136 * k ≤ 4080 := by omega
              have HF : Hid (∃ f, f = 136 * k) := ⟨_, rfl⟩
              clear HF HFM
              generalize hfk : 136 * k = fr at *
              have HFK : Hid (136 * k = fr) := hfk
              clear hfk
              have tlt2 : fr < PF.length := by have := HK.out; omega
              go_wp2_with fail
              go_loopw [8] (fun iv wr => ∃ i : Nat, i ≤ 17 ∧ iv = .int .i64 (i : Int) ∧ ILanes 25 wr sb (absorbTo (blockAt PF k) S0 i) ∧ BytesAt wr g 0 PF ∧ NumsAt wr ng roundNumbersT ∧ g < wr.heap.size ∧ ng < wr.heap.size ∧ w.grownBy wr none) (fun iv _ => 17 - (intOf iv).toNat)
              case atStart => exact ⟨0, by omega, rfl, hst, hB, hNu, hgl, hngl, hg⟩
              case round =>
                clear hst hB hNu hgl hngl hg
                obtain ⟨i, hi, rfl, hst, hB, hNu, hgl, hngl, hg⟩ := hrel
                by_cases hli : i < 17
                · go_wp2_with fail
                  go_loop [9, 10] (fun lv kv => ∃ j : Nat, j ≤ 8 ∧ kv = .int .i64 (7 - (j : Int)) ∧ lv = .int .i64 (I (hornerTo PF (fr + 8 * i) j))) (fun _ kv => (intOf kv + 1).toNat)
                  case atStart => exact ⟨0, by omega, by simp, by rw [hornerTo, I_zero]⟩
                  case round =>
                    obtain ⟨j, hj, rfl, rfl⟩ := hrel
                    by_cases hlj : j < 8
                    · have c0 := hB (fr + 8 * i + (7 - j)) (by have := HK.out; omega)
                      rw [Nat.zero_add] at c0
                      have HH : Kept (hornerTo PF (fr + 8 * i) (j + 1) = hornerTo PF (fr + 8 * i) j * 256 + Z (PF.getD (fr + 8 * i + (7 - j)) 0)) := fun _ => rfl
                      generalize hornerTo PF (fr + 8 * i) j = L at *
                      generalize PF.getD (fr + 8 * i + (7 - j)) 0 = x at *
                      have HL : Hid (wrap64 (wrap64 (I L * 256) + wrap64 (x.toNat : Int)) = I (L * 256 + Z x)) := by
                        show _ = _
                        have h1 : (256 : Int) = I 256 := by decide
                        have h2 : wrap64 (x.toNat : Int) = I (Z x) := by rw [wrap64_eq, wrap_eq_ofInt, BitVec.ofInt_natCast]; rfl
                        rw [h2, h1, wrap64_eq, wrap64_eq, wrap_mul_I, wrap_add_I]
                      have e1 : ((fr : Int) + 8 * (i : Int) + (7 - (j : Int))).toNat = fr + 8 * i + (7 - j) := by omega
                      have i1 : (fr : Int) + 8 * (i : Int) + (7 - (j : Int)) < (N : Int) := by have := HK.out; have := HFL.out; have := HNM.out; omega
                      have i0 : (0 : Int) ≤ (fr : Int) + 8 * (i : Int) + (7 - (j : Int)) := by omega
                      have tge : (0 : Int) ≤ 7 - (j : Int) := by omega
                      generalize I L = LL at *
                      go_wp2_with fail
                      go_round
                      case rel => exact ⟨j + 1, by omega, by go_num, by rw [HL.out, HH.out]⟩
                      case measure => simp [intOf]; omega
                    · obtain rfl : j = 8 := by omega
                      have hcs := hst.cell i (by omega)
                      have hfs := hst.frozen i
                      have HA : Kept (absorbTo (blockAt PF k) S0 (i + 1) = (absorbTo (blockAt PF k) S0 i).set i ((absorbTo (blockAt PF k) S0 i).getD i 0 ^^^ hornerTo PF (fr + 8 * i) 8)) := fun _ => by
                        rw [absorbTo, laneAt_block PF k i (by omega), HFK.out, ← horner_eq]
                      generalize hornerTo PF (fr + 8 * i) 8 = L at *
                      generalize (absorbTo (blockAt PF k) S0 i).getD i 0 = sx at *
                      generalize absorbTo (blockAt PF k) S0 i = AS at *
                      have tlt7 : ¬ (0 : Int) ≤ 7 - ((8 : Nat) : Int) := by omega
                      have tl7 : (7 : Int) - ((8 : Nat) : Int) < 0 := by omega
                      have i25 : (i : Int) < 25 := by omega
                      go_wp2_with fail
                      go_roundw
                      case rel =>
                        rw [bits_xor_I]
                        have hst2 : ILanes 25 (wr.setCell ⟨sb, i, none⟩ (.int .i64 (I (sx ^^^ L)))) sb (absorbTo (blockAt PF k) S0 (i + 1)) := by rw [HA.out]; exact hst.set i _
                        have hgs : wr.grownBy (wr.setCell ⟨sb, i, none⟩ (.int .i64 (I (sx ^^^ L)))) (some sb) := grown_set (grown_refl _ _) _ _
                        have hB2 := hB.grown hgs (by simp; omega)
                        have hN2 := hNu.grown hgs (by simp; omega)
                        have hg2 := grown_setNew hg sb hsw i (.int .i64 (I (sx ^^^ L)))
                        have hz := hgs.size
                        first
                          | exact ⟨i + 1, by omega, by go_num, hst2, hB2, hN2, by omega, by omega, hg2⟩
                          | ((repeat apply Exists.intro); refine ⟨⟨i + 1, by omega, ?_, hst2, hB2, hN2, by omega, by omega, hg2⟩, rfl⟩; go_num)
                      case measure => simp [intOf]; omega
                · obtain rfl : i = 17 := by omega
                  generalize hA17 : absorbTo (blockAt PF k) S0 17 = A17 at *
                  clear hA17
                  clear hi hli
                  go_wp2_with fail
                  go_loopw [6, 11] (fun sv rv wr => ∃ r sb : Nat, r ≤ 24 ∧ rv = .int .i64 (r : Int) ∧ sv = .slice (some ⟨sb, 0, none⟩) 25 25 ∧ ILanes 25 wr sb (roundsTo A17 r) ∧ (roundsTo A17 r).length = 25 ∧ sb ≠ g ∧ sb ≠ ng ∧ w.heap.size ≤ sb ∧ BytesAt wr g 0 PF ∧ NumsAt wr ng roundNumbersT ∧ g < wr.heap.size ∧ ng < wr.heap.size ∧ w.grownBy wr none) (fun _ rv _ => 24 - (intOf rv).toNat)
                  case atStart => exact ⟨0, sb, by omega, rfl, rfl, hst, hst.len, hsg, hsn, hsw, hB, hNu, hgl, hngl, hg⟩
                  case round =>
                    clear hst hsg hsn hsw hB hNu hgl hngl hg
                    obtain ⟨r, sb, hr, rfl, rfl, hst, hrl, hsg, hsn, hsw, hB, hNu, hgl, hngl, hg⟩ := hrel
                    by_cases hlr : r < 24
                    · have HRS : Kept (roundsTo A17 (r + 1) = roundF (roundsTo A17 r) (roundNumbersT.getD r 0)) := fun _ => rfl
                      generalize roundsTo A17 r = R0 at *
                      go_wp2_with fail
                      refine (parities_any _ sb R0 hst).mono ?_
                      rintro e V1 ⟨rfl, h1, q1⟩
                      go_wp2_with fail
                      refine (moved_any _ _ _ h1).mono ?_
                      rintro e V2 ⟨rfl, h2, q2⟩
                      go_wp2_with fail
                      refine (rowsR_any _ _ _ h2).mono ?_
                      rintro e V3 ⟨rfl, h3, q3⟩
                      have eR : outL (rowF (movedTo (outL (parF R0)) 24)) = rowsTo (moveTo (addTo (dOf (colsTo R0 5)) R0 5) 24).1 5 := by
                        rw [par_eq R0 hrl, mov_eq _ (by rw [addTo_len]; exact hrl), row_eq _ (by rw [moveTo_len, addTo_len]; exact hrl)]
                      rw [eR] at h3
                      have HRF : Kept (roundsTo A17 (r + 1) = (rowsTo (moveTo (addTo (dOf (colsTo R0 5)) R0 5) 24).1 5).set 0 ((rowsTo (moveTo (addTo (dOf (colsTo R0 5)) R0 5) 24).1 5).getD 0 0 ^^^ roundNumbersT.getD r 0)) := fun _ => by rw [HRS.out]; rfl
                      clear eR h1 h2 HRS hst
                      generalize rowsTo (moveTo (addTo (dOf (colsTo R0 5)) R0 5) 24).1 5 = X3 at *
                      have q13 := grown_trans q1 (grown_trans q2 q3)
                      have hB3 := hB.grown q13 (by simp)
                      have hN3 := hNu.grown q13 (by simp)
                      have hg3 := grown_trans hg q13
                      have z1 := q1.size
                      have z2 := q2.size
                      have z3 := q3.size
                      have zg := hg.size
                      clear q1 q2 q3 q13 hB hNu hg
                      have hlt3 := h3.lt
                      generalize V2.heap.size = tb at *
                      have c0 := h3.cell 0 (by omega)
                      have f0 := h3.frozen 0
                      have n0 := hN3 r hlr
                      generalize roundNumbersT.getD r 0 = rn at *
                      generalize X3.getD 0 0 = x0 at *
                      have ir : (r : Int) < 24 := by omega
                      have HB3 : Hid (BytesAt V3 g 0 PF) := hB3
                      have HN3 : Hid (NumsAt V3 ng roundNumbersT) := hN3
                      clear hB3 hN3
                      go_wp2_with fail
                      go_region
                      go_wp2_with fail
                      go_roundw
                      case rel =>
                        rw [bits_xor_I]
                        have hst2 : ILanes 25 (V3.setCell ⟨tb, 0, none⟩ (.int .i64 (I (x0 ^^^ rn)))).drew tb (roundsTo A17 (r + 1)) := by rw [HRF.out]; exact (h3.set 0 _).drew
                        have hgs : V3.grownBy (V3.setCell ⟨tb, 0, none⟩ (.int .i64 (I (x0 ^^^ rn)))).drew (some tb) := grown_drew (grown_set (grown_refl _ _) _ _)
                        have hB2 := HB3.out.grown hgs (by simp; omega)
                        have hN2 := HN3.out.grown hgs (by simp; omega)
                        have hg2 := grown_drew (grown_setNew hg3 tb (by omega) 0 (.int .i64 (I (x0 ^^^ rn))))
                        have hz := hgs.size
                        first
                          | exact ⟨r + 1, tb, by omega, by go_num, rfl, hst2, hst2.len, by omega, by omega, by omega, hB2, hN2, by omega, by omega, hg2⟩
                          | ((repeat apply Exists.intro); refine ⟨⟨r + 1, tb, by omega, ?_, rfl, hst2, hst2.len, by omega, by omega, by omega, hB2, hN2, by omega, by omega, hg2⟩, rfl⟩; go_num)
                      case measure => simp [intOf]; omega
                    · obtain rfl : r = 24 := by omega
                      go_wp2_with fail
                      go_roundw
                      case rel =>
                        have hst2 : ILanes 25 wr sb (spongeTo PF (k + 1)) := by rw [HSS.out]; exact hst
                        have ef : (fr : Int) + 136 = ((136 * (k + 1) : Nat) : Int) := by have := HFK.out; omega
                        first
                          | exact ⟨k + 1, sb, by omega, by rw [ef], rfl, hst2, hsg, hsn, hsw, hB, hNu, hgl, hngl, hg⟩
                          | ((repeat apply Exists.intro); refine ⟨⟨k + 1, sb, by omega, ?_, rfl, hst2, hsg, hsn, hsw, hB, hNu, hgl, hngl, hg⟩, rfl⟩; rw [ef])
                      case measure => simp [intOf]; omega
            · obtain rfl : k = M := by omega
              generalize spongeTo PF k = SP at *
              have tnl : ¬ ((136 * k : Nat) : Int) < (N : Int) := by have := HNM.out; omega
              clear hB hNu hsg hsn hgl hngl
              go_wp2_with fail
              generalize wr = W0 at *
              go_loopw [12, 13] (fun ov iv wr => ∃ m : Nat, m ≤ 4 ∧ iv = .int .i64 (m : Int) ∧ Own W0.heap.size wr ov (outN SP (8 * m)) ∧ W0.grownBy wr none) (fun _ iv _ => 4 - (intOf iv).toNat)
              case atStart => exact ⟨0, by omega, rfl, own_nil _ _, grown_refl _ _⟩
              case round =>
                obtain ⟨m, hm4, rfl, hown, hgr⟩ := hrel
                by_cases hlm : m < 4
                · have c0 := (hst.grown hgr (by simp)).cell m (by omega)
                  generalize hsm : SP.getD m 0 = sm at *
                  have HSM : Hid (SP.getD m 0 = sm) := hsm
                  clear hsm
                  have im : (m : Int) < 25 := by omega
                  have im4 : (m : Int) < 4 := by omega
                  go_wp2_with fail
                  clear c0
                  go_loopw [12, 14, 15] (fun ov lv kv wr => ∃ j : Nat, j ≤ 8 ∧ kv = .int .i64 (j : Int) ∧ lv = .int .i64 (I (sm.sshiftRight (8 * j))) ∧ Own W0.heap.size wr ov (outN SP (8 * m + j)) ∧ W0.grownBy wr none) (fun _ _ kv _ => 8 - (intOf kv).toNat)
                  case atStart => exact ⟨0, by omega, rfl, by simp, hown, hgr⟩
                  case round =>
                    clear hown hgr
                    obtain ⟨j, hj, rfl, rfl, hown, hgr⟩ := hrel
                    obtain ⟨oa, ocap, rfl⟩ := hown.shape
                    by_cases hlj : j < 8
                    · have HON : Hid (outN SP (8 * m + (j + 1)) = outN SP (8 * m + j) ++ [UInt8.ofNat ((sm.sshiftRight (8 * j)).toNat % 256)]) := by
                        show _ = _
                        rw [← HSM.out, out_byte SP m j hlj, ← Nat.add_assoc, outN_succ]
                      have HSS2 : Hid (sm.sshiftRight (8 * (j + 1)) = (sm.sshiftRight (8 * j)).sshiftRight 8) := by
                        show _ = _
                        rw [← BitVec.sshiftRight_add]; rfl
                      have hol : (outN SP (8 * m + j)).length ≤ 100 := by rw [outN_len]; omega
                      generalize outN SP (8 * m + j) = O at *
                      generalize sm.sshiftRight (8 * j) = L at *
                      have hlow := low_I L
                      have hb := next_lo L
                      have HNX : Hid ((I L - ((L.toNat % 256 : Nat) : Int)).tdiv 256 = I (L.sshiftRight 8)) := next_I L
                      have hq : L.toNat % 256 < 256 := Nat.mod_lt _ (by decide)
                      have b1 := I_lo L
                      have b2 := I_hi L
                      generalize L.toNat % 256 = Q at *
                      have hsz := hgr.size
                      have HB : Hid (SliceIs (wr.alloc (.cells #[.int .u8 ((Q : Nat) : Int)] 5)) (.slice (some ⟨wr.heap.size, 0, none⟩) 1 1) [UInt8.ofNat Q]) := by
                        have e : ((Q : Nat) : Int) = ((UInt8.ofNat Q).toNat : Int) := by simp; omega
                        rw [e]
                        exact one_slice _ _ _
                      go_wp2_with (at_builtin; refine wpList_append_bytes rfl (.tmp 124) (.tmp 127) rfl W0.heap.size (.slice oa O.length ocap) O rfl (hown.alloc _) (some ⟨wr.heap.size, 0, none⟩) 1 1 _ rfl HB.out (by omega) (by simp; omega) ?_; intro v1 w1 ho1 hg1)
                      have hgw := grown_own (grown_alloc hgr _) (hown.alloc _) hg1
                      go_roundw
                      case rel => exact ⟨j + 1, by omega, by go_num, by rw [HNX.out, HSS2.out], by rw [HON.out]; exact ho1, hgw⟩
                      case measure => simp [intOf]; omega
                    · obtain rfl : j = 8 := by omega
                      go_wp2_with fail
                      go_roundw
                      case rel =>
                        have ho2 : Own W0.heap.size wr (.slice oa (outN SP (8 * m + 8)).length ocap) (outN SP (8 * (m + 1))) := hown
                        first
                          | exact ⟨m + 1, by omega, by go_num, ho2, hgr⟩
                          | ((repeat apply Exists.intro); refine ⟨⟨m + 1, by omega, ?_, ho2, hgr⟩, rfl⟩; go_num)
                      case measure => simp [intOf]; omega
                · obtain rfl : m = 4 := by omega
                  obtain ⟨oa, ocap, rfl⟩ := hown.shape
                  go_wp2
                  go_ret
                  have hD := HD.out
                  have hs := hown.slice
                  rw [show 8 * 4 = 32 from rfl, hD] at hs
                  refine ⟨_, rfl, ?_, grown_trans hg hgr⟩
                  rw [show 8 * 4 = 32 from rfl, hD]
                  exact hs
theorem digested_any (w : World) (v : Value) (bs : List UInt8) (hv : SliceIs w v bs) (hl : bs.length ≤ 4000) :
    Calls Tryd.prog 35 #[v] w fun e w' => ∃ v', e = .returned v' ∧ SliceIs w' v' (sumF bs) ∧ w.grownBy w' none :=
  digested_core w v bs hv hl (sumF bs) fun _ => (outTo_all _).symm
end Go.Proofs.YtdpoickggdgddaaDoor
