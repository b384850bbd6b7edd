/-
  Texts of this proof, joined: RDig, RJoin, RParts, RRoot, RTree, RFault, RRootOf.
-/
import Derived.Test.YtdpoickggdgddaaDoorPart6
import Derived.Test.YtdpoickggdgddaaDoorPart1
import Derived.Test.YtdpoickggdgddaaDoorPart5
import Derived.Test.YtdpoickggdgddaaDoorPart3
/-
  The walk of Digested of the document's answer: it is the program's digest.
-/
namespace Go.Proofs.YtdpoickggdgddaaDoor
open Go.RowKit
/-- Numbers in memory. -/
def NumsAt (w : World) (g : Nat) (st : List (BitVec 64)) : Prop := ∀ i, i < st.length → w.cell? ⟨g, i, none⟩ = some (.int .i64 (I (st.getD i 0)))
theorem NumsAt.grown {w w' : World} {g : Nat} {st : List (BitVec 64)} {r : Option Nat} (h : NumsAt w g st) (hg : w.grownBy w' r) (hr : some g ≠ r) : NumsAt w' g st :=
  fun i hi => hg.cell (h i hi) hr
theorem OwnI.block {base : Nat} {w : World} {v : Value} {st : List (BitVec 64)} (h : OwnI base w v st) (hne : st ≠ []) : ∃ g cap, v = .slice (some ⟨g, 0, none⟩) st.length cap ∧ base ≤ g ∧ g < w.heap.size ∧ NumsAt w g st := by
  obtain ⟨h1, h2⟩ := h
  rcases h2 with ⟨rfl, h0⟩ | ⟨g, cap, cur, rfl, hb, hg, hn, hm, hs, ht⟩
  · exact absurd (List.eq_nil_of_length_eq_zero h0) hne
  · refine ⟨g, cap, rfl, hb, (Array.getElem?_eq_some_iff.1 hg).1, fun i hi => ?_⟩
    have hc : cur.toList[i]? = some (.int .i64 (I (st.getD i 0))) := by
      have e : (cur.toList.take (st.length * 1))[i]? = (ivals st)[i]? := by rw [ht]
      rw [List.getElem?_take, if_pos (by omega)] at e
      rw [e, ivals, List.getElem?_map, List.getElem?_eq_getElem hi]
      simp [hi]
    simp [World.cell?, hg]
    simpa using hc
set_option maxRecDepth 100000 in
set_option maxHeartbeats 2000000 in
theorem digested_core (w : World) (v : Value) (bs : List UInt8) (hv : SliceIs w v bs) (hl : bs.length ≤ 4000) (D : List UInt8) (HD : Kept (outN (spongeTo (padF bs) (bs.length / 136 + 1)) 32 = D)) :
    Calls Tryd.prog 35 #[v] w fun e w' => ∃ v', e = .returned v' ∧ SliceIs w' v' D ∧ w.grownBy w' none := by
  obtain ⟨a, cap, rfl, hc, hrest⟩ := hv
  go_enter Tryd.func35, Tryd.ntmps35
  go_wp2_with fail
  go_loopw [3, 4] (fun p i wr => ∃ m : Nat, m ≤ bs.length ∧ i = .int .i64 (m : Int) ∧ Own w.heap.size wr p (bs.take m) ∧ w.grownBy wr none) (fun _ i _ => bs.length - (intOf i).toNat)
  case atStart => exact ⟨0, by omega, rfl, own_nil _ _, grown_refl _ _⟩
  case round =>
    obtain ⟨m, hm, rfl, hown, hg⟩ := hrel
    by_cases hlt : m < bs.length
    · obtain ⟨b, o, rfl, hB⟩ : ∃ b o, a = some ⟨b, o, none⟩ ∧ BytesAt w b o bs := by
        rcases hrest with ⟨rfl, _⟩ | h
        · simp at hlt
        · exact h
      have c0 := (hB.grown hg (by simp)) m hlt
      have HT : Hid (bs.take (m + 1) = bs.take m ++ [bs.getD m 0]) := by
        show _ = _
        rw [List.take_succ_eq_append_getElem hlt]; simp [hlt]
      have hTl : (bs.take m).length ≤ 4000 := by simp; omega
      generalize bs.getD m 0 = x at *
      generalize bs.take m = T at *
      obtain ⟨pa, pcap, rfl⟩ := hown.shape
      have hsz := hg.size
      have HB : Hid (SliceIs (wr.alloc (.cells #[.int .u8 (x.toNat : Int)] 5)) (.slice (some ⟨wr.heap.size, 0, none⟩) 1 1) [x]) := one_slice _ _ _
      clear hB hrest
      have i1 : (m : Int) < (bs.length : Int) := by omega
      go_wp2_with (at_builtin; refine wpList_append_bytes rfl (.tmp 23) (.tmp 28) rfl w.heap.size (.slice pa T.length pcap) T rfl (hown.alloc _) (some ⟨wr.heap.size, 0, none⟩) 1 1 _ rfl HB.out (by omega) (by simp; omega) ?_; intro v1 w1 ho1 hg1)
      have hgw := grown_own (grown_alloc hg _) (hown.alloc _) hg1
      go_roundw
      case rel => exact ⟨m + 1, by omega, by go_num, by rw [HT.out]; exact ho1, hgw⟩
      case measure => simp [intOf]; omega
    · obtain rfl : m = bs.length := by omega
      rw [List.take_length] at hown
      obtain ⟨pa, pcap, rfl⟩ := hown.shape
      have hsz := hg.size
      have HB : Hid (SliceIs (wr.alloc (.cells #[.int .u8 (((6 : UInt8).toNat : Nat) : Int)] 5)) (.slice (some ⟨wr.heap.size, 0, none⟩) 1 1) [6]) := one_slice _ _ _
      have HB6 : Hid (SliceIs (wr.alloc (.cells #[.int .u8 6] 5)) (.slice (some ⟨wr.heap.size, 0, none⟩) 1 1) [6]) := HB
      clear HB hrest hlt
      go_wp2_with (at_builtin; refine wpList_append_bytes rfl (.tmp 30) (.tmp 31) rfl w.heap.size (.slice pa bs.length pcap) bs rfl (hown.alloc _) (some ⟨wr.heap.size, 0, none⟩) 1 1 _ rfl HB6.out (by omega) (by simp; omega) ?_; intro v1 w1 ho1 hg1)
      have hg1' := grown_own (grown_alloc hg _) (hown.alloc _) hg1
      clear hg hg1 hown HB6 hsz
      have hN : bs.length + 1 ≤ padLen bs.length := by unfold padLen; omega
      have hNm : padLen bs.length % 136 = 0 := by unfold padLen; omega
      have hNd : padLen bs.length ≤ bs.length + 136 := by unfold padLen; omega
      have hN2 : padLen bs.length = 136 * (bs.length / 136 + 1) := by unfold padLen; omega
      have HPM : Hid (padMark bs = bs ++ [6] ++ zeros (padLen bs.length - (bs.length + 1))) := padMark_eq bs
      have HPF : Hid (padF bs = (padMark bs).set (padLen bs.length - 1) ((padMark bs).getD (padLen bs.length - 1) 0 ||| 128)) := rfl
      have HPL : Hid ((padMark bs).length = padLen bs.length) := padMark_len bs
      have hlast := padMark_last bs
      have hFl := padF_len bs
      rw [hN2] at hFl
      have HFL : Hid ((padF bs).length = 136 * (bs.length / 136 + 1)) := hFl
      clear hFl
      have hM : bs.length / 136 + 1 ≤ 30 := by omega
      have HN2 : Hid (padLen bs.length = 136 * (bs.length / 136 + 1)) := hN2
      clear hN2
      go_loopw [3] (fun p wr => ∃ j : Nat, bs.length + 1 + j ≤ padLen bs.length ∧ Own w.heap.size wr p (bs ++ [6] ++ zeros j) ∧ w.grownBy wr none) (fun p _ => padLen bs.length - sliceLen p)
      case atStart => exact ⟨0, by omega, by simpa [zeros] using ho1, hg1'⟩
      case round =>
        clear ho1 hg1'
        obtain ⟨j, hj, hown, hg⟩ := hrel
        have hTl : (bs ++ [6] ++ zeros j).length = bs.length + 1 + j := by simp [zeros]; omega
        have HTS : Hid (bs ++ [6] ++ zeros (j + 1) = bs ++ [6] ++ zeros j ++ [0]) := by show _ = _; simp [zeros, List.replicate_succ']
        have HTL : Hid ((bs ++ [6] ++ zeros j).length = bs.length + 1 + j) := hTl
        by_cases hlt : bs.length + 1 + j < padLen bs.length
        · obtain ⟨qa, qcap, rfl⟩ := hown.shape
          generalize bs ++ [6] ++ zeros j = T at *
          have tne : ((T.length : Int) % 136 != 0) = true := by rw [bne_iff_ne]; omega
          have hsz := hg.size
          have HB0 : Hid (SliceIs (wr.alloc (.cells #[.int .u8 0] 5)) (.slice (some ⟨wr.heap.size, 0, none⟩) 1 1) [0]) := one_slice _ 0 _
          have hTm : T.length ≤ 5000 := by omega
          clear hTl HPM HPF HPL hlast HFL hM HN2
          go_wp2_with (at_builtin; refine wpList_append_bytes rfl (.tmp 37) (.tmp 38) rfl w.heap.size (.slice qa T.length qcap) T rfl (hown.alloc _) (some ⟨wr.heap.size, 0, none⟩) 1 1 _ rfl HB0.out (by omega) (by simp; omega) ?_; intro v1 w1 ho1 hg1)
          have hgw := grown_own (grown_alloc hg _) (hown.alloc _) hg1
          obtain ⟨va, vcap, rfl⟩ := ho1.shape
          go_roundw
          case rel => exact ⟨j + 1, by omega, by rw [HTS.out]; exact ho1, hgw⟩
          case measure => have := HTL.out; simp [sliceLen]; omega
        · have hje : j = padLen bs.length - (bs.length + 1) := by omega
          have HTM : Hid (bs ++ [6] ++ zeros j = padMark bs) := by show _ = _; rw [HPM.out, hje]
          rw [HTM.out] at hown
          clear HTM HTS HTL hTl HPM
          generalize padMark bs = PM at *
          generalize padF bs = PF at *
          generalize bs.length / 136 + 1 = M at *
          generalize padLen bs.length = N at *
          have hPl : PM.length = N := HPL.out
          obtain ⟨g, gcap, rfl, hbg, hgl, hBg, hfg⟩ := hown.block (by intro h; rw [h] at hPl; simp at hPl; omega)
          rw [hPl] at hown ⊢
          have c0 := hBg (N - 1) (by omega)
          have f0 := hfg (N - 1)
          rw [Nat.zero_add] at c0
          generalize hx : PM.getD (N - 1) 0 = x at *
          have HX : Hid (PM.getD (N - 1) 0 = x) := hx
          have hxb : (x.toNat : Int) ≤ 6 := by omega
          have HNM : Hid (N = 136 * M) := HN2
          clear hx hPl hje hlt hj hBg hfg HN2
          have teq : ((N : Int) % 136 != 0) = false := by rw [bne_eq_false_iff_eq]; omega
          have i1 : (N : Int) - 1 < (N : Int) := by omega
          have i2 : (0 : Int) ≤ (N : Int) - 1 := by omega
          have e1 : ((N : Int) - 1).toNat = N - 1 := by omega
          have iN : (N : Int) ≤ 5000 := by omega
          go_upto_region 10 with fail
          have HO1 : Hid (Own w.heap.size (wr.setCell ⟨g, N - 1, none⟩ (.int .u8 ((x.toNat : Int) + 128))) (.slice (some ⟨g, 0, none⟩) N gcap) PF) := by
            show Own _ _ _ _
            rw [HPF.out, add128 x (by omega)]
            exact hown.set _ _
          have hg1 := grown_setNew hg g hbg (N - 1) (.int .u8 ((x.toNat : Int) + 128))
          generalize wr.setCell ⟨g, N - 1, none⟩ (.int .u8 ((x.toNat : Int) + 128)) = W1 at *
          clear c0 f0 HX HPF hown hg hxb hlast
          obtain ⟨g', gc', eg, _, hgl1, hBg, _⟩ := HO1.out.block (by intro h; have := HFL.out; rw [h] at this; simp at this; have := HNM.out; omega)
          simp only [Value.slice.injEq, Option.some.injEq, Addr.mk.injEq, and_true] at eg
          obtain ⟨rfl, _, rfl⟩ := eg
          clear HO1
          go_wp2_with fail
          refine (numbers_any W1).mono ?_
          rintro e W2 ⟨v5, rfl, ho5, hg5⟩
          obtain ⟨ng, ncap, rfl, hng, hngl, hNu⟩ := ho5.block (by decide)
          have hg2 := grown_trans hg1 hg5
          have hB2 := hBg.grown hg5 (by simp)
          have hgl2 : g < W2.heap.size := Nat.lt_of_lt_of_le hgl1 hg5.size
          clear hg1 hg5 hBg ho5 hgl1 hgl
          have hmk := make25
          have hl24 : roundNumbersT.length = 24 := rfl
          rw [hl24]
          go_wp2_with fail
          have hs3 := ILanes.new (n := 25) W2 3 (outL fun _ => 0) (outL_len _)
          have hg3 := grown_alloc hg2 (.cells (icellsOf (outL fun _ => 0)) 3)
          have hB3 := hB2.grown (World.grownBy_alloc W2 (.cells (icellsOf (outL fun _ => 0)) 3) none) (by simp)
          have hN3 := hNu.grown (World.grownBy_alloc W2 (.cells (icellsOf (outL fun _ => 0)) 3) none) (by simp)
          have hsz3 : (W2.alloc (.cells (icellsOf (outL fun _ => 0)) 3)).heap.size = W2.heap.size + 1 := by simp
          have hw2 := hg2.size
          generalize W2.alloc (.cells (icellsOf (outL fun _ => 0)) 3) = W3 at *
          have HZ : Kept (spongeTo PF 0 = outL fun _ => 0) := fun _ => rfl
          clear hmk hB2 hNu hg2 hl24
          go_loopw [6, 7] (fun sv fv wr => ∃ k sb : Nat, k ≤ M ∧ fv = .int .i64 ((136 * k : Nat) : Int) ∧ sv = .slice (some ⟨sb, 0, none⟩) 25 25 ∧ ILanes 25 wr sb (spongeTo PF k) ∧ sb ≠ g ∧ sb ≠ ng ∧ w.heap.size ≤ sb ∧ BytesAt wr g 0 PF ∧ NumsAt wr ng roundNumbersT ∧ g < wr.heap.size ∧ ng < wr.heap.size ∧ w.grownBy wr none) (fun _ f _ => N - (intOf f).toNat)
          case atStart => exact ⟨0, W2.heap.size, by omega, rfl, rfl, by rw [HZ.out]; exact hs3, by omega, by omega, hw2, hB3, hN3, by omega, by omega, hg3⟩
          case round =>
            clear hs3 hg3 hB3 hN3 hsz3 HZ hgl2 hngl hng hw2
            obtain ⟨k, sb, hk, rfl, rfl, hst, hsg, hsn, hsw, hB, hNu, hgl, hngl, hg⟩ := hrel
            by_cases hlk : k < M
            · have HFM := HFL.out
              have tlt : ((136 * k : Nat) : Int) < (N : Int) := by have := HNM.out; omega
              have HK : Hid (136 * k + 136 ≤ PF.length) := by show _ ≤ _; omega
              have HSS : Kept (spongeTo PF (k + 1) = roundsTo (absorbTo (blockAt PF k) (spongeTo PF k) 17) 24) := fun _ => rfl
              generalize spongeTo PF k = S0 at *
              have hf136 : 136 * k ≤ 4080 := by omega
              have HF : Hid (∃ f, f = 136 * k) := ⟨_, rfl⟩
              clear HF HFM
              generalize hfk : 136 * k = fr at *
              have HFK : Hid (136 * k = fr) := hfk
              clear hfk
              have tlt2 : fr < PF.length := by have := HK.out; omega
              go_wp2_with fail
              go_loopw [8] (fun iv wr => ∃ i : Nat, i ≤ 17 ∧ iv = .int .i64 (i : Int) ∧ ILanes 25 wr sb (absorbTo (blockAt PF k) S0 i) ∧ BytesAt wr g 0 PF ∧ NumsAt wr ng roundNumbersT ∧ g < wr.heap.size ∧ ng < wr.heap.size ∧ w.grownBy wr none) (fun iv _ => 17 - (intOf iv).toNat)
              case atStart => exact ⟨0, by omega, rfl, hst, hB, hNu, hgl, hngl, hg⟩
              case round =>
                clear hst hB hNu hgl hngl hg
                obtain ⟨i, hi, rfl, hst, hB, hNu, hgl, hngl, hg⟩ := hrel
                by_cases hli : i < 17
                · go_wp2_with fail
                  go_loop [9, 10] (fun lv kv => ∃ j : Nat, j ≤ 8 ∧ kv = .int .i64 (7 - (j : Int)) ∧ lv = .int .i64 (I (hornerTo PF (fr + 8 * i) j))) (fun _ kv => (intOf kv + 1).toNat)
                  case atStart => exact ⟨0, by omega, by simp, by rw [hornerTo, I_zero]⟩
                  case round =>
                    obtain ⟨j, hj, rfl, rfl⟩ := hrel
                    by_cases hlj : j < 8
                    · have c0 := hB (fr + 8 * i + (7 - j)) (by have := HK.out; omega)
                      rw [Nat.zero_add] at c0
                      have HH : Kept (hornerTo PF (fr + 8 * i) (j + 1) = hornerTo PF (fr + 8 * i) j * 256 + Z (PF.getD (fr + 8 * i + (7 - j)) 0)) := fun _ => rfl
                      generalize hornerTo PF (fr + 8 * i) j = L at *
                      generalize PF.getD (fr + 8 * i + (7 - j)) 0 = x at *
                      have HL : Hid (wrap64 (wrap64 (I L * 256) + wrap64 (x.toNat : Int)) = I (L * 256 + Z x)) := by
                        show _ = _
                        have h1 : (256 : Int) = I 256 := by decide
                        have h2 : wrap64 (x.toNat : Int) = I (Z x) := by rw [wrap64_eq, wrap_eq_ofInt, BitVec.ofInt_natCast]; rfl
                        rw [h2, h1, wrap64_eq, wrap64_eq, wrap_mul_I, wrap_add_I]
                      have e1 : ((fr : Int) + 8 * (i : Int) + (7 - (j : Int))).toNat = fr + 8 * i + (7 - j) := by omega
                      have i1 : (fr : Int) + 8 * (i : Int) + (7 - (j : Int)) < (N : Int) := by have := HK.out; have := HFL.out; have := HNM.out; omega
                      have i0 : (0 : Int) ≤ (fr : Int) + 8 * (i : Int) + (7 - (j : Int)) := by omega
                      have tge : (0 : Int) ≤ 7 - (j : Int) := by omega
                      generalize I L = LL at *
                      go_wp2_with fail
                      go_round
                      case rel => exact ⟨j + 1, by omega, by go_num, by rw [HL.out, HH.out]⟩
                      case measure => simp [intOf]; omega
                    · obtain rfl : j = 8 := by omega
                      have hcs := hst.cell i (by omega)
                      have hfs := hst.frozen i
                      have HA : Kept (absorbTo (blockAt PF k) S0 (i + 1) = (absorbTo (blockAt PF k) S0 i).set i ((absorbTo (blockAt PF k) S0 i).getD i 0 ^^^ hornerTo PF (fr + 8 * i) 8)) := fun _ => by
                        rw [absorbTo, laneAt_block PF k i (by omega), HFK.out, ← horner_eq]
                      generalize hornerTo PF (fr + 8 * i) 8 = L at *
                      generalize (absorbTo (blockAt PF k) S0 i).getD i 0 = sx at *
                      generalize absorbTo (blockAt PF k) S0 i = AS at *
                      have tlt7 : ¬ (0 : Int) ≤ 7 - ((8 : Nat) : Int) := by omega
                      have tl7 : (7 : Int) - ((8 : Nat) : Int) < 0 := by omega
                      have i25 : (i : Int) < 25 := by omega
                      go_wp2_with fail
                      go_roundw
                      case rel =>
                        rw [bits_xor_I]
                        have hst2 : ILanes 25 (wr.setCell ⟨sb, i, none⟩ (.int .i64 (I (sx ^^^ L)))) sb (absorbTo (blockAt PF k) S0 (i + 1)) := by rw [HA.out]; exact hst.set i _
                        have hgs : wr.grownBy (wr.setCell ⟨sb, i, none⟩ (.int .i64 (I (sx ^^^ L)))) (some sb) := grown_set (grown_refl _ _) _ _
                        have hB2 := hB.grown hgs (by simp; omega)
                        have hN2 := hNu.grown hgs (by simp; omega)
                        have hg2 := grown_setNew hg sb hsw i (.int .i64 (I (sx ^^^ L)))
                        have hz := hgs.size
                        first
                          | exact ⟨i + 1, by omega, by go_num, hst2, hB2, hN2, by omega, by omega, hg2⟩
                          | ((repeat apply Exists.intro); refine ⟨⟨i + 1, by omega, ?_, hst2, hB2, hN2, by omega, by omega, hg2⟩, rfl⟩; go_num)
                      case measure => simp [intOf]; omega
                · obtain rfl : i = 17 := by omega
                  generalize hA17 : absorbTo (blockAt PF k) S0 17 = A17 at *
                  clear hA17
                  clear hi hli
                  go_wp2_with fail
                  go_loopw [6, 11] (fun sv rv wr => ∃ r sb : Nat, r ≤ 24 ∧ rv = .int .i64 (r : Int) ∧ sv = .slice (some ⟨sb, 0, none⟩) 25 25 ∧ ILanes 25 wr sb (roundsTo A17 r) ∧ (roundsTo A17 r).length = 25 ∧ sb ≠ g ∧ sb ≠ ng ∧ w.heap.size ≤ sb ∧ BytesAt wr g 0 PF ∧ NumsAt wr ng roundNumbersT ∧ g < wr.heap.size ∧ ng < wr.heap.size ∧ w.grownBy wr none) (fun _ rv _ => 24 - (intOf rv).toNat)
                  case atStart => exact ⟨0, sb, by omega, rfl, rfl, hst, hst.len, hsg, hsn, hsw, hB, hNu, hgl, hngl, hg⟩
                  case round =>
                    clear hst hsg hsn hsw hB hNu hgl hngl hg
                    obtain ⟨r, sb, hr, rfl, rfl, hst, hrl, hsg, hsn, hsw, hB, hNu, hgl, hngl, hg⟩ := hrel
                    by_cases hlr : r < 24
                    · have HRS : Kept (roundsTo A17 (r + 1) = roundF (roundsTo A17 r) (roundNumbersT.getD r 0)) := fun _ => rfl
                      generalize roundsTo A17 r = R0 at *
                      go_wp2_with fail
                      refine (parities_any _ sb R0 hst).mono ?_
                      rintro e V1 ⟨rfl, h1, q1⟩
                      go_wp2_with fail
                      refine (moved_any _ _ _ h1).mono ?_
                      rintro e V2 ⟨rfl, h2, q2⟩
                      go_wp2_with fail
                      refine (rowsR_any _ _ _ h2).mono ?_
                      rintro e V3 ⟨rfl, h3, q3⟩
                      have eR : outL (rowF (movedTo (outL (parF R0)) 24)) = rowsTo (moveTo (addTo (dOf (colsTo R0 5)) R0 5) 24).1 5 := by
                        rw [par_eq R0 hrl, mov_eq _ (by rw [addTo_len]; exact hrl), row_eq _ (by rw [moveTo_len, addTo_len]; exact hrl)]
                      rw [eR] at h3
                      have HRF : Kept (roundsTo A17 (r + 1) = (rowsTo (moveTo (addTo (dOf (colsTo R0 5)) R0 5) 24).1 5).set 0 ((rowsTo (moveTo (addTo (dOf (colsTo R0 5)) R0 5) 24).1 5).getD 0 0 ^^^ roundNumbersT.getD r 0)) := fun _ => by rw [HRS.out]; rfl
                      clear eR h1 h2 HRS hst
                      generalize rowsTo (moveTo (addTo (dOf (colsTo R0 5)) R0 5) 24).1 5 = X3 at *
                      have q13 := grown_trans q1 (grown_trans q2 q3)
                      have hB3 := hB.grown q13 (by simp)
                      have hN3 := hNu.grown q13 (by simp)
                      have hg3 := grown_trans hg q13
                      have z1 := q1.size
                      have z2 := q2.size
                      have z3 := q3.size
                      have zg := hg.size
                      clear q1 q2 q3 q13 hB hNu hg
                      have hlt3 := h3.lt
                      generalize V2.heap.size = tb at *
                      have c0 := h3.cell 0 (by omega)
                      have f0 := h3.frozen 0
                      have n0 := hN3 r hlr
                      generalize roundNumbersT.getD r 0 = rn at *
                      generalize X3.getD 0 0 = x0 at *
                      have ir : (r : Int) < 24 := by omega
                      have HB3 : Hid (BytesAt V3 g 0 PF) := hB3
                      have HN3 : Hid (NumsAt V3 ng roundNumbersT) := hN3
                      clear hB3 hN3
                      go_wp2_with fail
                      go_region
                      go_wp2_with fail
                      go_roundw
                      case rel =>
                        rw [bits_xor_I]
                        have hst2 : ILanes 25 (V3.setCell ⟨tb, 0, none⟩ (.int .i64 (I (x0 ^^^ rn)))).drew tb (roundsTo A17 (r + 1)) := by rw [HRF.out]; exact (h3.set 0 _).drew
                        have hgs : V3.grownBy (V3.setCell ⟨tb, 0, none⟩ (.int .i64 (I (x0 ^^^ rn)))).drew (some tb) := grown_drew (grown_set (grown_refl _ _) _ _)
                        have hB2 := HB3.out.grown hgs (by simp; omega)
                        have hN2 := HN3.out.grown hgs (by simp; omega)
                        have hg2 := grown_drew (grown_setNew hg3 tb (by omega) 0 (.int .i64 (I (x0 ^^^ rn))))
                        have hz := hgs.size
                        first
                          | exact ⟨r + 1, tb, by omega, by go_num, rfl, hst2, hst2.len, by omega, by omega, by omega, hB2, hN2, by omega, by omega, hg2⟩
                          | ((repeat apply Exists.intro); refine ⟨⟨r + 1, tb, by omega, ?_, rfl, hst2, hst2.len, by omega, by omega, by omega, hB2, hN2, by omega, by omega, hg2⟩, rfl⟩; go_num)
                      case measure => simp [intOf]; omega
                    · obtain rfl : r = 24 := by omega
                      go_wp2_with fail
                      go_roundw
                      case rel =>
                        have hst2 : ILanes 25 wr sb (spongeTo PF (k + 1)) := by rw [HSS.out]; exact hst
                        have ef : (fr : Int) + 136 = ((136 * (k + 1) : Nat) : Int) := by have := HFK.out; omega
                        first
                          | exact ⟨k + 1, sb, by omega, by rw [ef], rfl, hst2, hsg, hsn, hsw, hB, hNu, hgl, hngl, hg⟩
                          | ((repeat apply Exists.intro); refine ⟨⟨k + 1, sb, by omega, ?_, rfl, hst2, hsg, hsn, hsw, hB, hNu, hgl, hngl, hg⟩, rfl⟩; rw [ef])
                      case measure => simp [intOf]; omega
            · obtain rfl : k = M := by omega
              generalize spongeTo PF k = SP at *
              have tnl : ¬ ((136 * k : Nat) : Int) < (N : Int) := by have := HNM.out; omega
              clear hB hNu hsg hsn hgl hngl
              go_wp2_with fail
              generalize wr = W0 at *
              go_loopw [12, 13] (fun ov iv wr => ∃ m : Nat, m ≤ 4 ∧ iv = .int .i64 (m : Int) ∧ Own W0.heap.size wr ov (outN SP (8 * m)) ∧ W0.grownBy wr none) (fun _ iv _ => 4 - (intOf iv).toNat)
              case atStart => exact ⟨0, by omega, rfl, own_nil _ _, grown_refl _ _⟩
              case round =>
                obtain ⟨m, hm4, rfl, hown, hgr⟩ := hrel
                by_cases hlm : m < 4
                · have c0 := (hst.grown hgr (by simp)).cell m (by omega)
                  generalize hsm : SP.getD m 0 = sm at *
                  have HSM : Hid (SP.getD m 0 = sm) := hsm
                  clear hsm
                  have im : (m : Int) < 25 := by omega
                  have im4 : (m : Int) < 4 := by omega
                  go_wp2_with fail
                  clear c0
                  go_loopw [12, 14, 15] (fun ov lv kv wr => ∃ j : Nat, j ≤ 8 ∧ kv = .int .i64 (j : Int) ∧ lv = .int .i64 (I (sm.sshiftRight (8 * j))) ∧ Own W0.heap.size wr ov (outN SP (8 * m + j)) ∧ W0.grownBy wr none) (fun _ _ kv _ => 8 - (intOf kv).toNat)
                  case atStart => exact ⟨0, by omega, rfl, by simp, hown, hgr⟩
                  case round =>
                    clear hown hgr
                    obtain ⟨j, hj, rfl, rfl, hown, hgr⟩ := hrel
                    obtain ⟨oa, ocap, rfl⟩ := hown.shape
                    by_cases hlj : j < 8
                    · have HON : Hid (outN SP (8 * m + (j + 1)) = outN SP (8 * m + j) ++ [UInt8.ofNat ((sm.sshiftRight (8 * j)).toNat % 256)]) := by
                        show _ = _
                        rw [← HSM.out, out_byte SP m j hlj, ← Nat.add_assoc, outN_succ]
                      have HSS2 : Hid (sm.sshiftRight (8 * (j + 1)) = (sm.sshiftRight (8 * j)).sshiftRight 8) := by
                        show _ = _
                        rw [← BitVec.sshiftRight_add]; rfl
                      have hol : (outN SP (8 * m + j)).length ≤ 100 := by rw [outN_len]; omega
                      generalize outN SP (8 * m + j) = O at *
                      generalize sm.sshiftRight (8 * j) = L at *
                      have hlow := low_I L
                      have hb := next_lo L
                      have HNX : Hid ((I L - ((L.toNat % 256 : Nat) : Int)).tdiv 256 = I (L.sshiftRight 8)) := next_I L
                      have hq : L.toNat % 256 < 256 := Nat.mod_lt _ (by decide)
                      have b1 := I_lo L
                      have b2 := I_hi L
                      generalize L.toNat % 256 = Q at *
                      have hsz := hgr.size
                      have HB : Hid (SliceIs (wr.alloc (.cells #[.int .u8 ((Q : Nat) : Int)] 5)) (.slice (some ⟨wr.heap.size, 0, none⟩) 1 1) [UInt8.ofNat Q]) := by
                        have e : ((Q : Nat) : Int) = ((UInt8.ofNat Q).toNat : Int) := by simp; omega
                        rw [e]
                        exact one_slice _ _ _
                      go_wp2_with (at_builtin; refine wpList_append_bytes rfl (.tmp 124) (.tmp 127) rfl W0.heap.size (.slice oa O.length ocap) O rfl (hown.alloc _) (some ⟨wr.heap.size, 0, none⟩) 1 1 _ rfl HB.out (by omega) (by simp; omega) ?_; intro v1 w1 ho1 hg1)
                      have hgw := grown_own (grown_alloc hgr _) (hown.alloc _) hg1
                      go_roundw
                      case rel => exact ⟨j + 1, by omega, by go_num, by rw [HNX.out, HSS2.out], by rw [HON.out]; exact ho1, hgw⟩
                      case measure => simp [intOf]; omega
                    · obtain rfl : j = 8 := by omega
                      go_wp2_with fail
                      go_roundw
                      case rel =>
                        have ho2 : Own W0.heap.size wr (.slice oa (outN SP (8 * m + 8)).length ocap) (outN SP (8 * (m + 1))) := hown
                        first
                          | exact ⟨m + 1, by omega, by go_num, ho2, hgr⟩
                          | ((repeat apply Exists.intro); refine ⟨⟨m + 1, by omega, ?_, ho2, hgr⟩, rfl⟩; go_num)
                      case measure => simp [intOf]; omega
                · obtain rfl : m = 4 := by omega
                  obtain ⟨oa, ocap, rfl⟩ := hown.shape
                  go_wp2
                  go_ret
                  have hD := HD.out
                  have hs := hown.slice
                  rw [show 8 * 4 = 32 from rfl, hD] at hs
                  refine ⟨_, rfl, ?_, grown_trans hg hgr⟩
                  rw [show 8 * 4 = 32 from rfl, hD]
                  exact hs
theorem digested_any (w : World) (v : Value) (bs : List UInt8) (hv : SliceIs w v bs) (hl : bs.length ≤ 4000) :
    Calls Tryd.prog 35 #[v] w fun e w' => ∃ v', e = .returned v' ∧ SliceIs w' v' (sumF bs) ∧ w.grownBy w' none :=
  digested_core w v bs hv hl (sumF bs) fun _ => (outTo_all _).symm
end Go.Proofs.YtdpoickggdgddaaDoor

/-
  The walk of joined of the document's answer.
-/
namespace Go.Proofs.YtdpoickggdgddaaDoor
open Go.RowKit
set_option maxRecDepth 100000 in
set_option maxHeartbeats 1000000 in
theorem joined_any (w : World) (va vb : Value) (A B : List UInt8) (ha : SliceIs w va A) (hb : SliceIs w vb B) (hla : A.length ≤ 5000) (hlb : B.length ≤ 5000) :
    Calls Tryd.prog 26 #[va, vb] w fun e w' => ∃ v', e = .returned v' ∧ Own w.heap.size w' v' (A ++ B) ∧ w.grownBy w' none := by
  obtain ⟨aa, acap, rfl, hac, har⟩ := ha
  obtain ⟨ba, bcap, rfl, hbc, hbr⟩ := hb
  go_enter Tryd.func26, Tryd.ntmps26
  go_wp2_with fail
  go_loopw [5, 6] (fun p i wr => ∃ m : Nat, m ≤ A.length ∧ i = .int .i64 (m : Int) ∧ Own w.heap.size wr p (A.take m) ∧ w.grownBy wr none) (fun _ i _ => A.length - (intOf i).toNat)
  case atStart => exact ⟨0, by omega, rfl, own_nil _ _, grown_refl _ _⟩
  case round =>
    obtain ⟨m, hm, rfl, hown, hg⟩ := hrel
    by_cases hlt : m < A.length
    · obtain ⟨b, o, rfl, hB⟩ : ∃ b o, aa = some ⟨b, o, none⟩ ∧ BytesAt w b o A := by
        rcases har with ⟨rfl, _⟩ | h
        · simp at hlt
        · exact h
      have c0 := (hB.grown hg (by simp)) m hlt
      have HT : Hid (A.take (m + 1) = A.take m ++ [A.getD m 0]) := by
        show _ = _
        rw [List.take_succ_eq_append_getElem hlt]; simp [hlt]
      have hTl : (A.take m).length ≤ 5000 := by simp; omega
      generalize A.getD m 0 = x at *
      generalize A.take m = T at *
      obtain ⟨pa, pcap, rfl⟩ := hown.shape
      have hsz := hg.size
      have HB : Hid (SliceIs (wr.alloc (.cells #[.int .u8 (x.toNat : Int)] 5)) (.slice (some ⟨wr.heap.size, 0, none⟩) 1 1) [x]) := one_slice _ _ _
      clear hB har hbr
      have i1 : (m : Int) < (A.length : Int) := by omega
      go_wp2_with (at_builtin; refine wpList_append_bytes rfl (.tmp 14) (.tmp 19) rfl w.heap.size (.slice pa T.length pcap) T rfl (hown.alloc _) (some ⟨wr.heap.size, 0, none⟩) 1 1 _ rfl HB.out (by omega) (by simp; omega) ?_; intro v1 w1 ho1 hg1)
      have hgw := grown_own (grown_alloc hg _) (hown.alloc _) hg1
      go_roundw
      case rel => exact ⟨m + 1, by omega, by go_num, by rw [HT.out]; exact ho1, hgw⟩
      case measure => simp [intOf]; omega
    · obtain rfl : m = A.length := by omega
      rw [List.take_length] at hown
      obtain ⟨pa, pcap, rfl⟩ := hown.shape
      clear har hlt
      go_wp2_with fail
      go_loopw [5, 7] (fun p i wr => ∃ m : Nat, m ≤ B.length ∧ i = .int .i64 (m : Int) ∧ Own w.heap.size wr p (A ++ B.take m) ∧ w.grownBy wr none) (fun _ i _ => B.length - (intOf i).toNat)
      case atStart => exact ⟨0, by omega, rfl, by simpa using hown, hg⟩
      case round =>
        clear hown hg
        obtain ⟨m, hm, rfl, hown, hg⟩ := hrel
        by_cases hlt : m < B.length
        · obtain ⟨b, o, rfl, hB⟩ : ∃ b o, ba = some ⟨b, o, none⟩ ∧ BytesAt w b o B := by
            rcases hbr with ⟨rfl, _⟩ | h
            · simp at hlt
            · exact h
          have c0 := (hB.grown hg (by simp)) m hlt
          have HT : Hid (A ++ B.take (m + 1) = A ++ B.take m ++ [B.getD m 0]) := by
            show _ = _
            rw [List.take_succ_eq_append_getElem hlt]; simp [hlt]
          have hTl : (A ++ B.take m).length ≤ 10000 := by simp; omega
          generalize B.getD m 0 = x at *
          generalize A ++ B.take m = T at *
          obtain ⟨qa, qcap, rfl⟩ := hown.shape
          have hsz := hg.size
          have HB : Hid (SliceIs (wr.alloc (.cells #[.int .u8 (x.toNat : Int)] 5)) (.slice (some ⟨wr.heap.size, 0, none⟩) 1 1) [x]) := one_slice _ _ _
          clear hB hbr
          have i1 : (m : Int) < (B.length : Int) := by omega
          go_wp2_with (at_builtin; refine wpList_append_bytes rfl (.tmp 27) (.tmp 32) rfl w.heap.size (.slice qa T.length qcap) T rfl (hown.alloc _) (some ⟨wr.heap.size, 0, none⟩) 1 1 _ rfl HB.out (by omega) (by simp; omega) ?_; intro v1 w1 ho1 hg1)
          have hgw := grown_own (grown_alloc hg _) (hown.alloc _) hg1
          go_roundw
          case rel =>
            first
              | exact ⟨m + 1, by omega, by go_num, by rw [HT.out]; exact ho1, hgw⟩
              | ((repeat apply Exists.intro); refine ⟨⟨m + 1, by omega, ?_, by rw [HT.out]; exact ho1, hgw⟩, rfl⟩; go_num)
          case measure => simp [intOf]; omega
        · obtain rfl : m = B.length := by omega
          rw [List.take_length] at hown
          obtain ⟨qa, qcap, rfl⟩ := hown.shape
          go_wp2
          go_ret
          exact ⟨_, rfl, hown, hg⟩
end Go.Proofs.YtdpoickggdgddaaDoor

/-
  The walk of PartsOf of the document's answer.
-/
namespace Go.Proofs.YtdpoickggdgddaaDoor
open Go.RowKit
set_option maxRecDepth 100000 in
set_option maxHeartbeats 1000000 in
theorem partsOf_any (w : World) (k : UInt8) (v : Value) (ps : List (List UInt8)) (hv : ListIs w v ps) (hm : ps.length ≤ maxLen) (hms : ∀ i, i < ps.length → (ps.getD i []).length ≤ 140737488351232) :
    Calls Tryd.prog 36 #[.int .u8 (k.toNat : Int), v] w fun e w' => w.grownBy w' none ∧
      (((joinF k ps).length ≤ 4000 ∧ ∃ v', e = .returned (.tuple #[v', .int .i64 0]) ∧ SliceIs w' v' (sumF (joinF k ps))) ∨
       (4000 < (joinF k ps).length ∧ e = .returned (.tuple #[.slice none 0 0, .int .i64 1]))) := by
  obtain ⟨a, cap, rfl, hc, hps⟩ := hv
  unfold maxLen at hm
  go_enter Tryd.func36, Tryd.ntmps36
  go_wp2_with fail
  go_loopw [6, 7] (fun j i wr => ∃ m : Nat, m ≤ ps.length ∧ i = .int .i64 (m : Int) ∧ Own w.heap.size wr j (joinF k (ps.take m)) ∧ (joinF k (ps.take m)).length ≤ 4000 ∧ w.grownBy wr none) (fun _ i _ => ps.length - (intOf i).toNat)
  case atStart => exact ⟨0, by omega, rfl, own_new w.heap.size w [k] (Nat.le_refl _) (by unfold maxLen; simp), by simp [joinF], grown_alloc (grown_refl _ _) _⟩
  case round =>
    obtain ⟨m, hmn, rfl, hown, hlen, hg⟩ := hrel
    obtain ⟨ja, jcap, rfl⟩ := hown.shape
    by_cases hlt : m < ps.length
    · obtain ⟨b, o, rfl, hcells⟩ : ∃ b o, a = some ⟨b, o, none⟩ ∧ ∀ i, i < ps.length → ∃ vi, w.cell? ⟨b, o + i, none⟩ = some vi ∧ SliceIs w vi (ps.getD i []) := by
        rcases hps with rfl | h
        · simp at hlt
        · exact h
      obtain ⟨vi, hvi, hsi⟩ := hcells m hlt
      have hpm := hms m hlt
      have HT : Hid (joinF k (ps.take (m + 1)) = joinF k (ps.take m) ++ jpartF (ps.getD m [])) := joinF_take k ps m hlt
      have HM : Hid ((joinF k (ps.take (m + 1))).length ≤ (joinF k ps).length) := joinF_mono k ps (m + 1)
      have hci := hg.cell hvi (by simp)
      generalize ps.getD m [] = P at *
      obtain ⟨pa, pcap, rfl, hpc, hpr⟩ := hsi
      have hsi : SliceIs w (.slice pa P.length pcap) P := ⟨pa, pcap, rfl, hpc, hpr⟩
      have HSI : Hid (SliceIs w (.slice pa P.length pcap) P) := hsi
      have hsz := hg.size
      generalize joinF k (ps.take m) = J at *
      have HPS : Hid (w.heap.size ≤ wr.heap.size) := hsz
      have HVI : Hid (w.cell? ⟨b, o + m, none⟩ = some (.slice pa P.length pcap)) := hvi
      clear hcells hvi hsi hpr hps hms hsz
      have i1 : (m : Int) < (ps.length : Int) := by omega
      by_cases hfit : P.length + 2 + J.length ≤ 4000
      · have i2 : ¬ (4000 : Int) < (P.length : Int) + 2 + (J.length : Int) := by omega
        have i3 : ¬ (4000 : Int) < (P.length : Int) := by omega
        have i4 : (P.length : Int) ≤ 4000 := by omega
        have HB1 : Hid (SliceIs (wr.alloc (.cells #[.int .u8 ((P.length : Int) / 256), .int .u8 ((P.length : Int) % 256)] 5)) (.slice (some ⟨wr.heap.size, 0, none⟩) 2 2) [UInt8.ofNat (P.length / 256), UInt8.ofNat P.length]) := by
          have e1 : ((P.length : Int) / 256) = ((UInt8.ofNat (P.length / 256)).toNat : Int) := by simp; omega
          have e2 : ((P.length : Int) % 256) = ((UInt8.ofNat P.length).toNat : Int) := by simp
          rw [e1, e2]
          exact two_slice _ _ _ _
        go_upto_region 9 with (at_builtin; refine wpList_append_bytes rfl (.tmp 32) (.tmp 39) rfl w.heap.size (.slice ja J.length jcap) J rfl (hown.alloc _) (some ⟨wr.heap.size, 0, none⟩) 2 2 _ rfl HB1.out (by omega) (by have := HPS.out; simp; omega) ?_; intro v1 w1 ho1 hg1)
        have hgw := grown_own (grown_alloc hg _) (hown.alloc _) hg1
        have hci1 := hgw.cell HVI.out (by simp)
        have HS1 : Hid (SliceIs w1 (.slice pa P.length pcap) P) := HSI.out.grown hgw
        have hJl : (J ++ [UInt8.ofNat (P.length / 256), UInt8.ofNat P.length]).length = J.length + 2 := by simp
        generalize hJ2 : J ++ [UInt8.ofNat (P.length / 256), UInt8.ofNat P.length] = J2 at *
        have HJ2 : Hid (J ++ [UInt8.ofNat (P.length / 256), UInt8.ofNat P.length] = J2) := hJ2
        have HJL : Hid (J2.length = J.length + 2) := hJl
        clear hJ2 hJl
        have HJ1 := ho1.slice
        obtain ⟨va, vcap, rfl⟩ := ho1.shape
        clear hown hci hg hg1 HB1 HSI HPS HVI
        go_wp2_with fail
        refine (joined_any w1 _ _ _ _ HJ1 HS1.out (by have := HJL.out; omega) (by omega)).mono ?_
        rintro e w2 ⟨v2, rfl, ho2, hg2⟩
        have hgw2 := grown_trans hgw hg2
        go_wp2_with fail
        go_roundw
        case rel =>
          have e : joinF k (ps.take (m + 1)) = J2 ++ P := by rw [HT.out, ← HJ2.out]; simp [jpartF]
          have ho3 : Own w.heap.size w2 v2 (joinF k (ps.take (m + 1))) := by rw [e]; exact own_mono ho2 hgw.size
          refine ⟨m + 1, by omega, by go_num, ho3, ?_, hgw2⟩
          rw [e]; have := HJL.out; simp; omega
        case measure => simp [intOf]; omega
      · by_cases hbig : 4000 < P.length
        · have i3 : (4000 : Int) < (P.length : Int) := by omega
          go_wp2
          go_ret2
          refine ⟨hg, .inr ⟨?_, rfl⟩⟩
          have h1 := HM.out
          rw [HT.out] at h1
          simp [jpartF_len] at h1
          omega
        · have i3 : ¬ (4000 : Int) < (P.length : Int) := by omega
          have i2 : (4000 : Int) < (P.length : Int) + 2 + (J.length : Int) := by omega
          go_wp2
          go_ret2
          refine ⟨hg, .inr ⟨?_, rfl⟩⟩
          have h1 := HM.out
          rw [HT.out] at h1
          simp [jpartF_len] at h1
          omega
    · obtain rfl : m = ps.length := by omega
      rw [List.take_length] at hown hlen
      have hS := digested_any wr _ _ hown.slice hlen
      go_wp2_with fail
      refine hS.mono ?_
      rintro e w2 ⟨v2, rfl, hs2, hg2⟩
      go_wp2
      go_ret2
      exact ⟨grown_trans hg hg2, .inl ⟨hlen, v2, rfl, hs2⟩⟩
end Go.Proofs.YtdpoickggdgddaaDoor

/-
  The walks of the document's answer to P3.6: noneDigest, leafDigest, forkDigest, rootOf, RootOf.
-/
namespace Go.Proofs.YtdpoickggdgddaaDoor
open Go.RowKit
theorem noneDigest_any (w : World) :
    Calls Tryd.prog 22 #[] w fun e w' => ∃ x, e = .returned x ∧ SliceIs w' x (sumF [0]) ∧ w.grownBy w' none := by
  go_enter Tryd.func22, Tryd.ntmps22
  go_wp2_with fail
  refine (digested_any _ _ [0] (one_slice w 0 _) (by simp)).mono ?_
  rintro e w1 ⟨v1, rfl, h1, hg1⟩
  go_wp2
  go_ret
  exact ⟨v1, rfl, h1, grown_trans (World.grownBy_alloc _ _ _) hg1⟩
theorem listIs_two (w : World) (t : TypeId) (v1 v2 : Value) (x y : List UInt8) (h1 : SliceIs w v1 x) (h2 : SliceIs w v2 y) (nb : Nat) (hnb : nb = w.heap.size) :
    ListIs (w.alloc (.cells #[v1, v2] t)) (.slice (some ⟨nb, 0, none⟩) 2 2) [x, y] := by
  subst hnb
  refine ⟨_, 2, rfl, by simp, .inr ⟨w.heap.size, 0, rfl, fun i hi => ?_⟩⟩
  match i, hi with
  | 0, _ => exact ⟨v1, by simp, h1.alloc _⟩
  | 1, _ => exact ⟨v2, by simp, h2.alloc _⟩
theorem listIs_three (w : World) (t : TypeId) (v1 v2 v3 : Value) (x y z : List UInt8) (h1 : SliceIs w v1 x) (h2 : SliceIs w v2 y) (h3 : SliceIs w v3 z) (nb : Nat) (hnb : nb = w.heap.size) :
    ListIs (w.alloc (.cells #[v1, v2, v3] t)) (.slice (some ⟨nb, 0, none⟩) 3 3) [x, y, z] := by
  subst hnb
  refine ⟨_, 3, rfl, by simp, .inr ⟨w.heap.size, 0, rfl, fun i hi => ?_⟩⟩
  match i, hi with
  | 0, _ => exact ⟨v1, by simp, h1.alloc _⟩
  | 1, _ => exact ⟨v2, by simp, h2.alloc _⟩
  | 2, _ => exact ⟨v3, by simp, h3.alloc _⟩
set_option maxRecDepth 100000 in
set_option maxHeartbeats 1000000 in
theorem leafDigest_any (w : World) (v : Value) (p : Pr) (hv : PairIs w v p) (hp : (1 ≤ p.1.length ∧ p.1.length ≤ 16) ∧ p.2.length ≤ 32) :
    Calls Tryd.prog 23 #[v] w fun e w' => ∃ x, e = .returned x ∧ SliceIs w' x (sumF (joinF 1 [p.1, p.2])) ∧ w.grownBy w' none := by
  obtain ⟨vk, vv, rfl, s1, s2⟩ := hv
  obtain ⟨ak, ck, rfl⟩ := s1.shape
  obtain ⟨av, cv, rfl⟩ := s2.shape
  have S1 : Hid (SliceIs w (.slice ak p.1.length ck) p.1) := s1
  have S2 : Hid (SliceIs w (.slice av p.2.length cv) p.2) := s2
  clear s1 s2
  go_enter Tryd.func23, Tryd.ntmps23
  go_wp2_with fail
  refine (partsOf_any _ 1 _ [p.1, p.2] (listIs_two _ _ _ _ p.1 p.2 (S1.out.alloc _) (S2.out.alloc _) _ (by simp)) (by unfold maxLen; simp) ?_).mono ?_
  · intro i hi
    match i, hi with
    | 0, _ => simp; omega
    | 1, _ => simp; omega
  rintro e w1 ⟨hg1, ⟨_, x, rfl, hx⟩ | ⟨hbad, _⟩⟩
  · go_wp2
    go_ret
    exact ⟨x, rfl, hx, grown_trans (grown_alloc (grown_alloc (grown_refl _ _) _) _) hg1⟩
  · rw [joinF_two] at hbad; omega
set_option maxRecDepth 100000 in
set_option maxHeartbeats 1000000 in
theorem forkDigest_any (w : World) (b : Nat) (hb : b < 145) (v u : Value) (x y : List UInt8) (hv : SliceIs w v x) (hu : SliceIs w u y) (hx : x.length = 32) (hy : y.length = 32) :
    Calls Tryd.prog 25 #[.int .i64 (b : Int), v, u] w fun e w' => ∃ z, e = .returned z ∧ SliceIs w' z (sumF (joinF 2 [[UInt8.ofNat b], x, y])) ∧ w.grownBy w' none := by
  obtain ⟨a1, c1, rfl⟩ := hv.shape
  obtain ⟨a2, c2, rfl⟩ := hu.shape
  have S1 : Hid (SliceIs w (.slice a1 x.length c1) x) := hv
  have S2 : Hid (SliceIs w (.slice a2 y.length c2) y) := hu
  have HX : Hid (x.length = 32) := hx
  have HY : Hid (y.length = 32) := hy
  clear hv hu hx hy
  go_enter Tryd.func25, Tryd.ntmps25
  go_wp2_with fail
  have hone : SliceIs (w.alloc (.cells #[.int .u8 (b : Int)] 5)) (.slice (some ⟨w.heap.size, 0, none⟩) 1 1) [UInt8.ofNat b] := by
    have := one_slice w (UInt8.ofNat b) 5
    rw [show (((UInt8.ofNat b).toNat : Nat) : Int) = (b : Int) by simp; omega] at this
    exact this
  refine (partsOf_any _ 2 _ [[UInt8.ofNat b], x, y] (listIs_three _ _ _ _ _ [UInt8.ofNat b] x y hone (S1.out.alloc _) (S2.out.alloc _) _ (by simp)) (by unfold maxLen; simp) ?_).mono ?_
  · intro i hi
    have h1 := HX.out
    have h2 := HY.out
    match i, hi with
    | 0, _ => simp
    | 1, _ => simp [h1]
    | 2, _ => simp [h2]
  rintro e w1 ⟨hg1, ⟨_, z, rfl, hz⟩ | ⟨hbad, _⟩⟩
  · go_wp2
    go_ret
    exact ⟨z, rfl, hz, grown_trans (grown_alloc (grown_alloc (grown_refl _ _) _) _) hg1⟩
  · rw [joinF_three, HX.out, HY.out] at hbad; simp at hbad
set_option maxRecDepth 100000 in
set_option maxHeartbeats 1000000 in
theorem rootOf_any : ∀ (n : Nat) (w : World) (v : Value) (l : PL), l.length ≤ n → PairsIs w v l → Tree l →
    Calls Tryd.prog 13 #[v] w fun e w' => ∃ x, e = .returned x ∧ SliceIs w' x (rootL l) ∧ w.grownBy w' none := by
  intro n
  induction n with
  | zero =>
    intro w v l hn hv hT
    obtain ⟨a, cap, rfl⟩ := hv.shape
    have h0 : l.length = 0 := by omega
    rw [rootL_none l h0]
    have t1 : (l.length : Int) = 0 := by omega
    go_enter Tryd.func13, Tryd.ntmps13
    go_wp2_with fail
    refine (noneDigest_any _).mono ?_
    rintro e w1 ⟨x, rfl, hx, hg1⟩
    go_wp2
    go_ret
    exact ⟨x, rfl, hx, hg1⟩
  | succ n ih =>
    intro w v l hn hv hT
    have IH : Hid (∀ (w : World) (v : Value) (l : PL), l.length ≤ n → PairsIs w v l → Tree l → Calls Tryd.prog 13 #[v] w fun e w' => ∃ x, e = .returned x ∧ SliceIs w' x (rootL l) ∧ w.grownBy w' none) := ih
    clear ih
    obtain ⟨a, cap, rfl⟩ := hv.shape
    by_cases h0 : l.length = 0
    · rw [rootL_none l h0]
      have t1 : (l.length : Int) = 0 := by omega
      go_enter Tryd.func13, Tryd.ntmps13
      go_wp2_with fail
      refine (noneDigest_any _).mono ?_
      rintro e w1 ⟨x, rfl, hx, hg1⟩
      go_wp2
      go_ret
      exact ⟨x, rfl, hx, hg1⟩
    · have t1 : ¬ (l.length : Int) = 0 := by omega
      by_cases h1 : l.length = 1
      · rw [rootL_one l h1]
        have t2 : (l.length : Int) = 1 := by omega
        obtain ⟨b, o, rfl, hat⟩ := hv.at 0 (by omega)
        obtain ⟨vk, vv, c1, c2, s1, s2⟩ := hat
        rw [Nat.zero_mul, Nat.add_zero] at c1 c2
        have hp := hT.pairs l[0] (List.getElem_mem (by omega))
        rw [show l[0] = l.getD 0 ([], []) by simp [show 0 < l.length by omega]] at hp
        generalize l.getD 0 ([], []) = P at *
        have LD : Hid (Calls Tryd.prog 23 #[.agg #[vk, vv]] w fun e w' => ∃ x, e = .returned x ∧ SliceIs w' x (sumF (joinF 1 [P.1, P.2])) ∧ w.grownBy w' none) := leafDigest_any w _ P ⟨vk, vv, rfl, s1, s2⟩ hp
        obtain ⟨ak, ck, rfl⟩ := s1.shape
        obtain ⟨av, cv, rfl⟩ := s2.shape
        clear s1 s2 hT hv
        go_enter Tryd.func13, Tryd.ntmps13
        go_wp2_with fail
        refine LD.out.mono ?_
        rintro e w1 ⟨x, rfl, hx, hg1⟩
        go_wp2
        go_ret
        exact ⟨x, rfl, hx, hg1⟩
      · have t2 : ¬ (l.length : Int) = 1 := by omega
        have h2 : 2 ≤ l.length := by omega
        rw [rootL_fork l hT h2]
        have SD : Hid (Calls Tryd.prog 24 #[.slice a l.length cap] w fun e w' => ∃ x y, e = .returned (.tuple #[.int .i64 (forkBit l), x, y]) ∧ PairsIs w' x (sideL l (forkBit l).toNat false) ∧ PairsIs w' y (sideL l (forkBit l).toNat true) ∧ w.grownBy w' none) := sides_any w _ l hv hT h2
        have hrange := forkBit_range hT h2
        have hsl := sides_less hT h2
        have tF := side_tree hT (forkBit l).toNat false
        have tT := side_tree hT (forkBit l).toNat true
        have hF := hsl false
        have hTr := hsl true
        obtain ⟨B, hB⟩ : ∃ B : Nat, forkBit l = (B : Int) := ⟨(forkBit l).toNat, by omega⟩
        have eB : (forkBit l).toNat = B := by omega
        have hB2 : B < 145 := by omega
        rw [eB] at tF tT hF hTr SD ⊢
        rw [hB] at SD
        generalize sideL l B false = L at *
        generalize sideL l B true = R at *
        have rL := rootL_len L
        have rR := rootL_len R
        have HRL : Hid ((rootL L).length = 32) := rL
        have HRR : Hid ((rootL R).length = 32) := rR
        generalize hXL : rootL L = XL at *
        generalize hXR : rootL R = XR at *
        have HXL : Hid (rootL L = XL) := hXL
        have HXR : Hid (rootL R = XR) := hXR
        clear rL rR hXL hXR hsl hB hv hrange eB
        go_enter Tryd.func13, Tryd.ntmps13
        go_wp2_with fail
        refine SD.out.mono ?_
        rintro e w1 ⟨x, y, rfl, hx, hy, hg1⟩
        go_wp2_with fail
        refine (IH.out w1 x L (by omega) hx tF).mono ?_
        rintro e w2 ⟨u, rfl, hu, hg2⟩
        go_wp2_with fail
        refine (IH.out w2 y R (by omega) (hy.grown hg2) tT).mono ?_
        rintro e w3 ⟨z, rfl, hz, hg3⟩
        rw [HXL.out] at hu
        rw [HXR.out] at hz
        go_wp2_with fail
        refine (forkDigest_any w3 B hB2 u z XL XR (hu.grown hg3) hz HRL.out HRR.out).mono ?_
        rintro e w4 ⟨d, rfl, hd, hg4⟩
        go_wp2
        go_ret
        exact ⟨d, rfl, hd, grown_trans hg1 (grown_trans hg2 (grown_trans hg3 hg4))⟩
end Go.Proofs.YtdpoickggdgddaaDoor

/-
  The walks of the document's answer to P3: before, sameBytes, pairFault, PairsFault, pairsAndKey.
-/
namespace Go.Proofs.YtdpoickggdgddaaDoor
open Go.RowKit
theorem before_any (w : World) (v1 v2 : Value) (b1 b2 : List UInt8) (h1 : SliceIs w v1 b1) (h2 : SliceIs w v2 b2) :
    Calls Tryd.prog 21 #[v1, v2] w fun e w' => e = .returned (.bool (klt b1 b2)) ∧ w' = w := by
  have c1 := conv_bytes w v1 b1 h1
  have c2 := conv_bytes w v2 b2 h2
  go_enter Tryd.func21, Tryd.ntmps21
  go_wp2
  go_ret
  refine ⟨?_, rfl⟩
  have e : Op.bytesLess (textOf b1).toList (textOf b2).toList = klt b1 b2 := by rw [textOf_list, textOf_list]
  rw [← e]
  rfl
theorem rpairFault_any (w : World) (ak av : Option Addr) (p : Pr) (ck cv : Nat) :
    Calls Tryd.prog 20 #[.agg #[.slice ak p.1.length ck, .slice av p.2.length cv]] w fun e w' => e = .returned (.int .i64 (pairFaultF p)) ∧ w.grownBy w' none := by
  by_cases h : 32 < p.2.length
  · rw [pairFaultF, if_pos h]
    have t1 : (p.2.length : Int) > 32 := by omega
    go_enter Tryd.func20, Tryd.ntmps20
    go_wp2
    go_ret
    exact ⟨rfl, World.grownBy_alloc _ _ _⟩
  · rw [pairFaultF, if_neg h]
    have t1 : ¬ (p.2.length : Int) > 32 := by omega
    go_enter Tryd.func20, Tryd.ntmps20
    go_wp2_with fail
    refine (keyFault_any _ _ _ _).mono ?_
    rintro e w1 ⟨rfl, rfl⟩
    go_wp2
    go_ret
    exact ⟨rfl, World.grownBy_alloc _ _ _⟩
end Go.Proofs.YtdpoickggdgddaaDoor

/-
  The walks of the document's answer to P3.1: PairsFault, pairsAndKey.
-/
namespace Go.Proofs.YtdpoickggdgddaaDoor
open Go.RowKit
set_option maxRecDepth 100000 in
set_option maxHeartbeats 1000000 in
theorem pairsFault_any (w : World) (v : Value) (l : PL) (hv : PairsIs w v l) :
    Calls Tryd.prog 12 #[v] w fun e w' => e = .returned (.int .i64 (pairsFaultF l)) ∧ w.grownBy w' none := by
  obtain ⟨a, cap, rfl⟩ := hv.shape
  by_cases hl : 60 < l.length
  · rw [pairsFault_long l hl]
    have t1 : (l.length : Int) > 60 := by omega
    go_enter Tryd.func12, Tryd.ntmps12
    go_wp2
    go_ret
    exact ⟨rfl, grown_refl _ _⟩
  · have t1 : ¬ (l.length : Int) > 60 := by omega
    go_enter Tryd.func12, Tryd.ntmps12
    go_wp2_with fail
    go_loopw [3] (fun iv wr => ∃ m : Nat, m ≤ l.length ∧ iv = .int .i64 (m : Int) ∧ w.grownBy wr none ∧ ∀ j, j < m → faultAt l j = 0) (fun iv _ => l.length - (intOf iv).toNat)
    case atStart => exact ⟨0, by omega, rfl, grown_refl _ _, fun j hj => by omega⟩
    case round =>
      obtain ⟨m, hm, rfl, hgr, hok⟩ := hrel
      have HOK : Hid (∀ j, j < m → faultAt l j = 0) := hok
      clear hok
      by_cases hlt : m < l.length
      · have t2 : (m : Int) < (l.length : Int) := by omega
        obtain ⟨b, o, rfl, hat⟩ := hv.at m hlt
        obtain ⟨vk, vv, c1, c2, s1, s2⟩ := hat.grown hgr
        generalize hP : l.getD m ([], []) = P at s1 s2
        have HA : Hid (faultAt l m = if pairFaultF P = 0 then (if 0 < m ∧ klt (l.getD (m - 1) ([], [])).1 P.1 = false then 3 else 0) else pairFaultF P) := by
          show _ = _
          unfold faultAt
          rw [hP]
        obtain ⟨ak, ck, rfl, hck, hrk⟩ := s1
        obtain ⟨av, cv, rfl, hcv, hrv⟩ := s2
        have s1 : SliceIs wr (.slice ak P.1.length ck) P.1 := ⟨ak, ck, rfl, hck, hrk⟩
        clear hrk hrv hat hP
        go_wp2_with fail
        refine (rpairFault_any _ _ _ P _ _).mono ?_
        rintro e w1 ⟨rfl, hg1⟩
        by_cases hf : pairFaultF P = 0
        · rw [hf]
          have c1 := hg1.cell c1 (by simp)
          have s1 := s1.grown hg1
          have hgw := grown_trans hgr hg1
          by_cases h0 : m = 0
          · subst h0
            have HZ : Hid (faultAt l 0 = 0) := by show _ = _; rw [HA.out, if_pos hf, if_neg (by simp)]
            go_wp2_with fail
            go_quiet (fail)
            all_goals go_wp2_with fail
            go_roundw
            case rel =>
              have hs : ∀ j, j < 0 + 1 → faultAt l j = 0 := fun j hj => by
                obtain rfl : j = 0 := by omega
                exact HZ.out
              exact ⟨1, by omega, rfl, grown_drewN hgw _, hs⟩
            case measure => simp [intOf]; omega
          · obtain ⟨n, rfl⟩ : ∃ n, m = n + 1 := ⟨m - 1, by omega⟩
            obtain ⟨b2, o2, e, hat⟩ := hv.at n (by omega)
            cases e
            obtain ⟨qk, qv, d1, d2, r1, r2⟩ := hat.grown hgw
            clear d2 r2 hat
            have HA2 : Hid (faultAt l (n + 1) = if klt (l.getD n ([], [])).1 P.1 = false then 3 else 0) := by
              show _ = _
              rw [HA.out, if_pos hf]
              simp
            generalize (l.getD n ([], [])).1 = q at *
            have i0 : IntKind.i64.wrap (n : Int) = (n : Int) := by rw [IntKind.wrap_i64]; omega
            have R1 : Hid (SliceIs w1 qk q) := r1
            have S1 : Hid (SliceIs w1 (.slice ak P.1.length ck) P.1) := s1
            have i2 : (n : Int) < (l.length : Int) := by omega
            have i3 : ((n + 1 : Nat) : Int) > 0 := by omega
            clear s1 r1
            go_wp2_with fail
            go_quiet (first | (go_at_call 21; exact Calls.quiet_of_same (before_any _ _ _ _ _ (R1.out.drewN _) (S1.out.drewN _))))
            cases hk : klt q P.1 with
            | true =>
              have HZ : Hid (faultAt l (n + 1) = 0) := by show _ = _; rw [HA2.out, hk]; simp
              go_wp2_with fail
              go_roundw
              case rel =>
                have hs : ∀ j, j < n + 1 + 1 → faultAt l j = 0 := fun j hj => by
                  by_cases hjm : j = n + 1
                  · subst hjm; exact HZ.out
                  · exact HOK.out j (by omega)
                first
                  | exact ⟨n + 1 + 1, by omega, by go_num, grown_drewN hgw _, hs⟩
                  | ((repeat apply Exists.intro); refine ⟨⟨n + 1 + 1, by omega, ?_, grown_drewN hgw _, hs⟩, rfl⟩; go_num)
              case measure => simp [intOf]; omega
            | false =>
              have HZ : Hid (pairsFaultF l = 3) := by
                have e : faultAt l (n + 1) = 3 := by rw [HA2.out, hk]; simp
                show _ = _
                rw [← e]
                exact pairsFault_at l (n + 1) hlt (by omega) HOK.out (by rw [e]; decide)
              go_wp2
              go_ret
              exact ⟨by rw [HZ.out]; rfl, grown_drewN hgw _⟩
        · have HF : Hid (pairsFaultF l = pairFaultF P) := by
            have e : faultAt l m = pairFaultF P := by rw [HA.out, if_neg hf]
            show _ = _
            rw [← e]
            exact pairsFault_at l m hlt (by omega) HOK.out (by rw [e]; exact hf)
          generalize pairFaultF P = z at *
          have hz : (z != 0) = true := by simpa using hf
          go_wp2
          go_ret
          exact ⟨by rw [HF.out]; rfl, grown_trans hgr hg1⟩
      · obtain rfl : m = l.length := by omega
        have HP : Hid (pairsFaultF l = 0) := pairsFault_none l (by omega) HOK.out
        go_wp2
        go_ret
        exact ⟨by rw [HP.out]; rfl, hgr⟩
end Go.Proofs.YtdpoickggdgddaaDoor

/-
  The walk of the document's answer to P3.6: RootOf.
-/
namespace Go.Proofs.YtdpoickggdgddaaDoor
open Go.RowKit
theorem RootOf_any (w : World) (v : Value) (l : PL) (hv : PairsIs w v l) :
    Calls Tryd.prog 6 #[v] w fun e w' => ∃ x, e = .returned (.tuple #[x, .int .i64 (pairsFaultF l)]) ∧ SliceIs w' x (rootF l) ∧ w.grownBy w' none := by
  by_cases h : pairsFaultF l = 0
  · rw [rootF, if_pos h, h]
    have hT := (tree_iff l).1 h
    have PF : Hid (Calls Tryd.prog 12 #[v] w fun e w' => e = .returned (.int .i64 0) ∧ w.grownBy w' none) := by
      have := pairsFault_any w v l hv
      rw [h] at this
      exact this
    have RO : Hid (∀ w', w.grownBy w' none → Calls Tryd.prog 13 #[v] w' fun e w'' => ∃ x, e = .returned x ∧ SliceIs w'' x (rootL l) ∧ w'.grownBy w'' none) := fun w' hg => rootOf_any l.length w' v l (Nat.le_refl _) (hv.grown hg) hT
    generalize rootL l = R at *
    clear h hT hv
    go_enter Tryd.func6, Tryd.ntmps6
    go_wp2_with fail
    refine PF.out.mono ?_
    rintro e w1 ⟨rfl, hg1⟩
    go_wp2_with fail
    refine (RO.out _ hg1).mono ?_
    rintro e w2 ⟨x, rfl, hx, hg2⟩
    go_wp2
    go_ret2
    exact ⟨x, rfl, hx, grown_trans hg1 hg2⟩
  · rw [rootF, if_neg h]
    have PF : Hid (Calls Tryd.prog 12 #[v] w fun e w' => e = .returned (.int .i64 (pairsFaultF l)) ∧ w.grownBy w' none) := pairsFault_any w v l hv
    generalize pairsFaultF l = z at *
    have hz : (z != 0) = true := by simpa using h
    go_enter Tryd.func6, Tryd.ntmps6
    go_wp2_with fail
    refine PF.out.mono ?_
    rintro e w1 ⟨rfl, hg1⟩
    go_wp2
    go_ret2
    exact ⟨_, rfl, sliceIs_nil _, hg1⟩
end Go.Proofs.YtdpoickggdgddaaDoor
