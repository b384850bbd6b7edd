/-
  The document's answer: RequestBytes.
-/
import Derived.Test.YtghjikifflpeiaaDoorRRq1
import Derived.Test.YtghjikifflpeiaaDoorRqEn
import Derived.Test.YtghjikifflpeiaaDoorRLenAnd
namespace Go.Proofs.YtghjikifflpeiaaDoor
open Go.RowKit
set_option maxRecDepth 100000 in
set_option maxHeartbeats 4000000 in
theorem requestBytes_any (w : World) (v : Value) (r : Rq) (hv : RqIs w v r) (hf : RqFits r) :
    Calls Tryd.prog 13 #[v] w fun e w' => ∃ x, e = .returned (.tuple #[x, .int .i64 (reqE r)]) ∧ SliceIs w' x (rencB r) ∧ w.grownBy w' none := by
  obtain ⟨n1, n2, k1, k2, l1, l2, v1, v2, rfl⟩ := hv.agg
  obtain ⟨_, S0, S1, S2, S3⟩ := hv.parts
  obtain ⟨W0, HW0, hg0, B0⟩ := alloc_namedR w (.cells #[.int .i64 r.kind, .slice n1 r.name.length n2, .slice k1 r.key.length k2, .slice l1 r.last.length l2, .slice v1 r.value.length v2] 24)
  obtain ⟨⟨c0, c1, c2, c3, c4⟩, hfz, _⟩ := five_room (grown_refl W0 none) B0.out
  clear hfz
  have CK : Hid (Calls Tryd.prog 11 #[.agg #[.int .i64 r.kind, .slice n1 r.name.length n2, .slice k1 r.key.length k2, .slice l1 r.last.length l2, .slice v1 r.value.length v2]] W0 fun e w' => e = .returned (.int .i64 (reqE r)) ∧ W0.grownBy w' none) := requestFault_any W0 _ r (hv.grown hg0) hf
  by_cases hz : reqE r = 0
  · have ho := (req_iff r).1 hz
    have hk := ho.kind
    have hB : rencB r = UInt8.ofNat r.kind.toNat :: restB r := by rw [rencB, if_pos hz, reqB]
    have HNK : Hid (r.kind = 3 ∨ r.kind = 4 → namedK r.kind = true) := fun h => by rcases h with h | h <;> rw [h] <;> decide
    have H0 : Hid (namedK r.kind = false → r.kind ≠ 3 → r.kind ≠ 4 → rencB r = [UInt8.ofNat r.kind.toNat]) := fun h1 h2 h3 => by
      rw [hB, restB, h1, decide_eq_false h2, decide_eq_false h3]; rfl
    have H1 : Hid (namedK r.kind = true → r.kind ≠ 3 → r.kind ≠ 4 → rencB r = [UInt8.ofNat r.kind.toNat] ++ lenAnd r.name ++ lenAnd r.key) := fun h1 h2 h3 => by
      rw [hB, restB, h1, decide_eq_false h2, decide_eq_false h3]; simp [partB]
    have H3 : Hid (namedK r.kind = true → r.kind = 3 → rencB r = [UInt8.ofNat r.kind.toNat] ++ lenAnd r.name ++ lenAnd r.key ++ lenAnd r.last) := fun h1 h2 => by
      rw [hB, restB, h1, h2]; simp [partB]
    have H4 : Hid (namedK r.kind = true → r.kind = 4 → rencB r = [UInt8.ofNat r.kind.toNat] ++ lenAnd r.name ++ lenAnd r.key ++ lenAnd r.value) := fun h1 h2 => by
      rw [hB, restB, h1, h2]; simp [partB]
    have k1' : r.name.length ≤ 8 := by
      by_cases e : namedK r.kind = true
      · exact (ho.name e).2
      · rw [ho.noName (by simpa using e)]; simp
    have k2' : r.key.length ≤ 16 := by
      by_cases e : namedK r.kind = true
      · exact (ho.key e).2
      · rw [ho.noKey (by simpa using e)]; simp
    have k3' : r.last.length ≤ 16 := by
      by_cases e : r.kind = 3
      · exact (ho.last e).2
      · rw [ho.noLast e]; simp
    have k4' := ho.value
    rw [hz] at CK ⊢
    have NA : Hid (∀ w', Calls Tryd.prog 33 #[.int .i64 r.kind] w' fun e w'' => e = .returned (.bool (namedK r.kind)) ∧ w'' = w') := fun w' => named_any _ _
    have L0 : Hid (∀ w', W0.grownBy w' none → Calls Tryd.prog 36 #[.slice n1 r.name.length n2] w' fun e w'' => ∃ v', e = .returned v' ∧ Own w'.heap.size w'' v' (lenAnd r.name) ∧ w'.grownBy w'' none) := fun w' hg' => lengthAnd_any w' _ _ (S0.grown (grown_trans hg0 hg')) (by omega)
    have A0 := lenAnd_len r.name
    have L1 : Hid (∀ w', W0.grownBy w' none → Calls Tryd.prog 36 #[.slice k1 r.key.length k2] w' fun e w'' => ∃ v', e = .returned v' ∧ Own w'.heap.size w'' v' (lenAnd r.key) ∧ w'.grownBy w'' none) := fun w' hg' => lengthAnd_any w' _ _ (S1.grown (grown_trans hg0 hg')) (by omega)
    have A1 := lenAnd_len r.key
    have L2 : Hid (∀ w', W0.grownBy w' none → Calls Tryd.prog 36 #[.slice l1 r.last.length l2] w' fun e w'' => ∃ v', e = .returned v' ∧ Own w'.heap.size w'' v' (lenAnd r.last) ∧ w'.grownBy w'' none) := fun w' hg' => lengthAnd_any w' _ _ (S2.grown (grown_trans hg0 hg')) (by omega)
    have A2 := lenAnd_len r.last
    have L3 : Hid (∀ w', W0.grownBy w' none → Calls Tryd.prog 36 #[.slice v1 r.value.length v2] w' fun e w'' => ∃ v', e = .returned v' ∧ Own w'.heap.size w'' v' (lenAnd r.value) ∧ w'.grownBy w'' none) := fun w' hg' => lengthAnd_any w' _ _ (S3.grown (grown_trans hg0 hg')) (by omega)
    have A3 := lenAnd_len r.value
    have JN : Hid (∀ w' x y (B C : List UInt8), SliceIs w' x B → SliceIs w' y C → B.length ≤ 10000 → C.length ≤ 10000 → Calls Tryd.prog 37 #[x, y] w' fun e w'' => ∃ v', e = .returned v' ∧ SliceIs w'' v' (B ++ C) ∧ w'.grownBy w'' none) := fun w' x y B C h1 h2 h3 h4 => (joined_gen w' x y B C h1 h2 (by omega)).mono (by rintro e w'' ⟨v', rfl, h, hg'⟩; exact ⟨v', rfl, h.slice, hg'⟩)
    obtain ⟨x0, hx0⟩ : ∃ x : Int, x = ((UInt8.ofNat r.kind.toNat).toNat : Int) := ⟨_, rfl⟩
    have hcv : IntKind.u8.wrap r.kind = x0 := by
      obtain ⟨k, hK⟩ : ∃ k : Nat, r.kind = (k : Int) := ⟨r.kind.toNat, by omega⟩
      rw [hx0, hK]; simp [IntKind.wrap_u8]
    have HX0 : Hid (x0 = ((UInt8.ofNat r.kind.toNat).toNat : Int)) := hx0
    obtain ⟨G, hG⟩ : ∃ G, G = rencB r := ⟨_, rfl⟩
    rw [← hG] at H0 H1 H3 H4 ⊢
    clear hz hv hf hk ho S0 S1 S2 S3 hB hG hx0
    generalize UInt8.ofNat r.kind.toNat = kb at *
    generalize r.kind = K at *
    generalize hln : lenAnd r.name = bn at *
    generalize hlk : lenAnd r.key = bk at *
    generalize hll : lenAnd r.last = bl at *
    generalize hlv : lenAnd r.value = bv at *
    clear hln hlk hll hlv
    generalize r.name.length = n at *
    generalize r.key.length = q at *
    generalize r.last.length = l at *
    generalize r.value.length = x at *
    have b0 : bn.length ≤ 100 := by omega
    have b1 : bk.length ≤ 100 := by omega
    have b2 : bl.length ≤ 100 := by omega
    have b3 : bv.length ≤ 100 := by omega
    clear A0 A1 A2 A3 k1' k2' k3' k4'
    go_enter Tryd.func13, Tryd.ntmps13
    go_upto_region 1 with fail
    rw [← HW0.out]
    obtain ⟨IB, hIB⟩ : ∃ IB, IB = w.heap.size := ⟨_, rfl⟩
    rw [← hIB] at B0 c0 c1 c2 c3 c4 ⊢
    clear hIB
    go_wp2_with fail
    refine CK.out.mono ?_
    rintro e w1 ⟨rfl, hg1⟩
    clear c0 c1 c2 c3 c4
    obtain ⟨⟨c0, c1, c2, c3, c4⟩, hfz, _⟩ := five_room hg1 B0.out
    clear hfz
    obtain ⟨W1, HW1, hgA1, BO⟩ := alloc_namedR w1 (.cells #[.int .u8 x0] 5)
    have hg := grown_trans hg1 hgA1
    have HK1 : Hid (SliceIs W1 (.slice (some ⟨w1.heap.size, 0, none⟩) 1 1) [kb]) := by rw [HW1.out, HX0.out]; exact one_slice w1 kb 5
    go_upto_region 5 with fail
    rw [← HW1.out]
    obtain ⟨OB, hOB⟩ : ∃ OB, OB = w1.heap.size := ⟨_, rfl⟩
    rw [← hOB] at HK1 ⊢
    clear hOB BO c0 c1 c2 c3 c4 HW1
    obtain ⟨⟨c0, c1, c2, c3, c4⟩, hfz, _⟩ := five_room hg B0.out
    clear hfz
    go_wp2_with fail
    refine (NA.out _).mono ?_
    rintro e w2 ⟨rfl, hw⟩
    rw [hw]
    clear hw
    cases hNK : namedK K with
    | false =>
      have hk3 : ¬ K = 3 := fun h => by rw [HNK.out (.inl h)] at hNK; cases hNK
      have hk4 : ¬ K = 4 := fun h => by rw [HNK.out (.inr h)] at hNK; cases hNK
      have i3 : (K == 3) = false := by simp [hk3]
      have i4 : (K == 4) = false := by simp [hk4]
      have HG : Hid (G = [kb]) := H0.out hNK hk3 hk4
      clear hNK hk3 hk4 H0 H1 H3 H4 HNK
      go_wp2
      go_ret2
      exact ⟨_, rfl, by rw [HG.out]; exact HK1.out, grown_trans hg0 hg⟩
    | true =>
      go_wp2_with fail
      refine (L0.out _ hg).mono ?_
      rintro e w3 ⟨y0, rfl, hw3, hgw3⟩
      have Hy0 : Hid (SliceIs w3 y0 bn) := hw3.slice
      obtain ⟨y0a, y0c, rfl⟩ := hw3.shape
      have hg03 := grown_trans hg hgw3
      clear hw3
      clear c0 c1 c2 c3 c4
      obtain ⟨⟨c0, c1, c2, c3, c4⟩, hfz, _⟩ := five_room hg03 B0.out
      clear hfz
      go_wp2_with fail
      refine (L1.out _ hg03).mono ?_
      rintro e w4 ⟨y1, rfl, hw4, hgw4⟩
      have Hy1 : Hid (SliceIs w4 y1 bk) := hw4.slice
      obtain ⟨y1a, y1c, rfl⟩ := hw4.shape
      have hg04 := grown_trans hg03 hgw4
      clear hw4
      clear c0 c1 c2 c3 c4
      obtain ⟨⟨c0, c1, c2, c3, c4⟩, hfz, _⟩ := five_room hg04 B0.out
      clear hfz
      go_wp2_with fail
      refine (JN.out _ _ _ _ _ (HK1.out.grown (grown_trans hgw3 hgw4)) (Hy0.out.grown hgw4) (by simp) (by omega)).mono ?_
      rintro e w5 ⟨z5, rfl, h5, hg5⟩
      have H5 : Hid (SliceIs w5 z5 ([kb] ++ bn)) := h5
      obtain ⟨z5a, z5c, rfl⟩ := h5.shape
      have hl5 : ([kb] ++ bn).length ≤ 200 := by simp; omega
      have hg05 := grown_trans hg04 hg5
      clear h5
      clear c0 c1 c2 c3 c4
      obtain ⟨⟨c0, c1, c2, c3, c4⟩, hfz, _⟩ := five_room hg05 B0.out
      clear hfz
      generalize [kb] ++ bn = P5 at *
      go_wp2_with fail
      refine (JN.out _ _ _ _ _ H5.out (Hy1.out.grown hg5) (by omega) (by omega)).mono ?_
      rintro e w6 ⟨z6, rfl, h6, hg6⟩
      have H6 : Hid (SliceIs w6 z6 (P5 ++ bk)) := h6
      obtain ⟨z6a, z6c, rfl⟩ := h6.shape
      have hl6 : (P5 ++ bk).length ≤ 400 := by rw [List.length_append]; omega
      have hg06 := grown_trans hg05 hg6
      clear h6
      clear c0 c1 c2 c3 c4
      obtain ⟨⟨c0, c1, c2, c3, c4⟩, hfz, _⟩ := five_room hg06 B0.out
      clear hfz
      by_cases hk3 : K = 3
      · have HG : Hid (G = P5 ++ bk ++ bl) := H3.out hNK hk3
        subst hk3
        clear hNK H0 H1 H3 H4 HNK
        generalize P5 ++ bk = P6 at *
        go_wp2_with fail
        refine (L2.out _ hg06).mono ?_
        rintro e w7 ⟨y2, rfl, hw7, hgw7⟩
        have Hy2 : Hid (SliceIs w7 y2 bl) := hw7.slice
        obtain ⟨y2a, y2c, rfl⟩ := hw7.shape
        have hg07 := grown_trans hg06 hgw7
        clear hw7
        clear c0 c1 c2 c3 c4
        obtain ⟨⟨c0, c1, c2, c3, c4⟩, hfz, _⟩ := five_room hg07 B0.out
        clear hfz
        go_wp2_with fail
        refine (JN.out _ _ _ _ _ (H6.out.grown hgw7) Hy2.out (by omega) (by omega)).mono ?_
        rintro e w8 ⟨z8, rfl, h8, hg8⟩
        have H8 : Hid (SliceIs w8 z8 (P6 ++ bl)) := h8
        obtain ⟨z8a, z8c, rfl⟩ := h8.shape
        have hg08 := grown_trans hg07 hg8
        clear h8
        clear c0 c1 c2 c3 c4
        obtain ⟨⟨c0, c1, c2, c3, c4⟩, hfz, _⟩ := five_room hg08 B0.out
        clear hfz
        generalize P6 ++ bl = P8 at *
        go_wp2
        go_ret2
        exact ⟨_, rfl, by rw [HG.out]; exact H8.out, grown_trans hg0 hg08⟩
      · by_cases hk4 : K = 4
        · have HG : Hid (G = P5 ++ bk ++ bv) := H4.out hNK hk4
          subst hk4
          clear hNK H0 H1 H3 H4 HNK hk3
          generalize P5 ++ bk = P6 at *
          go_wp2_with fail
          refine (L3.out _ hg06).mono ?_
          rintro e w7 ⟨y2, rfl, hw7, hgw7⟩
          have Hy2 : Hid (SliceIs w7 y2 bv) := hw7.slice
          obtain ⟨y2a, y2c, rfl⟩ := hw7.shape
          have hg07 := grown_trans hg06 hgw7
          clear hw7
          clear c0 c1 c2 c3 c4
          obtain ⟨⟨c0, c1, c2, c3, c4⟩, hfz, _⟩ := five_room hg07 B0.out
          clear hfz
          go_wp2_with fail
          refine (JN.out _ _ _ _ _ (H6.out.grown hgw7) Hy2.out (by omega) (by omega)).mono ?_
          rintro e w8 ⟨z8, rfl, h8, hg8⟩
          have H8 : Hid (SliceIs w8 z8 (P6 ++ bv)) := h8
          obtain ⟨z8a, z8c, rfl⟩ := h8.shape
          have hg08 := grown_trans hg07 hg8
          clear h8
          clear c0 c1 c2 c3 c4
          obtain ⟨⟨c0, c1, c2, c3, c4⟩, hfz, _⟩ := five_room hg08 B0.out
          clear hfz
          generalize P6 ++ bv = P8 at *
          go_wp2
          go_ret2
          exact ⟨_, rfl, by rw [HG.out]; exact H8.out, grown_trans hg0 hg08⟩
        · have HG : Hid (G = P5 ++ bk) := H1.out hNK hk3 hk4
          have i3 : (K == 3) = false := by simp [hk3]
          have i4 : (K == 4) = false := by simp [hk4]
          clear hNK H0 H1 H3 H4 HNK hk3 hk4
          generalize P5 ++ bk = P6 at *
          go_wp2
          go_ret2
          exact ⟨_, rfl, by rw [HG.out]; exact H6.out, grown_trans hg0 hg06⟩
  · have hE : rencB r = [] := by rw [rencB, if_neg hz]
    rw [hE]
    have hz' : (reqE r != 0) = true := by simpa using hz
    generalize reqE r = z at *
    clear hz hv hf
    go_enter Tryd.func13, Tryd.ntmps13
    go_upto_region 1 with fail
    rw [← HW0.out]
    go_wp2_with fail
    refine CK.out.mono ?_
    rintro e w1 ⟨rfl, hg1⟩
    go_wp2
    go_ret2
    exact ⟨_, rfl, sliceIs_nil _, grown_trans hg0 hg1⟩
end Go.Proofs.YtghjikifflpeiaaDoor
