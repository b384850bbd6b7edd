/-
  What the document's answer to P1.1 reckons: bytes behind the bytes, lanes, the digest's bytes.
-/
import Derived.Test.YtdpoickggdgddaaDoorREq
import Derived.Test.YtdpoickggdgddaaDoorRNum
import Derived.Test.YtdpoickggdgddaaDoorSum
import Derived.Test.YtdpoickggdgddaaDoorOwn
namespace Go.Proofs.YtdpoickggdgddaaDoor
open Go.RowKit
/-- What a slice of the call's own gives, where it has a byte. -/
theorem Own.block {base : Nat} {w : World} {v : Value} {bs : List UInt8} (h : Own base w v bs) (hne : bs ≠ []) :
    ∃ g cap, v = .slice (some ⟨g, 0, none⟩) bs.length cap ∧ base ≤ g ∧ g < w.heap.size ∧ BytesAt w g 0 bs ∧ ∀ i, w.frozen? ⟨g, i, none⟩ = false := by
  have hs := h.slice
  rcases h.2 with ⟨rfl, h0⟩ | ⟨g, cap, cur, rfl, hb, hg, hn, hm, hsz, ht⟩
  · exact absurd (List.eq_nil_of_length_eq_zero h0) hne
  · refine ⟨g, cap, rfl, hb, (Array.getElem?_eq_some_iff.1 hg).1, ?_, fun i => by simp [World.frozen?, hg]⟩
    obtain ⟨a, c, e, _, hr⟩ := hs
    simp only [Value.slice.injEq, true_and] at e
    obtain ⟨rfl, rfl⟩ := e
    rcases hr with ⟨h0, _⟩ | ⟨b, o, e, hB⟩
    · exact absurd h0 hne
    · simp only [Option.some.injEq, Addr.mk.injEq, and_true] at e
      obtain ⟨rfl, rfl⟩ := e
      exact hB
theorem Own.set {base : Nat} {w : World} {g n cap : Nat} {bs : List UInt8} (h : Own base w (.slice (some ⟨g, 0, none⟩) n cap) bs) (i : Nat) (c : UInt8) : Own base (w.setCell ⟨g, i, none⟩ (.int .u8 (c.toNat : Int))) (.slice (some ⟨g, 0, none⟩) n cap) (bs.set i c) := by
  obtain ⟨h1, h2⟩ := h
  rcases h2 with ⟨h2, _⟩ | ⟨g', cap', cur, e, hb, hg, hn, hm, hsz, ht⟩
  · cases h2
  · simp only [Value.slice.injEq, Option.some.injEq, Addr.mk.injEq, and_true] at e
    obtain ⟨rfl, rfl, rfl⟩ := e
    refine ⟨by simp [vals], .inr ⟨g, cap, cur.setIfInBounds i (.int .u8 (c.toNat : Int)), by simp, hb, ?_, by simpa using hn, hm, by simpa using hsz, ?_⟩⟩
    · simp only [World.setCell, Array.getElem?_modify, if_true, hg, Option.map_some]
      simp
    · rw [Array.toList_setIfInBounds, List.length_set, List.take_set, ht]
      simp [vals]
theorem padMark_eq (bs : List UInt8) : padMark bs = bs ++ [6] ++ zeros (padLen bs.length - (bs.length + 1)) := by
  unfold padMark zeros
  have h : bs.length < padLen bs.length := by unfold padLen; omega
  obtain ⟨k, hk⟩ : ∃ k, padLen bs.length - bs.length = k + 1 := ⟨padLen bs.length - bs.length - 1, by omega⟩
  rw [hk, show padLen bs.length - (bs.length + 1) = k by omega, List.replicate_succ, List.append_assoc]
  rw [List.set_append_right _ _ (Nat.le_refl _)]
  simp
theorem padMark_last (bs : List UInt8) : ((padMark bs).getD (padLen bs.length - 1) 0).toNat ≤ 6 := by
  rw [padMark_eq]
  have h : bs.length < padLen bs.length := by unfold padLen; omega
  unfold zeros
  rw [List.append_assoc, List.getD_eq_getElem?_getD, List.getElem?_append_right (by omega)]
  by_cases h2 : padLen bs.length - 1 - bs.length = 0
  · rw [h2]; simp
  · obtain ⟨k, hk⟩ : ∃ k, padLen bs.length - 1 - bs.length = k + 1 := ⟨_, (Nat.succ_pred_eq_of_ne_zero h2).symm⟩
    rw [hk]
    simp only [List.cons_append, List.nil_append, List.getElem?_cons_succ]
    rw [List.getElem?_replicate]
    split <;> simp
theorem add128 (c : UInt8) (h : c.toNat ≤ 6) : (c.toNat : Int) + 128 = ((c ||| 128).toNat : Int) := by
  have hh : ∀ c : Fin 256, c.1 ≤ 6 → ((c.1 : Nat) : Int) + 128 = (((UInt8.ofNat c.1) ||| 128).toNat : Int) := by decide +kernel
  have := hh ⟨c.toNat, c.toNat_lt⟩ h
  simpa using this
/-- Eight bytes as a lane, from the last one on. -/
def hornerTo (p : List UInt8) (o : Nat) : Nat → BitVec 64
  | 0 => 0
  | j + 1 => hornerTo p o j * 256 + Z (p.getD (o + (7 - j)) 0)
theorem shl_or (x : BitVec 64) (c : UInt8) : x * 256 + Z c = x <<< 8 ||| Z c := by
  rw [show x * 256 = x <<< 8 from ?_]
  · rw [BitVec.add_eq_or_of_and_eq_zero]
    apply BitVec.eq_of_getLsbD_eq
    intro i hi
    rw [BitVec.getLsbD_and, BitVec.getLsbD_shiftLeft]
    unfold Z
    rw [BitVec.getLsbD_ofNat]
    by_cases h8 : i < 8
    · simp [h8]
    · have : c.toNat.testBit i = false := Nat.testBit_lt_two_pow (Nat.lt_of_lt_of_le c.toNat_lt (Nat.pow_le_pow_right (by decide) (by omega : 8 ≤ i)))
      simp [this]
  · rw [BitVec.shiftLeft_eq_mul_twoPow]; rfl
theorem horner_eq (p : List UInt8) (o : Nat) : hornerTo p o 8 = laneAt p o := by
  have e : ∀ j, hornerTo p o (j + 1) = hornerTo p o j <<< 8 ||| Z (p.getD (o + (7 - j)) 0) := fun j => shl_or _ _
  rw [e 7, e 6, e 5, e 4, e 3, e 2, e 1, e 0, show hornerTo p o 0 = 0#64 from rfl]
  simp only [BitVec.shiftLeft_or_distrib, ← BitVec.shiftLeft_add, laneAt, laneOf, Nat.reduceAdd, Nat.reduceSub, BitVec.zero_shiftLeft, BitVec.zero_or, Nat.add_zero, BitVec.or_assoc]
theorem laneAt_block (p : List UInt8) (k i : Nat) (hi : 8 * i + 8 ≤ 136) : laneAt (blockAt p k) (8 * i) = laneAt p (136 * k + 8 * i) := by
  have h : ∀ j, j < 136 → (blockAt p k).getD j 0 = p.getD (136 * k + j) 0 := by
    intro j hj
    simp [blockAt, hj]
  unfold laneAt
  rw [h _ (by omega), h _ (by omega), h _ (by omega), h _ (by omega), h _ (by omega), h _ (by omega), h _ (by omega), h _ (by omega)]
  rfl
theorem low_I (L : BitVec 64) : bits .and .i64 (I L) 255 = ((L.toNat % 256 : Nat) : Int) := by
  rw [show (255 : Int) = I 255 by decide, bits_and_I]
  have e : L &&& 255 = BitVec.ofNat 64 (L.toNat % 256) := by
    apply BitVec.eq_of_toNat_eq
    rw [BitVec.toNat_and, BitVec.toNat_ofNat, show (255 : BitVec 64).toNat = 2 ^ 8 - 1 from rfl, Nat.and_two_pow_sub_one_eq_mod]
    omega
  rw [e, I_small _ (by omega)]
theorem emod_I (L : BitVec 64) : I L % 256 = ((L.toNat % 256 : Nat) : Int) := by
  unfold I
  rw [BitVec.toInt_eq_toNat_cond]
  split <;> omega
theorem next_I (L : BitVec 64) : (I L - ((L.toNat % 256 : Nat) : Int)).tdiv 256 = I (L.sshiftRight 8) := by
  rw [← shr_I, ← emod_I]
  have h : I L - I L % 256 = 256 * (I L / 256) := by omega
  rw [h, Int.mul_tdiv_cancel_left _ (by decide)]
  rfl
theorem next_lo (L : BitVec 64) : -9223372036854775808 ≤ I L - ((L.toNat % 256 : Nat) : Int) ∧ I L - ((L.toNat % 256 : Nat) : Int) ≤ 9223372036854775807 := by
  have h1 := I_lo L
  have h2 := I_hi L
  rw [← emod_I]
  omega
theorem sar_low (x : BitVec 64) (n : Nat) (h : n ≤ 56) : (x.sshiftRight n).toNat % 256 = (x >>> n).toNat % 256 := by
  have e : (x.sshiftRight n).setWidth 8 = (x >>> n).setWidth 8 := by
    apply BitVec.eq_of_getLsbD_eq
    intro i hi
    rw [BitVec.getLsbD_setWidth, BitVec.getLsbD_setWidth, BitVec.getLsbD_sshiftRight, BitVec.getLsbD_ushiftRight]
    simp [hi, show n + i < 64 by omega, show ¬ 64 ≤ i by omega]
  have := congrArg BitVec.toNat e
  simpa using this
theorem out_byte (st : List (BitVec 64)) (m k : Nat) (hk : k < 8) : UInt8.ofNat (((st.getD m 0).sshiftRight (8 * k)).toNat % 256) = outByte st (8 * m + k) := by
  unfold outByte
  rw [show (8 * m + k) / 8 = m by omega, show (8 * m + k) % 8 * 8 = 8 * k by omega, sar_low _ _ (by omega)]
  apply UInt8.toNat_inj.1
  simp
/-- The first bytes of the digest. -/
def outN (st : List (BitVec 64)) (n : Nat) : List UInt8 := (List.range n).map (outByte st)
theorem outN_len (st : List (BitVec 64)) (n : Nat) : (outN st n).length = n := by simp [outN]
theorem outN_succ (st : List (BitVec 64)) (n : Nat) : outN st (n + 1) = outN st n ++ [outByte st n] := by simp [outN, List.range_succ]
theorem outTo_eq (st : List (BitVec 64)) (k : Nat) (hk : k ≤ 32) : outTo st k = outN st k ++ zeros (32 - k) := by
  induction k with
  | zero => rfl
  | succ k ih =>
    rw [outTo, ih (by omega), outN_succ]
    obtain ⟨r, hr⟩ : ∃ r, 32 - k = r + 1 := ⟨32 - k - 1, by omega⟩
    rw [hr, show 32 - (k + 1) = r by omega]
    rw [List.set_append_right _ _ (by rw [outN_len]; exact Nat.le_refl _), outN_len, Nat.sub_self]
    simp [zeros, List.replicate_succ]
theorem outTo_all (st : List (BitVec 64)) : outTo st 32 = outN st 32 := by
  rw [outTo_eq st 32 (Nat.le_refl _)]; simp [zeros]
end Go.Proofs.YtdpoickggdgddaaDoor
