/-
  Decoding by places, with no program: as the document's loop does it.
-/
import Derived.Test.YtghjikifflpeiabDoorTapeF
namespace Go.Proofs.YtghjikifflpeiabDoor
open Go.RowKit
/-- A place, or none. -/
def atI : Option Nat → Int
  | some n => (n : Int)
  | none => -1
def pieceAt (b : List UInt8) : Option Nat → List UInt8 × Option Nat
  | none => ([], none)
  | some n => match pieceL (b.drop n) with | some (p, _) => (p, some (n + 1 + p.length)) | none => ([], none)
theorem pieceAt_none (b : List UInt8) : pieceAt b none = ([], none) := rfl
theorem pieceAt_end (b : List UInt8) (n : Nat) (h : b.length ≤ n) : pieceAt b (some n) = ([], none) := by
  show (match pieceL (b.drop n) with | some (p, _) => (p, some (n + 1 + p.length)) | none => ([], none)) = _
  rw [List.drop_of_length_le h]
  rfl
theorem pieceL_at (b : List UInt8) (n : Nat) (h : n < b.length) : pieceL (b.drop n) = if n + 1 + (b.getD n 0).toNat ≤ b.length then some ((b.take (n + 1 + (b.getD n 0).toNat)).drop (n + 1), b.drop (n + 1 + (b.getD n 0).toNat)) else none := by
  rw [List.drop_eq_getElem_cons h, pieceL, show b[n] = b.getD n 0 by simp [h], List.length_drop]
  by_cases hc : n + 1 + (b.getD n 0).toNat ≤ b.length
  · rw [if_pos (by omega), if_pos hc, List.drop_take, List.drop_drop, Nat.add_sub_cancel_left]
  · rw [if_neg (by omega), if_neg hc]
theorem pieceAt_some (b : List UInt8) (n : Nat) (h : n < b.length) : pieceAt b (some n) = if n + 1 + (b.getD n 0).toNat ≤ b.length then ((b.take (n + 1 + (b.getD n 0).toNat)).drop (n + 1), some (n + 1 + (b.getD n 0).toNat)) else ([], none) := by
  show (match pieceL (b.drop n) with | some (p, _) => (p, some (n + 1 + p.length)) | none => ([], none)) = _
  rw [pieceL_at b n h]
  by_cases hc : n + 1 + (b.getD n 0).toNat ≤ b.length
  · rw [if_pos hc, if_pos hc]
    show (_, some (n + 1 + ((b.take (n + 1 + (b.getD n 0).toNat)).drop (n + 1)).length)) = _
    rw [show ((b.take (n + 1 + (b.getD n 0).toNat)).drop (n + 1)).length = (b.getD n 0).toNat by simp only [List.length_drop, List.length_take]; omega]
  · rw [if_neg hc, if_neg hc]
/-- Places and what is left. -/
theorem pieceAt_left (b : List UInt8) (n : Nat) : (∃ p m, pieceAt b (some n) = (p, some m) ∧ pieceL (b.drop n) = some (p, b.drop m) ∧ m ≤ b.length ∧ p.length ≤ 255 ∧ n < m) ∨ (pieceAt b (some n) = ([], none) ∧ pieceL (b.drop n) = none) := by
  by_cases h : n < b.length
  · have h1 := pieceAt_some b n h
    have h2 := pieceL_at b n h
    have hx := (b.getD n 0).toNat_lt
    by_cases hc : n + 1 + (b.getD n 0).toNat ≤ b.length
    · rw [if_pos hc] at h1 h2
      exact .inl ⟨_, _, h1, h2, hc, by simp only [List.length_drop, List.length_take]; omega, by omega⟩
    · rw [if_neg hc] at h1 h2
      exact .inr ⟨h1, h2⟩
  · exact .inr ⟨pieceAt_end b n (by omega), by rw [List.drop_of_length_le (by omega)]; rfl⟩
theorem pieceAt_small (b : List UInt8) (o : Option Nat) : (pieceAt b o).1.length ≤ 255 ∧ ∀ m, (pieceAt b o).2 = some m → m ≤ b.length := by
  cases o with
  | none => exact ⟨by simp [pieceAt_none], fun m h => by rw [pieceAt_none] at h; cases h⟩
  | some n =>
    rcases pieceAt_left b n with ⟨p, m, h1, _, h3, h4, _⟩ | ⟨h1, _⟩
    · rw [h1]; exact ⟨h4, fun m' h => by cases h; exact h3⟩
    · rw [h1]; exact ⟨by simp, fun m' h => by cases h⟩
/-- A write at a place, where there is no end of its key: none. -/
theorem writeD_none {b : List UInt8} {n : Nat} (h : (pieceAt b (pieceAt b (some n)).2).2 = none) : writeD (b.drop n) = none := by
  unfold writeD
  rcases pieceAt_left b n with ⟨p, m, h1, h2, _⟩ | ⟨h1, h2⟩
  · rw [h2]
    rw [h1] at h
    show keyD p (b.drop m) = none
    unfold keyD
    rcases pieceAt_left b m with ⟨p2, m2, k1, _⟩ | ⟨k1, k2⟩
    · have h : (pieceAt b (some m)).2 = none := h
      rw [k1] at h; cases h
    · rw [k2]
  · rw [h2]
theorem writeD_some {b : List UInt8} {n m : Nat} (h : (pieceAt b (pieceAt b (some n)).2).2 = some m) : writeD (b.drop n) = lastD (pieceAt b (some n)).1 (pieceAt b (pieceAt b (some n)).2).1 (b.drop m) := by
  unfold writeD
  rcases pieceAt_left b n with ⟨p, m1, h1, h2, _⟩ | ⟨h1, h2⟩
  · rw [h2]
    rw [h1] at h ⊢
    show keyD p (b.drop m1) = _
    unfold keyD
    rcases pieceAt_left b m1 with ⟨p2, m2, k1, k2, _⟩ | ⟨k1, k2⟩
    · have h : (pieceAt b (some m1)).2 = some m := h
      rw [k1] at h
      cases h
      rw [k2]
      show lastD p p2 _ = lastD p (pieceAt b (some m1)).1 _
      rw [k1]
    · have h : (pieceAt b (some m1)).2 = some m := h
      rw [k1] at h; cases h
  · rw [h1] at h; cases h
theorem head_drop255 (b : List UInt8) (m : Nat) (hm : m < b.length) : ((b.drop m).head? = some 255 ↔ b.getD m 0 = 255) ∧ (b.drop m).tail = b.drop (m + 1) := by
  rw [List.drop_eq_getElem_cons hm, show b[m] = b.getD m 0 by simp [hm]]
  simp
theorem lastD_gone {b n k : List UInt8} {m : Nat} (hm : m < b.length) (h : b.getD m 0 = 255) : lastD n k (b.drop m) = some (⟨n, k, [], true⟩, b.drop (m + 1)) := by
  obtain ⟨h1, h2⟩ := head_drop255 b m hm
  rw [lastD, if_pos (h1.2 h), h2]
theorem lastD_kept {b n k : List UInt8} {m : Nat} (h : ¬ (m < b.length ∧ b.getD m 0 = 255)) : lastD n k (b.drop m) = match (pieceAt b (some m)).2 with | some m2 => some (⟨n, k, (pieceAt b (some m)).1, false⟩, b.drop m2) | none => none := by
  have hh : ¬ (b.drop m).head? = some 255 := by
    by_cases hm : m < b.length
    · intro e; exact h ⟨hm, (head_drop255 b m hm).1.1 e⟩
    · rw [List.drop_of_length_le (by omega)]; simp
  rw [lastD, if_neg hh]
  rcases pieceAt_left b m with ⟨p, m2, k1, k2, _⟩ | ⟨k1, k2⟩
  · rw [k1, k2]
  · rw [k1, k2]
theorem writesD_step {b : List UInt8} {m n : Nat} {ws : List Plc} (h : writesD m (b.drop 4) = some (ws, b.drop n)) : writesD (m + 1) (b.drop 4) = match writeD (b.drop n) with | some (p, r2) => some (ws ++ [p], r2) | none => none := by
  rw [writes_snoc, h]; try rfl
theorem writesD_none_up {r : List UInt8} {m : Nat} (h : writesD m r = none) : ∀ k, m ≤ k → writesD k r = none := by
  intro k hk
  induction k with
  | zero => rw [show m = 0 by omega] at h; exact h
  | succ k ih =>
    by_cases he : m = k + 1
    · rw [← he]; exact h
    · rw [writes_snoc, ih (by omega)]
/-- Bytes of one length each. -/
def Small3 (ws : List Plc) : Prop := ∀ p ∈ ws, p.name.length ≤ 255 ∧ p.key.length ≤ 255 ∧ p.value.length ≤ 255
theorem small3_snoc {ws : List Plc} {p : Plc} (h : Small3 ws) (hp : p.name.length ≤ 255 ∧ p.key.length ≤ 255 ∧ p.value.length ≤ 255) : Small3 (ws ++ [p]) := fun q hq => by
  rcases List.mem_append.1 hq with hq | hq
  · exact h q hq
  · simp only [List.mem_cons, List.not_mem_nil, or_false] at hq
    rw [hq]; exact hp
theorem decE_long {b : List UInt8} (h : 4000 < b.length) : decE b = 1 ∧ decC b = noCmt := by
  have : decE b = 1 := by rw [decE, if_pos h]
  exact ⟨this, by rw [decC, this, if_neg (by decide)]⟩
theorem decE_short {b : List UInt8} (h : b.length < 4) : decE b = 14 ∧ decC b = noCmt := by
  have : decE b = 14 := by rw [decE, if_neg (by omega), if_pos h]
  exact ⟨this, by rw [decC, this, if_neg (by decide)]⟩
theorem decE_none {b : List UInt8} (h1 : ¬ 4000 < b.length) (h2 : ¬ b.length < 4) (h : bodyD b = none) : decE b = 14 ∧ decC b = noCmt := by
  have : decE b = 14 := by rw [decE, if_neg h1, if_neg h2, h]
  exact ⟨this, by rw [decC, this, if_neg (by decide)]⟩
theorem decE_more {b r : List UInt8} {ws : List Plc} (h1 : ¬ 4000 < b.length) (h2 : ¬ b.length < 4) (h : bodyD b = some (ws, r)) (hr : r.length ≠ 0) : decE b = 4 ∧ decC b = noCmt := by
  have : decE b = 4 := by rw [decE, if_neg h1, if_neg h2, h]; show (if r.length = 0 then _ else (4 : Int)) = 4; rw [if_neg hr]
  exact ⟨this, by rw [decC, this, if_neg (by decide)]⟩
theorem decE_body {b r : List UInt8} {ws : List Plc} (h1 : ¬ 4000 < b.length) (h2 : ¬ b.length < 4) (h : bodyD b = some (ws, r)) (hr : r.length = 0) : decE b = commitE ⟨(turnD b : Int), ws⟩ ∧ (decE b = 0 → decC b = ⟨(turnD b : Int), ws⟩) ∧ (decE b ≠ 0 → decC b = noCmt) := by
  have : decE b = commitE ⟨(turnD b : Int), ws⟩ := by rw [decE, if_neg h1, if_neg h2, h]; show (if r.length = 0 then _ else (4 : Int)) = _; rw [if_pos hr]
  refine ⟨this, fun h0 => ?_, fun h0 => ?_⟩
  · rw [decC, if_pos h0, h]
  · rw [decC, if_neg h0]
end Go.Proofs.YtghjikifflpeiabDoor
