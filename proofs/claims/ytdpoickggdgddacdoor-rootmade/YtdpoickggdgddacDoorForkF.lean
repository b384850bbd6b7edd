/-
  The bit at which pairs part is that of the first and the last one; its sides are a beginning and an end. No program is named.
-/
import Derived.Test.YtdpoickggdgddacDoorSides
namespace Go.Proofs.YtdpoickggdgddacDoor
/-- How many stand on the left. -/
def sideN (l : PL) (b : Nat) : Nat := (l.takeWhile fun q => !kbit q.1 b).length
theorem minTo_least (l : PL) : ∀ m j, 0 < j → j < m → m ≤ l.length → minTo l m ≤ partK (l.getD 0 ([], [])).1 (l.getD j ([], [])).1
  | 0, j, _, h, _ => by omega
  | 1, j, h0, h, _ => by omega
  | m + 2, j, h0, h, hm => by
    rw [minTo]
    by_cases hlt : partK (l.getD 0 ([], [])).1 (l.getD (m + 1) ([], [])).1 < minTo l (m + 1)
    · rw [if_pos hlt]
      by_cases e : j = m + 1
      · subst e; exact Int.le_refl _
      · have := minTo_least l (m + 1) j h0 (by omega) (by omega); omega
    · rw [if_neg hlt]
      by_cases e : j = m + 1
      · subst e; omega
      · exact minTo_least l (m + 1) j h0 (by omega) (by omega)
/-- Ahead of it all are the same. -/
theorem fork_same {l : PL} (h : Tree l) (h2 : 2 ≤ l.length) (j : Nat) (hj : j < l.length) (b : Nat) (hb : b < (forkBit l).toNat) : kbit (l.getD 0 ([], [])).1 b = kbit (l.getD j ([], [])).1 b := by
  by_cases h0 : j = 0
  · subst h0; rfl
  · have hm := minTo_least l l.length j (by omega) hj (Nat.le_refl _)
    have hr := forkBit_range h h2
    rcases partK_spec (l.getD 0 ([], [])).1 (l.getD j ([], [])).1 with ⟨e, hs⟩ | ⟨m, e, hm1, hs, _⟩
    · exact hs b (by omega)
    · exact hs b (by unfold forkBit at hb; omega)
theorem fork_mono {l : PL} (h : Tree l) (h2 : 2 ≤ l.length) (i j : Nat) (hij : i < j) (hj : j < l.length) (hi : kbit (l.getD i ([], [])).1 (forkBit l).toNat = true) : kbit (l.getD j ([], [])).1 (forkBit l).toNat = true := by
  have hk := rises_step l h.rises i j hij hj
  have hp := part_pos h i j hij hj
  rcases partK_spec (l.getD i ([], [])).1 (l.getD j ([], [])).1 with ⟨e, _⟩ | ⟨m, e, hm, hs, hd⟩
  · omega
  · have hge : (forkBit l).toNat ≤ m := by
      by_cases hlt : m < (forkBit l).toNat
      · exact absurd ((fork_same h h2 i (by omega) m hlt).symm.trans (fork_same h h2 j hj m hlt)) hd
      · omega
    by_cases he : (forkBit l).toNat = m
    · rw [he]
      have := part_order _ _ m hs hd
      rw [this]; exact hk
    · rw [← hs _ (by omega)]; exact hi
/-- The first one has 0 there, the last one 1. -/
theorem fork_ends {l : PL} (h : Tree l) (h2 : 2 ≤ l.length) : kbit (l.getD 0 ([], [])).1 (forkBit l).toNat = false ∧ kbit (l.getD (l.length - 1) ([], [])).1 (forkBit l).toNat = true := by
  obtain ⟨j, hj1, hj2, hj3⟩ := minTo_at h l.length h2 (Nat.le_refl _)
  have hr := forkBit_range h h2
  have hk := rises_step l h.rises 0 j hj1 hj2
  rcases partK_spec (l.getD 0 ([], [])).1 (l.getD j ([], [])).1 with ⟨e, _⟩ | ⟨m, e, hm, hs, hd⟩
  · rw [← hj3] at e; unfold forkBit at hr; omega
  · have em : (forkBit l).toNat = m := by unfold forkBit; omega
    have ho := part_order _ _ m hs hd
    have hjt : kbit (l.getD j ([], [])).1 m = true := by rw [ho]; exact hk
    refine ⟨?_, ?_⟩
    · rw [em]
      cases hx : kbit (l.getD 0 ([], [])).1 m with
      | false => rfl
      | true => exact absurd (hx.trans hjt.symm) hd
    · by_cases hl : j = l.length - 1
      · rw [← hl, em]; exact hjt
      · exact fork_mono h h2 j (l.length - 1) (by omega) (by omega) (by rw [em]; exact hjt)
theorem fork_part {l : PL} (h : Tree l) (h2 : 2 ≤ l.length) : partK (l.getD 0 ([], [])).1 (l.getD (l.length - 1) ([], [])).1 = forkBit l := by
  have hr := forkBit_range h h2
  obtain ⟨e1, e2⟩ := fork_ends h h2
  rw [partK_of _ _ (forkBit l).toNat (by omega) (fun b hb => fork_same h h2 _ (by omega) b hb) (by rw [e1, e2]; simp)]
  omega
theorem side_le (l : PL) (b : Nat) : sideN l b ≤ l.length := by
  induction l with
  | nil => simp [sideN]
  | cons p r ih =>
    unfold sideN at ih ⊢
    rw [List.takeWhile_cons]
    cases h : kbit p.1 b with
    | false => simpa using ih
    | true => simp
theorem side_lt : ∀ (l : PL) (b j : Nat), j < sideN l b → kbit (l.getD j ([], [])).1 b = false
  | [], b, j, h => by simp [sideN] at h
  | p :: r, b, j, h => by
    cases hk : kbit p.1 b with
    | true => simp [sideN, hk] at h
    | false =>
      cases j with
      | zero => simpa using hk
      | succ j =>
        have := side_lt r b j (by unfold sideN at h ⊢; rw [List.takeWhile_cons_of_pos (p := fun q : Pr => !kbit q.1 b) (by simp [hk])] at h; simpa using h)
        simpa using this
theorem side_not : ∀ (l : PL) (b : Nat), sideN l b < l.length → kbit (l.getD (sideN l b) ([], [])).1 b = true
  | [], b, h => by simp at h
  | p :: r, b, h => by
    cases hk : kbit p.1 b with
    | true => simp [sideN, hk]
    | false =>
      have e : sideN (p :: r) b = sideN r b + 1 := by unfold sideN; rw [List.takeWhile_cons_of_pos (p := fun q : Pr => !kbit q.1 b) (by simp [hk])]; simp
      rw [e] at h ⊢
      have := side_not r b (by simpa using h)
      simpa using this
theorem bit_side {l : PL} (h : Tree l) (h2 : 2 ≤ l.length) (j : Nat) (hj : j < l.length) : kbit (l.getD j ([], [])).1 (forkBit l).toNat = decide (sideN l (forkBit l).toNat ≤ j) := by
  by_cases hlt : j < sideN l (forkBit l).toNat
  · rw [decide_eq_false (by omega)]; exact side_lt l _ j hlt
  · rw [decide_eq_true (by omega)]
    have h0 := side_not l (forkBit l).toNat (by omega)
    by_cases e : j = sideN l (forkBit l).toNat
    · rw [e]; exact h0
    · exact fork_mono h h2 _ j (by omega) hj h0
theorem side_range {l : PL} (h : Tree l) (h2 : 2 ≤ l.length) : 0 < sideN l (forkBit l).toNat ∧ sideN l (forkBit l).toNat < l.length := by
  obtain ⟨e1, e2⟩ := fork_ends h h2
  rw [bit_side h h2 0 (by omega)] at e1
  rw [bit_side h h2 _ (by omega)] at e2
  simp at e1 e2
  omega
theorem side_false {l : PL} (h : Tree l) (h2 : 2 ≤ l.length) : sideL l (forkBit l).toNat false = l.take (sideN l (forkBit l).toNat) := by
  have hs := side_range h h2
  have hb := fun j hj => bit_side h h2 j hj
  generalize (forkBit l).toNat = b at *
  generalize sideN l b = n at *
  have e : l = l.take n ++ l.drop n := (List.take_append_drop n l).symm
  rw [sideL]
  conv => lhs; rw [e]
  rw [List.filter_append, List.filter_eq_self.2, List.filter_eq_nil_iff.2, List.append_nil]
  · intro q hq
    obtain ⟨j, hj, rfl⟩ := List.mem_iff_getElem.1 hq
    have hjn : n + j < l.length := by simp at hj; omega
    rw [List.getElem_drop, show l[n + j] = l.getD (n + j) ([], []) by simp [hjn], hb _ hjn]
    simp
  · intro q hq
    obtain ⟨j, hj, rfl⟩ := List.mem_iff_getElem.1 hq
    have hjn : j < n := by simp at hj; omega
    rw [List.getElem_take, show l[j]'(by omega) = l.getD j ([], []) by simp [show j < l.length by omega], hb _ (by omega)]
    simp [hjn]
theorem side_true {l : PL} (h : Tree l) (h2 : 2 ≤ l.length) : sideL l (forkBit l).toNat true = l.drop (sideN l (forkBit l).toNat) := by
  have hs := side_range h h2
  have hb := fun j hj => bit_side h h2 j hj
  generalize (forkBit l).toNat = b at *
  generalize sideN l b = n at *
  have e : l = l.take n ++ l.drop n := (List.take_append_drop n l).symm
  rw [sideL]
  conv => lhs; rw [e]
  rw [List.filter_append, List.filter_eq_nil_iff.2, List.filter_eq_self.2, List.nil_append]
  · intro q hq
    obtain ⟨j, hj, rfl⟩ := List.mem_iff_getElem.1 hq
    have hjn : n + j < l.length := by simp at hj; omega
    rw [List.getElem_drop, show l[n + j] = l.getD (n + j) ([], []) by simp [hjn], hb _ hjn]
    simp
  · intro q hq
    obtain ⟨j, hj, rfl⟩ := List.mem_iff_getElem.1 hq
    have hjn : j < n := by simp at hj; omega
    rw [List.getElem_take, show l[j]'(by omega) = l.getD j ([], []) by simp [show j < l.length by omega], hb _ (by omega)]
    simp [hjn]
end Go.Proofs.YtdpoickggdgddacDoor
