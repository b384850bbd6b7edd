/-
  The bit at which pairs part, and their two sides. No program is named.
-/
import Derived.Test.YtdpoickggdgddacDoorTreeF
namespace Go.Proofs.YtdpoickggdgddacDoor
/-- The least bit at which the first one differs from those ahead of a place. -/
def minTo (l : PL) : Nat → Int
  | 0 => 999
  | 1 => 999
  | m + 2 => if partK (l.getD 0 ([], [])).1 (l.getD (m + 1) ([], [])).1 < minTo l (m + 1) then partK (l.getD 0 ([], [])).1 (l.getD (m + 1) ([], [])).1 else minTo l (m + 1)
def forkBit (l : PL) : Int := minTo l l.length
/-- Those of a side. -/
def sideL (l : PL) (b : Nat) (x : Bool) : PL := l.filter fun q => kbit q.1 b == x
theorem side_take (l : PL) (b : Nat) (x : Bool) (m : Nat) (h : m < l.length) : sideL (l.take (m + 1)) b x = if kbit (l.getD m ([], [])).1 b = x then sideL (l.take m) b x ++ [l.getD m ([], [])] else sideL (l.take m) b x := by
  rw [List.take_succ_eq_append_getElem h, show l[m] = l.getD m ([], []) by simp [h], sideL, List.filter_append]
  generalize l.getD m ([], []) = P
  by_cases e : kbit P.1 b = x
  · rw [if_pos e, List.filter_cons_of_pos (by simp [e])]; simp [sideL]
  · rw [if_neg e, List.filter_cons_of_neg (by simp [e])]; simp [sideL]
theorem side_len (l : PL) (b : Nat) (x : Bool) : (sideL l b x).length ≤ l.length := List.length_filter_le _ _
theorem side_tree {l : PL} (h : Tree l) (b : Nat) (x : Bool) : Tree (sideL l b x) :=
  ⟨Nat.le_trans (side_len l b x) h.room, fun p hp => h.pairs p (List.mem_filter.1 hp).1, List.Pairwise.filter _ h.rises⟩
theorem part_pos {l : PL} (h : Tree l) (i j : Nat) (hij : i < j) (hj : j < l.length) : 0 ≤ partK (l.getD i ([], [])).1 (l.getD j ([], [])).1 := by
  have hk := rises_step l h.rises i j hij hj
  have h1 := (h.pairs l[i] (List.getElem_mem (by omega))).1
  have h2 := (h.pairs l[j] (List.getElem_mem hj)).1
  rw [show l[i] = l.getD i ([], []) by simp [show i < l.length by omega]] at h1
  rw [show l[j] = l.getD j ([], []) by simp [hj]] at h2
  have := partK_same (l.getD i ([], [])).1 (l.getD j ([], [])).1 h1.2 h2.2
  have hne := klt_ne hk
  by_cases hp : partK (l.getD i ([], [])).1 (l.getD j ([], [])).1 < 0
  · exact absurd (this.1 hp) hne
  · omega
theorem minTo_range {l : PL} (h : Tree l) : ∀ m, m ≤ l.length → 0 ≤ minTo l m ∧ (2 ≤ m → minTo l m ≤ 144) ∧ minTo l m ≤ 999
  | 0, _ => ⟨by simp [minTo], by omega, by simp [minTo]⟩
  | 1, _ => ⟨by simp [minTo], by omega, by simp [minTo]⟩
  | m + 2, hm => by
    have ih := minTo_range h (m + 1) (by omega)
    have hp := part_pos h 0 (m + 1) (by omega) (by omega)
    have hr := partK_range (l.getD 0 ([], [])).1 (l.getD (m + 1) ([], [])).1
    rw [minTo]
    by_cases hlt : partK (l.getD 0 ([], [])).1 (l.getD (m + 1) ([], [])).1 < minTo l (m + 1)
    · rw [if_pos hlt]; omega
    · rw [if_neg hlt]; omega
theorem forkBit_range {l : PL} (h : Tree l) (h2 : 2 ≤ l.length) : 0 ≤ forkBit l ∧ forkBit l ≤ 144 := by
  have := minTo_range h l.length (Nat.le_refl _)
  exact ⟨this.1, this.2.1 h2⟩
/-- It is the bit at which one of them differs from the first one, and it is met first. -/
theorem minTo_at {l : PL} (_h : Tree l) : ∀ m, 2 ≤ m → m ≤ l.length → ∃ j, 0 < j ∧ j < m ∧ minTo l m = partK (l.getD 0 ([], [])).1 (l.getD j ([], [])).1
  | 0, h, _ => by omega
  | 1, h, _ => by omega
  | m + 2, _, hm => by
    rw [minTo]
    by_cases hlt : partK (l.getD 0 ([], [])).1 (l.getD (m + 1) ([], [])).1 < minTo l (m + 1)
    · rw [if_pos hlt]; exact ⟨m + 1, by omega, by omega, rfl⟩
    · rw [if_neg hlt]
      by_cases h0 : m = 0
      · subst h0
        have hr := partK_range (l.getD 0 ([], [])).1 (l.getD (0 + 1) ([], [])).1
        simp only [minTo] at hlt
        omega
      · obtain ⟨j, h1, h2, h3⟩ := minTo_at _h (m + 1) (by omega) (by omega)
        exact ⟨j, h1, by omega, h3⟩
/-- Both sides have some. -/
theorem sides_less {l : PL} (h : Tree l) (h2 : 2 ≤ l.length) : ∀ x, (sideL l (forkBit l).toNat x).length < l.length := by
  obtain ⟨j, hj1, hj2, hj3⟩ := minTo_at h l.length h2 (Nat.le_refl _)
  have hr := forkBit_range h h2
  have hd : kbit (l.getD 0 ([], [])).1 (forkBit l).toNat ≠ kbit (l.getD j ([], [])).1 (forkBit l).toNat := by
    rcases partK_spec (l.getD 0 ([], [])).1 (l.getD j ([], [])).1 with ⟨e, _⟩ | ⟨m, e, _, _, hd⟩
    · rw [← hj3] at e; unfold forkBit at hr; omega
    · have : (forkBit l).toNat = m := by unfold forkBit; omega
      rw [this]; exact hd
  intro x
  by_cases hlt : (sideL l (forkBit l).toNat x).length < l.length
  · exact hlt
  · have he : (sideL l (forkBit l).toNat x).length = l.length := by have := side_len l (forkBit l).toNat x; omega
    have hall := List.length_filter_eq_length_iff.1 he
    have h0 := hall l[0] (List.getElem_mem (by omega))
    have hj := hall l[j] (List.getElem_mem hj2)
    rw [show l[0] = l.getD 0 ([], []) by simp [show 0 < l.length by omega]] at h0
    rw [show l[j] = l.getD j ([], []) by simp [hj2]] at hj
    simp only [beq_iff_eq] at h0 hj
    exact absurd (h0.trans hj.symm) hd
end Go.Proofs.YtdpoickggdgddacDoor
