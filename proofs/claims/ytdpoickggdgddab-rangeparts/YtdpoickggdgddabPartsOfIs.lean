/-
  Pairs that were handed over, as what may be put into a list of the call's own.
-/
import Derived.Test.YtdpoickggdgddabPairMem
namespace Go.Proofs.Ytdpoickggdgddab
open Go.RowKit
theorem PairsIs.parts {w w' : World} {v : Value} {l : PL} (h : PairsIs w v l) (hg : w.grownBy w' none) (base : Nat) (hb : w.heap.size ≤ base) : PartsIs base w' v l := by
  obtain ⟨a, cap, rfl, hc, h⟩ := h
  rcases h with ⟨rfl, hz⟩ | ⟨b, o, rfl, h⟩
  · refine ⟨[], a, cap, rfl, rfl, fun i hi => by simp at hi, ?_⟩
    cases a with
    | none => exact .inl ⟨rfl, rfl, hz rfl⟩
    | some ad => exact .inr ⟨ad, rfl, fun j u hj => by simp [flat] at hj⟩
  · let f : Nat → Value × Value := fun i => ((w.cell? ⟨b, o + i * 2, none⟩).getD undef, (w.cell? ⟨b, o + i * 2 + 1, none⟩).getD undef)
    have hf : ∀ i, i < l.length → w.cell? ⟨b, o + i * 2, none⟩ = some (f i).1 ∧ w.cell? ⟨b, o + i * 2 + 1, none⟩ = some (f i).2 ∧ SliceIs w (f i).1 (l.getD i ([], [])).1 ∧ SliceIs w (f i).2 (l.getD i ([], [])).2 := by
      intro i hi
      obtain ⟨vk, vv, c1, c2, s1, s2⟩ := h i hi
      have e1 : (f i).1 = vk := by show (w.cell? ⟨b, o + i * 2, none⟩).getD undef = vk; rw [c1]; rfl
      have e2 : (f i).2 = vv := by show (w.cell? ⟨b, o + i * 2 + 1, none⟩).getD undef = vv; rw [c2]; rfl
      rw [e1, e2]
      exact ⟨c1, c2, s1, s2⟩
    refine ⟨(List.range l.length).map f, some ⟨b, o, none⟩, cap, rfl, by simp, fun i hi => ?_, .inr ⟨⟨b, o, none⟩, rfl, fun j u hj => ?_⟩⟩
    · have e : ((List.range l.length).map f).getD i (undef, undef) = f i := by simp [hi]
      rw [e]
      exact ⟨(hf i hi).2.2.1.part hg base hb, (hf i hi).2.2.2.part hg base hb⟩
    · have hjl : j < l.length * 2 := by
        have := (List.getElem?_eq_some_iff.1 hj).1
        rw [flat_len] at this
        simpa using this
      have hi : j / 2 < l.length := by omega
      have hg2 := flat_get ((List.range l.length).map f) (j / 2) (by simpa using hi)
      have e : ((List.range l.length).map f).getD (j / 2) (undef, undef) = f (j / 2) := by simp [hi]
      rw [e] at hg2
      rw [addr_add]
      by_cases hp : j % 2 = 0
      · rw [show j / 2 * 2 = j by omega] at hg2
        rw [hg2.1] at hj
        have := (hf (j / 2) hi).1
        rw [show o + j / 2 * 2 = o + j by omega] at this
        rw [hg.cell this (by simp), hj]
      · rw [show j / 2 * 2 + 1 = j by omega] at hg2
        rw [hg2.2] at hj
        have := (hf (j / 2) hi).2.1
        rw [show o + j / 2 * 2 + 1 = o + j by omega] at this
        rw [hg.cell this (by simp), hj]
end Go.Proofs.Ytdpoickggdgddab
