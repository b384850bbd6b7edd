/-
  Bytes that a list of structs of the call's own may hold.
-/
import Derived.Test.YtpefggkhjocanaaDoorSlM
namespace Go.Proofs.YtpefggkhjocanaaDoor
open Go.RowKit
/-- Bytes that a list of pairs of the call's own may hold: they lie ahead of it, or in a block of bytes. -/
def PartIs (base : Nat) (w : World) (v : Value) (bs : List UInt8) : Prop :=
  SliceIs w v bs ∧ (bs = [] ∨ ∃ b, v.ownBlock = some b ∧ b < w.heap.size ∧ (b < base ∨ ∃ cur fz, w.heap[b]? = some (.cells cur 5 fz)))
theorem PartIs.slice {base : Nat} {w : World} {v : Value} {bs : List UInt8} (h : PartIs base w v bs) : SliceIs w v bs := h.1
theorem Own.part {base base' : Nat} {w : World} {v : Value} {bs : List UInt8} (h : Own base' w v bs) : PartIs base w v bs := by
  refine ⟨h.slice, ?_⟩
  rcases h.2 with ⟨rfl, h0⟩ | ⟨g, cap, cur, rfl, hb, hg, _⟩
  · exact .inl (List.eq_nil_of_length_eq_zero h0)
  · exact .inr ⟨g, rfl, (Array.getElem?_eq_some_iff.1 hg).1, .inr ⟨cur, _, hg⟩⟩
theorem cell_lt {w : World} {b o : Nat} {v : Value} (h : w.cell? ⟨b, o, none⟩ = some v) : b < w.heap.size := by
  by_cases hb : b < w.heap.size
  · exact hb
  · simp [World.cell?, Array.getElem?_eq_none (Nat.le_of_not_lt hb)] at h
theorem SliceIs.part {w w' : World} {v : Value} {bs : List UInt8} (h : SliceIs w v bs) (hg : w.grownBy w' none) (base : Nat) (hb : w.heap.size ≤ base) : PartIs base w' v bs := by
  refine ⟨h.grown hg, ?_⟩
  obtain ⟨a, cap, rfl, hc, h⟩ := h
  rcases h with ⟨rfl, _⟩ | ⟨b, o, rfl, h⟩
  · exact .inl rfl
  · by_cases h0 : bs = []
    · exact .inl h0
    · have hl : 0 < bs.length := List.length_pos_iff.2 h0
      have := cell_lt (h 0 hl)
      exact .inr ⟨b, rfl, Nat.lt_of_lt_of_le this hg.size, .inl (by omega)⟩
theorem PartIs.mono {base base' : Nat} {w : World} {v : Value} {bs : List UInt8} (h : PartIs base w v bs) (hb : base ≤ base') : PartIs base' w v bs := by
  refine ⟨h.1, ?_⟩
  rcases h.2 with h | ⟨b, h1, h2, h3⟩
  · exact .inl h
  · refine .inr ⟨b, h1, h2, ?_⟩
    rcases h3 with h3 | h3
    · exact .inl (by omega)
    · exact .inr h3
theorem part_oneCell {base : Nat} {w : World} {v : Value} {bs : List UInt8} (h : PartIs base w v bs) : v.oneCell' = true := by
  obtain ⟨⟨a, cap, rfl, _⟩, _⟩ := h
  rfl
/-- A block of the call's own turns that holds no bytes: bytes stay. -/
theorem PartIs.keptT {base : Nat} {w w' : World} {v : Value} {bs : List UInt8} (h : PartIs base w v bs) {row : Option Nat} (hg : w.grownBy w' row) (hrow : row = none ∨ ∃ g cur t fz, row = some g ∧ base ≤ g ∧ w.heap[g]? = some (.cells cur t fz) ∧ t ≠ 5) : PartIs base w' v bs := by
  obtain ⟨hs, ho⟩ := h
  rcases ho with rfl | ⟨b, hb, hlt, hc⟩
  · obtain ⟨a, cap, rfl, hc, h⟩ := hs
    refine ⟨⟨a, cap, rfl, hc, ?_⟩, .inl rfl⟩
    rcases h with h | ⟨b, o, rfl, h⟩
    · exact .inl h
    · exact .inr ⟨b, o, rfl, fun i hi => by simp at hi⟩
  · have hne : some b ≠ row := by
      intro e
      rcases hrow with rfl | ⟨g, cur, t, fz, rfl, hbg, hgc, ht⟩
      · cases e
      · cases e
        rcases hc with hc | ⟨cur2, fz2, hc⟩
        · omega
        · rw [hc] at hgc
          simp only [Option.some.injEq, Obj.cells.injEq] at hgc
          exact ht hgc.2.1.symm
    have hblk := hg.block b hlt hne
    refine ⟨?_, .inr ⟨b, hb, Nat.lt_of_lt_of_le hlt hg.size, ?_⟩⟩
    · obtain ⟨a, cap, rfl, hcp, h⟩ := hs
      refine ⟨a, cap, rfl, hcp, ?_⟩
      rcases h with h | ⟨b', o, rfl, h⟩
      · exact .inl h
      · refine .inr ⟨b', o, rfl, fun i hi => ?_⟩
        simp [Value.ownBlock] at hb
        subst hb
        exact hg.cell (h i hi) (by simpa using hne)
    · rcases hc with hc | ⟨cur, fz, hc⟩
      · exact .inl hc
      · exact .inr ⟨cur, fz, by rw [hblk]; exact hc⟩
end Go.Proofs.YtpefggkhjocanaaDoor
