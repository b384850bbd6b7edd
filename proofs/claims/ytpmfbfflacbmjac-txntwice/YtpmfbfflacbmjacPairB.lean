/-
  A list of pairs that stands where other blocks of the call's own turn.
-/
import Derived.Test.YtpmfbfflacbmjacPairM0
namespace Go.Proofs.Ytpmfbfflacbmjac
open Go.RowKit
/-- A block of the call's own turns that holds no bytes: bytes stay. -/
theorem PartIs.keptT {base : Nat} {w w' : World} {v : Value} {bs : List UInt8} (h : PartIs base w v bs) {row : Option Nat} (hg : w.grownBy w' row) (hrow : row = none ∨ ∃ g cur t fz, row = some g ∧ base ≤ g ∧ w.heap[g]? = some (.cells cur t fz) ∧ t ≠ 5) : PartIs base w' v bs := by
  obtain ⟨hs, ho⟩ := h
  rcases ho with rfl | ⟨b, hb, hlt, hc⟩
  · obtain ⟨a, cap, rfl, hc, h⟩ := hs
    refine ⟨⟨a, cap, rfl, hc, ?_⟩, .inl rfl⟩
    rcases h with h | ⟨b, o, rfl, h⟩
    · exact .inl h
    · exact .inr ⟨b, o, rfl, fun i hi => by simp at hi⟩
  · have hne : some b ≠ row := by
      intro e
      rcases hrow with rfl | ⟨g, cur, t, fz, rfl, hbg, hgc, ht⟩
      · cases e
      · cases e
        rcases hc with hc | ⟨cur2, fz2, hc⟩
        · omega
        · rw [hc] at hgc
          simp only [Option.some.injEq, Obj.cells.injEq] at hgc
          exact ht hgc.2.1.symm
    have hblk := hg.block b hlt hne
    refine ⟨?_, .inr ⟨b, hb, Nat.lt_of_lt_of_le hlt hg.size, ?_⟩⟩
    · obtain ⟨a, cap, rfl, hcp, h⟩ := hs
      refine ⟨a, cap, rfl, hcp, ?_⟩
      rcases h with h | ⟨b', o, rfl, h⟩
      · exact .inl h
      · refine .inr ⟨b', o, rfl, fun i hi => ?_⟩
        simp [Value.ownBlock] at hb
        subst hb
        exact hg.cell (h i hi) (by simpa using hne)
    · rcases hc with hc | ⟨cur, fz, hc⟩
      · exact .inl hc
      · exact .inr ⟨cur, fz, by rw [hblk]; exact hc⟩
def PartAt (base : Nat) (w : World) (b o : Nat) (p : Pr) : Prop := ∃ vk vv, w.cell? ⟨b, o, none⟩ = some vk ∧ w.cell? ⟨b, o + 1, none⟩ = some vv ∧ PartIs base w vk p.1 ∧ PartIs base w vv p.2
/-- A list of pairs that stands where blocks of the call's own, of no pairs and no bytes, turn. -/
def PairsB (base : Nat) (w : World) (v : Value) (l : PL) : Prop :=
  ∃ a cap, v = .slice a l.length cap ∧ l.length ≤ cap ∧ ((l = [] ∧ (a = none → cap = 0)) ∨ ∃ b o, a = some ⟨b, o, none⟩ ∧ (b < base ∨ ∃ cur fz, w.heap[b]? = some (.cells cur 80 fz)) ∧ ∀ i, i < l.length → PartAt base w b (o + i * 2) (l.getD i ([], [])))
theorem PairsB.list {base : Nat} {w : World} {v : Value} {l : PL} (h : PairsB base w v l) : PairsIs w v l := by
  obtain ⟨a, cap, rfl, hc, h⟩ := h
  refine ⟨a, cap, rfl, hc, ?_⟩
  rcases h with h | ⟨b, o, rfl, _, h⟩
  · exact .inl h
  · refine .inr ⟨b, o, rfl, fun i hi => ?_⟩
    obtain ⟨vk, vv, c1, c2, h1, h2⟩ := h i hi
    exact ⟨vk, vv, c1, c2, h1.1, h2.1⟩
theorem PairsIs.pairsB {w w' : World} {v : Value} {l : PL} (h : PairsIs w v l) (hg : w.grownBy w' none) (base : Nat) (hb : w.heap.size ≤ base) : PairsB base w' v l := by
  obtain ⟨a, cap, rfl, hc, h⟩ := h
  refine ⟨a, cap, rfl, hc, ?_⟩
  rcases h with h | ⟨b, o, rfl, h⟩
  · exact .inl h
  · by_cases h0 : l = []
    · exact .inl ⟨h0, fun e => by cases e⟩
    · have hl : 0 < l.length := List.length_pos_iff.2 h0
      refine .inr ⟨b, o, rfl, .inl ?_, fun i hi => ?_⟩
      · obtain ⟨vk, vv, c1, _⟩ := h 0 hl
        exact Nat.lt_of_lt_of_le (cell_lt c1) hb
      · obtain ⟨vk, vv, c1, c2, h1, h2⟩ := h i hi
        exact ⟨vk, vv, hg.cell c1 (by simp), hg.cell c2 (by simp), h1.part hg base hb, h2.part hg base hb⟩
theorem OwnP.pairsB {base : Nat} {w : World} {v : Value} {l : PL} (h : OwnP base w v l) : PairsB base w v l := by
  obtain ⟨vs, hl, hr, h3⟩ := h
  have hr' := hr
  rcases hr.2 with ⟨rfl, h0⟩ | ⟨g, cap, cur, rfl, hb, hg, hn, hm, hs, ht⟩
  · have : l = [] := List.eq_nil_of_length_eq_zero h0
    subst this
    exact ⟨none, 0, rfl, Nat.le_refl _, .inl ⟨rfl, fun _ => rfl⟩⟩
  · refine ⟨_, cap, rfl, hn, .inr ⟨g, 0, rfl, .inr ⟨cur, _, hg⟩, fun i hi => ?_⟩⟩
    have hf := flat_get vs i (by omega)
    refine ⟨(vs.getD i (undef, undef)).1, (vs.getD i (undef, undef)).2, ?_, ?_, (h3 i hi).1, (h3 i hi).2⟩
    · have := OwnP.cells hr' _ _ hf.1
      rw [Nat.zero_add]; exact this
    · have := OwnP.cells hr' _ _ hf.2
      rw [Nat.zero_add]; exact this
theorem PairsB.kept {base : Nat} {w w' : World} {v : Value} {l : PL} (h : PairsB base w v l) {row : Option Nat} (hg : w.grownBy w' row) (hrow : row = none ∨ ∃ g cur t fz, row = some g ∧ base ≤ g ∧ w.heap[g]? = some (.cells cur t fz) ∧ t ≠ 5 ∧ t ≠ 80) : PairsB base w' v l := by
  obtain ⟨a, cap, rfl, hc, h⟩ := h
  refine ⟨a, cap, rfl, hc, ?_⟩
  rcases h with h | ⟨b, o, rfl, hb, h⟩
  · exact .inl h
  · by_cases h0 : l = []
    · exact .inl ⟨h0, fun e => by cases e⟩
    · have hl : 0 < l.length := List.length_pos_iff.2 h0
      have hlt : b < w.heap.size := by
        obtain ⟨vk, vv, c1, _⟩ := h 0 hl
        exact cell_lt c1
      have hne : some b ≠ row := by
        intro e
        rcases hrow with rfl | ⟨g, cur, t, fz, rfl, hbg, hgc, ht, ht2⟩
        · cases e
        · cases e
          rcases hb with hb | ⟨cur2, fz2, hb⟩
          · omega
          · rw [hb] at hgc
            simp only [Option.some.injEq, Obj.cells.injEq] at hgc
            exact ht2 hgc.2.1.symm
      have hrow' : row = none ∨ ∃ g cur t fz, row = some g ∧ base ≤ g ∧ w.heap[g]? = some (.cells cur t fz) ∧ t ≠ 5 := by
        rcases hrow with h | ⟨g, cur, t, fz, h1, h2, h3, h4, _⟩
        · exact .inl h
        · exact .inr ⟨g, cur, t, fz, h1, h2, h3, h4⟩
      refine .inr ⟨b, o, rfl, ?_, fun i hi => ?_⟩
      · rcases hb with hb | ⟨cur, fz, hb⟩
        · exact .inl hb
        · exact .inr ⟨cur, fz, by rw [hg.block b hlt hne]; exact hb⟩
      · obtain ⟨vk, vv, c1, c2, h1, h2⟩ := h i hi
        exact ⟨vk, vv, hg.cell c1 (by simpa using hne), hg.cell c2 (by simpa using hne), h1.keptT hg hrow', h2.keptT hg hrow'⟩
theorem PairsB.grown {base : Nat} {w w' : World} {v : Value} {l : PL} (h : PairsB base w v l) (hg : w.grownBy w' none) : PairsB base w' v l := h.kept hg (.inl rfl)
theorem PairsB.at {base : Nat} {w : World} {a : Option Addr} {n cap : Nat} {l : PL} (h : PairsB base w (.slice a n cap) l) (i : Nat) (hi : i < l.length) : ∃ b o, a = some ⟨b, o, none⟩ ∧ PartAt base w b (o + i * 2) (l.getD i ([], [])) := by
  obtain ⟨a', cap', e, hc, h⟩ := h
  simp only [Value.slice.injEq] at e
  obtain ⟨rfl, rfl, rfl⟩ := e
  rcases h with ⟨rfl, _⟩ | ⟨b, o, rfl, _, h⟩
  · simp at hi
  · exact ⟨b, o, rfl, h i hi⟩
theorem grown_rowP {w W w1 : World} {v : Value} (h : w.grownBy W none) (ho : ∀ k, v.ownBlock = some k → w.heap.size ≤ k) (hg : W.grownBy w1 v.ownBlock) : w.grownBy w1 none :=
  ⟨hg.os.trans h.os, hg.tape.trans h.tape, hg.output.trans h.output, Nat.le_trans h.size hg.size, fun i hi hn => (hg.block i (Nat.lt_of_lt_of_le hi h.size) (fun e => by have := ho i e.symm; omega)).trans (h.block i hi hn)⟩
theorem pairsB_oneCell {base : Nat} {w : World} {v : Value} {l : PL} (h : PairsB base w v l) : v.oneCell' = true := by
  obtain ⟨a, cap, rfl, _⟩ := h
  rfl
theorem pairsB_nil (base : Nat) (w : World) : PairsB base w (.slice none 0 0) [] := ⟨none, 0, rfl, Nat.le_refl _, .inl ⟨rfl, fun _ => rfl⟩⟩
theorem PairsB.shape {base : Nat} {w : World} {v : Value} {l : PL} (h : PairsB base w v l) : ∃ a cap, v = .slice a l.length cap := by
  obtain ⟨a, cap, rfl, _⟩ := h
  exact ⟨a, cap, rfl⟩
theorem PairsB.mono {base base' : Nat} {w : World} {v : Value} {l : PL} (h : PairsB base w v l) (hb : base ≤ base') : PairsB base' w v l := by
  obtain ⟨a, cap, rfl, hc, h⟩ := h
  refine ⟨a, cap, rfl, hc, ?_⟩
  rcases h with h | ⟨b, o, rfl, h1, h2⟩
  · exact .inl h
  · refine .inr ⟨b, o, rfl, ?_, fun i hi => ?_⟩
    · rcases h1 with h1 | h1
      · exact .inl (by omega)
      · exact .inr h1
    · obtain ⟨vk, vv, c1, c2, p1, p2⟩ := h2 i hi
      exact ⟨vk, vv, c1, c2, p1.mono hb, p2.mono hb⟩
theorem OwnQ.pairsB {rb : Nat} {w : World} {v : Value} {l : PL} (h : OwnQ rb 0 w v l) : PairsB 0 w v l := (h.p (Nat.zero_le _)).pairsB
theorem PairsB.up {w : World} {v : Value} {l : PL} (h : PairsB 0 w v l) (base : Nat) : PairsB base w v l := h.mono (Nat.zero_le _)
end Go.Proofs.Ytpmfbfflacbmjac
