/-
  Commits and tapes in memory.
-/
import Derived.Test.YtljdconhplgipabWrMem
import Derived.Test.YtljdconhplgipabTapeF
namespace Go.Proofs.Ytljdconhplgipab
open Go.RowKit
def WrPartAt (base : Nat) (w : World) (b o : Nat) (p : Plc) : Prop := ∃ vn vk vv, w.cell? ⟨b, o, none⟩ = some vn ∧ w.cell? ⟨b, o + 1, none⟩ = some vk ∧ w.cell? ⟨b, o + 2, none⟩ = some (.bool p.gone) ∧ w.cell? ⟨b, o + 3, none⟩ = some vv ∧ PartIs base w vn p.name ∧ PartIs base w vk p.key ∧ PartIs base w vv p.value
/-- A list of writes that stands where blocks of the call's own, of no writes and no bytes, turn. -/
def WritesB (base : Nat) (w : World) (v : Value) (l : List Plc) : Prop :=
  ∃ a cap, v = .slice a l.length cap ∧ l.length ≤ cap ∧ ((l = [] ∧ (a = none → cap = 0)) ∨ ∃ b o, a = some ⟨b, o, none⟩ ∧ (b < base ∨ ∃ cur fz, w.heap[b]? = some (.cells cur 35 fz)) ∧ ∀ i, i < l.length → WrPartAt base w b (o + i * 4) (l.getD i noPlc))
theorem writesB_nil (base : Nat) (w : World) : WritesB base w (.slice none 0 0) [] := ⟨none, 0, rfl, Nat.le_refl _, .inl ⟨rfl, fun _ => rfl⟩⟩
theorem WritesB.shape {base : Nat} {w : World} {v : Value} {l : List Plc} (h : WritesB base w v l) : ∃ a cap, v = .slice a l.length cap := by
  obtain ⟨a, cap, rfl, _⟩ := h
  exact ⟨a, cap, rfl⟩
theorem WritesB.oneCell {base : Nat} {w : World} {v : Value} {l : List Plc} (h : WritesB base w v l) : v.oneCell' = true := by
  obtain ⟨a, cap, rfl, _⟩ := h
  rfl
theorem WritesB.list {base : Nat} {w : World} {v : Value} {l : List Plc} (h : WritesB base w v l) : WritesIs w v l := by
  obtain ⟨a, cap, rfl, hc, h⟩ := h
  refine ⟨a, cap, rfl, hc, ?_⟩
  rcases h with h | ⟨b, o, rfl, _, h⟩
  · exact .inl h
  · refine .inr ⟨b, o, rfl, fun i hi => ?_⟩
    obtain ⟨vn, vk, vv, c1, c2, c3, c4, h1, h2, h3⟩ := h i hi
    exact ⟨vn, vk, vv, c1, c2, c3, c4, h1.1, h2.1, h3.1⟩
theorem WritesIs.writesB {w w' : World} {v : Value} {l : List Plc} (h : WritesIs w v l) (hg : w.grownBy w' none) (base : Nat) (hb : w.heap.size ≤ base) : WritesB base w' v l := by
  obtain ⟨a, cap, rfl, hc, h⟩ := h
  refine ⟨a, cap, rfl, hc, ?_⟩
  rcases h with h | ⟨b, o, rfl, h⟩
  · exact .inl h
  · by_cases h0 : l = []
    · exact .inl ⟨h0, fun e => by cases e⟩
    · have hl : 0 < l.length := List.length_pos_iff.2 h0
      refine .inr ⟨b, o, rfl, .inl ?_, fun i hi => ?_⟩
      · obtain ⟨vn, vk, vv, c1, _⟩ := h 0 hl
        exact Nat.lt_of_lt_of_le (cell_lt c1) hb
      · obtain ⟨vn, vk, vv, c1, c2, c3, c4, h1, h2, h3⟩ := h i hi
        exact ⟨vn, vk, vv, hg.cell c1 (by simp), hg.cell c2 (by simp), hg.cell c3 (by simp), hg.cell c4 (by simp), h1.part hg base hb, h2.part hg base hb, h3.part hg base hb⟩
theorem OwnW.writesB {base : Nat} {w : World} {v : Value} {l : List Plc} (h : OwnW base w v l) : WritesB base w v l := by
  obtain ⟨us, hl, hr, h3⟩ := h
  rcases hr.2 with ⟨rfl, h0⟩ | ⟨g, cap, cur, rfl, hb, hg, hn, hm, hs, ht⟩
  · have : l = [] := List.eq_nil_of_length_eq_zero h0
    rw [this]
    exact writesB_nil base w
  · have hcell : ∀ j u, (flatW us)[j]? = some u → w.cell? ⟨g, j, none⟩ = some u := by
      intro j u hj
      have hlt : j < l.length * 4 := by
        have := (List.getElem?_eq_some_iff.1 hj).1
        rw [hr.1] at this
        exact this
      have e2 : (cur.toList.take (l.length * 4))[j]? = (flatW us)[j]? := by rw [ht]
      rw [List.getElem?_take, if_pos hlt, hj] at e2
      simp [World.cell?, hg]
      simpa using e2
    refine ⟨_, cap, rfl, hn, .inr ⟨g, 0, rfl, .inr ⟨_, _, hg⟩, fun i hi => ?_⟩⟩
    obtain ⟨e1, e2⟩ := mapW_getD hl i hi
    have hlen : us.length = l.length := by rw [← hl]; simp
    obtain ⟨c1, c2, c3, c4⟩ := flatW_get us i (by omega)
    have hp := h3 _ e2
    rw [e1] at c3 hp
    rw [Nat.zero_add]
    exact ⟨_, _, _, hcell _ _ c1, hcell _ _ c2, hcell _ _ c3, hcell _ _ c4, hp.1, hp.2.1, hp.2.2⟩
theorem WritesB.kept {base : Nat} {w w' : World} {v : Value} {l : List Plc} (h : WritesB base w v l) {row : Option Nat} (hg : w.grownBy w' row) (hrow : row = none ∨ ∃ g cur t fz, row = some g ∧ base ≤ g ∧ w.heap[g]? = some (.cells cur t fz) ∧ t ≠ 5 ∧ t ≠ 35) : WritesB base w' v l := by
  obtain ⟨a, cap, rfl, hc, h⟩ := h
  refine ⟨a, cap, rfl, hc, ?_⟩
  rcases h with h | ⟨b, o, rfl, hb, h⟩
  · exact .inl h
  · by_cases h0 : l = []
    · exact .inl ⟨h0, fun e => by cases e⟩
    · have hl : 0 < l.length := List.length_pos_iff.2 h0
      have hlt : b < w.heap.size := by
        obtain ⟨vn, vk, vv, c1, _⟩ := h 0 hl
        exact cell_lt c1
      have hne : some b ≠ row := by
        intro e
        rcases hrow with rfl | ⟨g, cur, t, fz, rfl, hbg, hgc, ht, ht2⟩
        · cases e
        · cases e
          rcases hb with hb | ⟨cur2, fz2, hb⟩
          · omega
          · rw [hb] at hgc
            simp only [Option.some.injEq, Obj.cells.injEq] at hgc
            exact ht2 hgc.2.1.symm
      have hrow' : row = none ∨ ∃ g cur t fz, row = some g ∧ base ≤ g ∧ w.heap[g]? = some (.cells cur t fz) ∧ t ≠ 5 := by
        rcases hrow with h | ⟨g, cur, t, fz, h1, h2, h3, h4, _⟩
        · exact .inl h
        · exact .inr ⟨g, cur, t, fz, h1, h2, h3, h4⟩
      refine .inr ⟨b, o, rfl, ?_, fun i hi => ?_⟩
      · rcases hb with hb | ⟨cur, fz, hb⟩
        · exact .inl hb
        · exact .inr ⟨cur, fz, by rw [hg.block b hlt hne]; exact hb⟩
      · obtain ⟨vn, vk, vv, c1, c2, c3, c4, h1, h2, h3⟩ := h i hi
        exact ⟨vn, vk, vv, hg.cell c1 (by simpa using hne), hg.cell c2 (by simpa using hne), hg.cell c3 (by simpa using hne), hg.cell c4 (by simpa using hne), h1.keptT hg hrow', h2.keptT hg hrow', h3.keptT hg hrow'⟩
theorem WritesB.grown {base : Nat} {w w' : World} {v : Value} {l : List Plc} (h : WritesB base w v l) (hg : w.grownBy w' none) : WritesB base w' v l := h.kept hg (.inl rfl)
theorem WritesB.mono {base base' : Nat} {w : World} {v : Value} {l : List Plc} (h : WritesB base w v l) (hb : base ≤ base') : WritesB base' w v l := by
  obtain ⟨a, cap, rfl, hc, h⟩ := h
  refine ⟨a, cap, rfl, hc, ?_⟩
  rcases h with h | ⟨b, o, rfl, h1, h2⟩
  · exact .inl h
  · refine .inr ⟨b, o, rfl, ?_, fun i hi => ?_⟩
    · rcases h1 with h1 | h1
      · exact .inl (by omega)
      · exact .inr h1
    · obtain ⟨vn, vk, vv, c1, c2, c3, c4, p1, p2, p3⟩ := h2 i hi
      exact ⟨vn, vk, vv, c1, c2, c3, c4, p1.mono hb, p2.mono hb, p3.mono hb⟩
/-- A commit. -/
def CommitIs (w : World) (v : Value) (c : Cmt) : Prop := ∃ vs, v = .agg #[.int .i64 c.turn, vs] ∧ WritesIs w vs c.writes
theorem CommitIs.grown {w w' : World} {v : Value} {c : Cmt} (h : CommitIs w v c) (hg : w.grownBy w' none) : CommitIs w' v c := by
  obtain ⟨vs, rfl, h⟩ := h
  exact ⟨vs, rfl, h.grown hg⟩
theorem CommitIs.agg {w : World} {v : Value} {c : Cmt} (h : CommitIs w v c) : ∃ a cap, v = .agg #[.int .i64 c.turn, .slice a c.writes.length cap] := by
  obtain ⟨vs, rfl, h⟩ := h
  obtain ⟨a, cap, rfl⟩ := h.shape
  exact ⟨a, cap, rfl⟩
theorem CommitIs.writes {w : World} {c : Cmt} {x y : Value} (h : CommitIs w (.agg #[x, y]) c) : x = .int .i64 c.turn ∧ WritesIs w y c.writes := by
  obtain ⟨vs, e, h⟩ := h
  injection e with e
  injection e with e
  injection e with e1 e
  injection e with e2 e
  exact ⟨e1, e2 ▸ h⟩
theorem commitIs_no (w : World) : CommitIs w (.agg #[.int .i64 0, .slice none 0 0]) noCmt := ⟨_, rfl, writesIs_nil w⟩
structure FitsC (c : Cmt) : Prop where
  turn : -9223372036854775808 ≤ c.turn ∧ c.turn ≤ 9223372036854775807
  writes : FitsW c.writes
theorem cmtT5 : (48 : Nat) ≠ 5 := by decide
theorem cmtTW : (48 : Nat) ≠ 35 := by decide
/-- A tape. -/
structure Tap where
  data : List UInt8
  synced : Int
def noTap : Tap := ⟨[], 0⟩
def TapeIs (w : World) (v : Value) (t : Tap) : Prop := ∃ vd, v = .agg #[vd, .int .i64 t.synced] ∧ SliceIs w vd t.data
theorem TapeIs.grown {w w' : World} {v : Value} {t : Tap} (h : TapeIs w v t) (hg : w.grownBy w' none) : TapeIs w' v t := by
  obtain ⟨vd, rfl, h⟩ := h
  exact ⟨vd, rfl, h.grown hg⟩
theorem TapeIs.agg {w : World} {v : Value} {t : Tap} (h : TapeIs w v t) : ∃ a cap, v = .agg #[.slice a t.data.length cap, .int .i64 t.synced] := by
  obtain ⟨vd, rfl, h⟩ := h
  obtain ⟨a, cap, rfl⟩ := h.shape
  exact ⟨a, cap, rfl⟩
theorem TapeIs.data {w : World} {t : Tap} {x y : Value} (h : TapeIs w (.agg #[x, y]) t) : SliceIs w x t.data ∧ y = .int .i64 t.synced := by
  obtain ⟨vd, e, h⟩ := h
  injection e with e
  injection e with e
  injection e with e1 e
  injection e with e2 e
  exact ⟨e1 ▸ h, e2⟩
theorem tapeIs_no (w : World) : TapeIs w (.agg #[.slice none 0 0, .int .i64 0]) noTap := ⟨_, rfl, sliceIs_nil w⟩
structure FitsTp (t : Tap) : Prop where
  data : t.data.length ≤ 140737488355328
  synced : -9223372036854775808 ≤ t.synced ∧ t.synced ≤ 9223372036854775807
end Go.Proofs.Ytljdconhplgipab
