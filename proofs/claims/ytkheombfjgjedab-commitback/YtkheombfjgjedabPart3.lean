/-
  Texts of this proof, joined: CmtMem, TpDec, TpCheck, CmtSet, RdrMem, TapeA, TpEnc, CmtFit.
-/
import Derived.Test.YtkheombfjgjedabWrMem
import Derived.Test.YtkheombfjgjedabPart1
import Derived.Test.YtkheombfjgjedabPart2
/-
  Commits and tapes in memory.
-/
namespace Go.Proofs.Ytkheombfjgjedab
open Go.RowKit
def WrPartAt (base : Nat) (w : World) (b o : Nat) (p : Plc) : Prop := ∃ vn vk vv, w.cell? ⟨b, o, none⟩ = some vn ∧ w.cell? ⟨b, o + 1, none⟩ = some vk ∧ w.cell? ⟨b, o + 2, none⟩ = some (.bool p.gone) ∧ w.cell? ⟨b, o + 3, none⟩ = some vv ∧ PartIs base w vn p.name ∧ PartIs base w vk p.key ∧ PartIs base w vv p.value
/-- A list of writes that stands where blocks of the call's own, of no writes and no bytes, turn. -/
def WritesB (base : Nat) (w : World) (v : Value) (l : List Plc) : Prop :=
  ∃ a cap, v = .slice a l.length cap ∧ l.length ≤ cap ∧ ((l = [] ∧ (a = none → cap = 0)) ∨ ∃ b o, a = some ⟨b, o, none⟩ ∧ (b < base ∨ ∃ cur fz, w.heap[b]? = some (.cells cur 40 fz)) ∧ ∀ i, i < l.length → WrPartAt base w b (o + i * 4) (l.getD i noPlc))
theorem writesB_nil (base : Nat) (w : World) : WritesB base w (.slice none 0 0) [] := ⟨none, 0, rfl, Nat.le_refl _, .inl ⟨rfl, fun _ => rfl⟩⟩
theorem WritesB.shape {base : Nat} {w : World} {v : Value} {l : List Plc} (h : WritesB base w v l) : ∃ a cap, v = .slice a l.length cap := by
  obtain ⟨a, cap, rfl, _⟩ := h
  exact ⟨a, cap, rfl⟩
theorem WritesB.oneCell {base : Nat} {w : World} {v : Value} {l : List Plc} (h : WritesB base w v l) : v.oneCell' = true := by
  obtain ⟨a, cap, rfl, _⟩ := h
  rfl
theorem WritesB.list {base : Nat} {w : World} {v : Value} {l : List Plc} (h : WritesB base w v l) : WritesIs w v l := by
  obtain ⟨a, cap, rfl, hc, h⟩ := h
  refine ⟨a, cap, rfl, hc, ?_⟩
  rcases h with h | ⟨b, o, rfl, _, h⟩
  · exact .inl h
  · refine .inr ⟨b, o, rfl, fun i hi => ?_⟩
    obtain ⟨vn, vk, vv, c1, c2, c3, c4, h1, h2, h3⟩ := h i hi
    exact ⟨vn, vk, vv, c1, c2, c3, c4, h1.1, h2.1, h3.1⟩
theorem WritesIs.writesB {w w' : World} {v : Value} {l : List Plc} (h : WritesIs w v l) (hg : w.grownBy w' none) (base : Nat) (hb : w.heap.size ≤ base) : WritesB base w' v l := by
  obtain ⟨a, cap, rfl, hc, h⟩ := h
  refine ⟨a, cap, rfl, hc, ?_⟩
  rcases h with h | ⟨b, o, rfl, h⟩
  · exact .inl h
  · by_cases h0 : l = []
    · exact .inl ⟨h0, fun e => by cases e⟩
    · have hl : 0 < l.length := List.length_pos_iff.2 h0
      refine .inr ⟨b, o, rfl, .inl ?_, fun i hi => ?_⟩
      · obtain ⟨vn, vk, vv, c1, _⟩ := h 0 hl
        exact Nat.lt_of_lt_of_le (cell_lt c1) hb
      · obtain ⟨vn, vk, vv, c1, c2, c3, c4, h1, h2, h3⟩ := h i hi
        exact ⟨vn, vk, vv, hg.cell c1 (by simp), hg.cell c2 (by simp), hg.cell c3 (by simp), hg.cell c4 (by simp), h1.part hg base hb, h2.part hg base hb, h3.part hg base hb⟩
theorem OwnW.writesB {base : Nat} {w : World} {v : Value} {l : List Plc} (h : OwnW base w v l) : WritesB base w v l := by
  obtain ⟨us, hl, hr, h3⟩ := h
  rcases hr.2 with ⟨rfl, h0⟩ | ⟨g, cap, cur, rfl, hb, hg, hn, hm, hs, ht⟩
  · have : l = [] := List.eq_nil_of_length_eq_zero h0
    rw [this]
    exact writesB_nil base w
  · have hcell : ∀ j u, (flatW us)[j]? = some u → w.cell? ⟨g, j, none⟩ = some u := by
      intro j u hj
      have hlt : j < l.length * 4 := by
        have := (List.getElem?_eq_some_iff.1 hj).1
        rw [hr.1] at this
        exact this
      have e2 : (cur.toList.take (l.length * 4))[j]? = (flatW us)[j]? := by rw [ht]
      rw [List.getElem?_take, if_pos hlt, hj] at e2
      simp [World.cell?, hg]
      simpa using e2
    refine ⟨_, cap, rfl, hn, .inr ⟨g, 0, rfl, .inr ⟨_, _, hg⟩, fun i hi => ?_⟩⟩
    obtain ⟨e1, e2⟩ := mapW_getD hl i hi
    have hlen : us.length = l.length := by rw [← hl]; simp
    obtain ⟨c1, c2, c3, c4⟩ := flatW_get us i (by omega)
    have hp := h3 _ e2
    rw [e1] at c3 hp
    rw [Nat.zero_add]
    exact ⟨_, _, _, hcell _ _ c1, hcell _ _ c2, hcell _ _ c3, hcell _ _ c4, hp.1, hp.2.1, hp.2.2⟩
theorem WritesB.kept {base : Nat} {w w' : World} {v : Value} {l : List Plc} (h : WritesB base w v l) {row : Option Nat} (hg : w.grownBy w' row) (hrow : row = none ∨ ∃ g cur t fz, row = some g ∧ base ≤ g ∧ w.heap[g]? = some (.cells cur t fz) ∧ t ≠ 5 ∧ t ≠ 40) : WritesB base w' v l := by
  obtain ⟨a, cap, rfl, hc, h⟩ := h
  refine ⟨a, cap, rfl, hc, ?_⟩
  rcases h with h | ⟨b, o, rfl, hb, h⟩
  · exact .inl h
  · by_cases h0 : l = []
    · exact .inl ⟨h0, fun e => by cases e⟩
    · have hl : 0 < l.length := List.length_pos_iff.2 h0
      have hlt : b < w.heap.size := by
        obtain ⟨vn, vk, vv, c1, _⟩ := h 0 hl
        exact cell_lt c1
      have hne : some b ≠ row := by
        intro e
        rcases hrow with rfl | ⟨g, cur, t, fz, rfl, hbg, hgc, ht, ht2⟩
        · cases e
        · cases e
          rcases hb with hb | ⟨cur2, fz2, hb⟩
          · omega
          · rw [hb] at hgc
            simp only [Option.some.injEq, Obj.cells.injEq] at hgc
            exact ht2 hgc.2.1.symm
      have hrow' : row = none ∨ ∃ g cur t fz, row = some g ∧ base ≤ g ∧ w.heap[g]? = some (.cells cur t fz) ∧ t ≠ 5 := by
        rcases hrow with h | ⟨g, cur, t, fz, h1, h2, h3, h4, _⟩
        · exact .inl h
        · exact .inr ⟨g, cur, t, fz, h1, h2, h3, h4⟩
      refine .inr ⟨b, o, rfl, ?_, fun i hi => ?_⟩
      · rcases hb with hb | ⟨cur, fz, hb⟩
        · exact .inl hb
        · exact .inr ⟨cur, fz, by rw [hg.block b hlt hne]; exact hb⟩
      · obtain ⟨vn, vk, vv, c1, c2, c3, c4, h1, h2, h3⟩ := h i hi
        exact ⟨vn, vk, vv, hg.cell c1 (by simpa using hne), hg.cell c2 (by simpa using hne), hg.cell c3 (by simpa using hne), hg.cell c4 (by simpa using hne), h1.keptT hg hrow', h2.keptT hg hrow', h3.keptT hg hrow'⟩
theorem WritesB.grown {base : Nat} {w w' : World} {v : Value} {l : List Plc} (h : WritesB base w v l) (hg : w.grownBy w' none) : WritesB base w' v l := h.kept hg (.inl rfl)
theorem WritesB.mono {base base' : Nat} {w : World} {v : Value} {l : List Plc} (h : WritesB base w v l) (hb : base ≤ base') : WritesB base' w v l := by
  obtain ⟨a, cap, rfl, hc, h⟩ := h
  refine ⟨a, cap, rfl, hc, ?_⟩
  rcases h with h | ⟨b, o, rfl, h1, h2⟩
  · exact .inl h
  · refine .inr ⟨b, o, rfl, ?_, fun i hi => ?_⟩
    · rcases h1 with h1 | h1
      · exact .inl (by omega)
      · exact .inr h1
    · obtain ⟨vn, vk, vv, c1, c2, c3, c4, p1, p2, p3⟩ := h2 i hi
      exact ⟨vn, vk, vv, c1, c2, c3, c4, p1.mono hb, p2.mono hb, p3.mono hb⟩
/-- A commit. -/
def CommitIs (w : World) (v : Value) (c : Cmt) : Prop := ∃ vs, v = .agg #[.int .i64 c.turn, vs] ∧ WritesIs w vs c.writes
theorem CommitIs.grown {w w' : World} {v : Value} {c : Cmt} (h : CommitIs w v c) (hg : w.grownBy w' none) : CommitIs w' v c := by
  obtain ⟨vs, rfl, h⟩ := h
  exact ⟨vs, rfl, h.grown hg⟩
theorem CommitIs.agg {w : World} {v : Value} {c : Cmt} (h : CommitIs w v c) : ∃ a cap, v = .agg #[.int .i64 c.turn, .slice a c.writes.length cap] := by
  obtain ⟨vs, rfl, h⟩ := h
  obtain ⟨a, cap, rfl⟩ := h.shape
  exact ⟨a, cap, rfl⟩
theorem CommitIs.writes {w : World} {c : Cmt} {x y : Value} (h : CommitIs w (.agg #[x, y]) c) : x = .int .i64 c.turn ∧ WritesIs w y c.writes := by
  obtain ⟨vs, e, h⟩ := h
  injection e with e
  injection e with e
  injection e with e1 e
  injection e with e2 e
  exact ⟨e1, e2 ▸ h⟩
theorem commitIs_no (w : World) : CommitIs w (.agg #[.int .i64 0, .slice none 0 0]) noCmt := ⟨_, rfl, writesIs_nil w⟩
structure FitsC (c : Cmt) : Prop where
  turn : -9223372036854775808 ≤ c.turn ∧ c.turn ≤ 9223372036854775807
  writes : FitsW c.writes
theorem cmtT5 : (27 : Nat) ≠ 5 := by decide
theorem cmtTW : (27 : Nat) ≠ 40 := by decide
/-- A tape. -/
structure Tap where
  data : List UInt8
  synced : Int
def noTap : Tap := ⟨[], 0⟩
def TapeIs (w : World) (v : Value) (t : Tap) : Prop := ∃ vd, v = .agg #[vd, .int .i64 t.synced] ∧ SliceIs w vd t.data
theorem TapeIs.grown {w w' : World} {v : Value} {t : Tap} (h : TapeIs w v t) (hg : w.grownBy w' none) : TapeIs w' v t := by
  obtain ⟨vd, rfl, h⟩ := h
  exact ⟨vd, rfl, h.grown hg⟩
theorem TapeIs.agg {w : World} {v : Value} {t : Tap} (h : TapeIs w v t) : ∃ a cap, v = .agg #[.slice a t.data.length cap, .int .i64 t.synced] := by
  obtain ⟨vd, rfl, h⟩ := h
  obtain ⟨a, cap, rfl⟩ := h.shape
  exact ⟨a, cap, rfl⟩
theorem TapeIs.data {w : World} {t : Tap} {x y : Value} (h : TapeIs w (.agg #[x, y]) t) : SliceIs w x t.data ∧ y = .int .i64 t.synced := by
  obtain ⟨vd, e, h⟩ := h
  injection e with e
  injection e with e
  injection e with e1 e
  injection e with e2 e
  exact ⟨e1 ▸ h, e2⟩
theorem tapeIs_no (w : World) : TapeIs w (.agg #[.slice none 0 0, .int .i64 0]) noTap := ⟨_, rfl, sliceIs_nil w⟩
structure FitsTp (t : Tap) : Prop where
  data : t.data.length ≤ 140737488355328
  synced : -9223372036854775808 ≤ t.synced ∧ t.synced ≤ 9223372036854775807
end Go.Proofs.Ytkheombfjgjedab

/-
  What tape.Decode must keep.
-/
namespace Go.Proofs.Ytkheombfjgjedab
open Go.RowKit
def TpDecOK : Prop := ∀ (w : World) (v : Value) (b : List UInt8), SliceIs w v b → b.length ≤ 140737488355328 → Calls Try.prog 10 #[v] w fun e w' => ∃ x, e = .returned (.tuple #[x, .int .i64 (decE b)]) ∧ CommitIs w' x (decC b) ∧ w.grownBy w' none
end Go.Proofs.Ytkheombfjgjedab

/-
  What tape.Check must keep.
-/
namespace Go.Proofs.Ytkheombfjgjedab
open Go.RowKit
def TpCheckOK : Prop := ∀ (w : World) (v : Value) (c : Cmt), CommitIs w v c → FitsC c → Calls Try.prog 12 #[v] w fun e w' => e = .returned (.int .i64 (commitE c)) ∧ w.grownBy w' none
end Go.Proofs.Ytkheombfjgjedab

/-
  A list of writes with two bases (where its own block lies, where its bytes may lie), and blocks that turn beside it.
-/
namespace Go.Proofs.Ytkheombfjgjedab
open Go.RowKit
theorem set_self {w : World} {b i : Nat} {cs : Array Value} {t : TypeId} {fz : Nat × Nat} {u : Value} (h : w.heap[b]? = some (.cells cs t fz)) : (w.setCell ⟨b, i, none⟩ u).heap[b]? = some (.cells (cs.setIfInBounds i u) t fz) := by
  simp only [World.setCell, Array.getElem?_modify, if_true, h, Option.map_some]; rfl
theorem set_apart {w : World} {b c i : Nat} {o : Obj} {u : Value} (h : w.heap[b]? = some o) (hne : b ≠ c) : (w.setCell ⟨c, i, none⟩ u).heap[b]? = some o := by
  simp only [World.setCell, Array.getElem?_modify]
  rw [if_neg (fun e => hne e.symm)]; exact h
theorem set_grown (w : World) (b i : Nat) (u : Value) : w.grownBy (w.setCell ⟨b, i, none⟩ u) (some b) := grown_set (grown_refl w _) i u
theorem PartIs.setOther {base : Nat} {w : World} {v : Value} {bs : List UInt8} (h : PartIs base w v bs) {b i : Nat} {cs : Array Value} {t : TypeId} {fz : Nat × Nat} (hb : w.heap[b]? = some (.cells cs t fz)) (ht : t ≠ 5) (hbb : base ≤ b) (u : Value) : PartIs base (w.setCell ⟨b, i, none⟩ u) v bs :=
  h.keptT (set_grown w b i u) (.inr ⟨b, cs, t, fz, rfl, hbb, hb, ht⟩)
/-- The list v of writes is the call's own, from block rb on; its bytes lie ahead of block pb, or in blocks of bytes. -/
def OwnV (rb pb : Nat) (w : World) (v : Value) (l : List Plc) : Prop :=
  ∃ us : List WV, us.map (·.1) = l ∧ w.ownsRow rb 40 4 v l.length (flatW us) ∧ ∀ x ∈ us, PartIs pb w x.2.1 x.1.name ∧ PartIs pb w x.2.2.1 x.1.key ∧ PartIs pb w x.2.2.2 x.1.value
theorem ownV_nil (rb pb : Nat) (w : World) : OwnV rb pb w (.slice none 0 0) [] := ⟨[], rfl, World.ownsRow_nil _ _ _ _, fun x hx => by simp at hx⟩
theorem OwnV.own {rb : Nat} {w : World} {v : Value} {l : List Plc} (h : OwnV rb rb w v l) : OwnW rb w v l := h
theorem OwnV.row {rb pb : Nat} {w : World} {v : Value} {l : List Plc} (h : OwnV rb pb w v l) : v.ownBlock = none ∨ ∃ g cur fz, v.ownBlock = some g ∧ rb ≤ g ∧ w.heap[g]? = some (.cells cur 40 fz) := by
  obtain ⟨us, _, h, _⟩ := h
  rcases h.2 with ⟨rfl, _⟩ | ⟨g, cap, cur, rfl, hb, hg, _⟩
  · exact .inl rfl
  · exact .inr ⟨g, cur, _, rfl, hb, hg⟩
theorem OwnV.lt {rb pb : Nat} {w : World} {v : Value} {l : List Plc} (h : OwnV rb pb w v l) : ∀ k, v.ownBlock = some k → rb ≤ k ∧ k < w.heap.size := by
  obtain ⟨us, _, h, _⟩ := h
  exact World.ownsRow.lt h
theorem OwnV.ne {rb pb : Nat} {w : World} {v : Value} {l : List Plc} (h : OwnV rb pb w v l) {b : Nat} {cs : Array Value} {t : TypeId} {fz : Nat × Nat} (hb : w.heap[b]? = some (.cells cs t fz)) (ht : t ≠ 40) : v.ownBlock ≠ some b := by
  intro e
  rcases h.row with h0 | ⟨g, cur, fz2, h1, _, h2⟩
  · rw [h0] at e; cases e
  · rw [h1] at e
    cases e
    rw [hb] at h2
    simp only [Option.some.injEq, Obj.cells.injEq] at h2
    exact ht h2.2.1
theorem OwnV.kept {rb pb : Nat} {w w' : World} {v : Value} {l : List Plc} (h : OwnV rb pb w v l) {row : Option Nat} (hg : w.grownBy w' row) (hne : v.ownBlock = none ∨ v.ownBlock ≠ row) (hrow : row = none ∨ ∃ g cur t fz, row = some g ∧ pb ≤ g ∧ w.heap[g]? = some (.cells cur t fz) ∧ t ≠ 5) : OwnV rb pb w' v l := by
  obtain ⟨us, h1, h2, h3⟩ := h
  exact ⟨us, h1, World.ownsRow.kept h2 hg hne, fun x hx => ⟨(h3 x hx).1.keptT hg hrow, (h3 x hx).2.1.keptT hg hrow, (h3 x hx).2.2.keptT hg hrow⟩⟩
theorem OwnV.grownNone {rb pb : Nat} {w w' : World} {v : Value} {l : List Plc} (h : OwnV rb pb w v l) (hg : w.grownBy w' none) : OwnV rb pb w' v l := h.kept hg (by
  cases hv : v.ownBlock with
  | none => exact .inl rfl
  | some k => exact .inr (by simp)) (.inl rfl)
theorem OwnV.setOther {rb pb : Nat} {w : World} {v : Value} {l : List Plc} (h : OwnV rb pb w v l) {b i : Nat} {cs : Array Value} {t : TypeId} {fz : Nat × Nat} (hb : w.heap[b]? = some (.cells cs t fz)) (ht : t ≠ 5) (ht2 : t ≠ 40) (hbb : pb ≤ b) (u : Value) : OwnV rb pb (w.setCell ⟨b, i, none⟩ u) v l :=
  h.kept (set_grown w b i u) (.inr (h.ne hb ht2)) (.inr ⟨b, cs, t, fz, rfl, hbb, hb, ht⟩)
theorem OwnV.shape {rb pb : Nat} {w : World} {v : Value} {l : List Plc} (h : OwnV rb pb w v l) : ∃ a cap, v = .slice a l.length cap := by
  obtain ⟨us, _, h, _⟩ := h
  rcases h.2 with ⟨rfl, h0⟩ | ⟨g, cap, cur, rfl, _⟩
  · exact ⟨none, 0, by rw [h0]⟩
  · exact ⟨_, cap, rfl⟩
theorem OwnV.any {rb pb : Nat} {w : World} {v : Value} {l : List Plc} (h : OwnV rb pb w v l) : ∃ a n cap, v = .slice a n cap := by
  obtain ⟨a, cap, e⟩ := h.shape
  exact ⟨a, _, cap, e⟩
theorem OwnV.down {rb pb : Nat} {w : World} {v : Value} {l : List Plc} (h : OwnV rb pb w v l) (rb' : Nat) (hb : rb' ≤ rb) : OwnV rb' pb w v l := by
  obtain ⟨us, h1, h2, h3⟩ := h
  refine ⟨us, h1, ⟨h2.1, ?_⟩, h3⟩
  rcases h2.2 with h | ⟨g, cap, cur, e, hb2, rest⟩
  · exact .inl h
  · exact .inr ⟨g, cap, cur, e, Nat.le_trans hb hb2, rest⟩
theorem OwnV.writesB {rb pb : Nat} {w : World} {v : Value} {l : List Plc} (h : OwnV rb pb w v l) : WritesB pb w v l := by
  obtain ⟨us, hl, hr, h3⟩ := h
  rcases hr.2 with ⟨rfl, h0⟩ | ⟨g, cap, cur, rfl, hb, hg, hn, hm, hs, ht⟩
  · have : l = [] := List.eq_nil_of_length_eq_zero h0
    rw [this]
    exact writesB_nil pb w
  · have hcell : ∀ j u, (flatW us)[j]? = some u → w.cell? ⟨g, j, none⟩ = some u := by
      intro j u hj
      have hlt : j < l.length * 4 := by
        have := (List.getElem?_eq_some_iff.1 hj).1
        rw [hr.1] at this
        exact this
      have e2 : (cur.toList.take (l.length * 4))[j]? = (flatW us)[j]? := by rw [ht]
      rw [List.getElem?_take, if_pos hlt, hj] at e2
      simp [World.cell?, hg]
      simpa using e2
    refine ⟨_, cap, rfl, hn, .inr ⟨g, 0, rfl, .inr ⟨_, _, hg⟩, fun i hi => ?_⟩⟩
    obtain ⟨e1, e2⟩ := mapW_getD hl i hi
    have hlen : us.length = l.length := by rw [← hl]; simp
    obtain ⟨c1, c2, c3, c4⟩ := flatW_get us i (by omega)
    have hp := h3 _ e2
    rw [e1] at c3 hp
    rw [Nat.zero_add]
    exact ⟨_, _, _, hcell _ _ c1, hcell _ _ c2, hcell _ _ c3, hcell _ _ c4, hp.1, hp.2.1, hp.2.2⟩
theorem OwnV.list {rb pb : Nat} {w : World} {v : Value} {l : List Plc} (h : OwnV rb pb w v l) : WritesIs w v l := h.writesB.list
theorem grown_ownV {rb pb : Nat} {w W w1 : World} {v : Value} {l : List Plc} (h : w.grownBy W none) (ho : OwnV rb pb W v l) (hb : w.heap.size ≤ rb) (hg : W.grownBy w1 v.ownBlock) : w.grownBy w1 none :=
  ⟨hg.os.trans h.os, hg.tape.trans h.tape, hg.output.trans h.output, Nat.le_trans h.size hg.size, fun i hi hn => (hg.block i (Nat.lt_of_lt_of_le hi h.size) (fun e => by have := (ho.lt i e.symm).1; omega)).trans (h.block i hi hn)⟩
/-- append(v, x) of one write. -/
theorem wpList_append_wrV {w : World} {ops : Array Oper} {rest : List Oper} {o : Oper} {a : Act} {Q : Exit → Act → World → Prop} (hgd : o.guard = none) (s x : Operand)
    (ho : o.op = .call { callee := .builtin .append, args := #[s, x], argTypes := #[24, 24] }) (rb : Nat) (v : Value) (l : List Plc) (hs : a.eval s = v) (hown : OwnV rb 0 w v l)
    (vn vk vv : Value) (p : Plc) (h1 : PartIs 0 w vn p.name) (h2 : PartIs 0 w vk p.key) (h3 : PartIs 0 w vv p.value) (nb : Nat) (hb : w.heap[nb]? = some (.cells #[vn, vk, .bool p.gone, vv] 40))
    (hx : a.eval x = .slice (some ⟨nb, 0, none⟩) 1 1) (hl : (l.length + 1) * 80 ≤ 140737488355328) (hbase : rb ≤ w.heap.size)
    (h : ∀ v' w', OwnV rb 0 w' v' (l ++ [p]) → w.grownBy w' v.ownBlock → wpList Try.prog ops Q rest (a.put o.dst v') w') : wpList Try.prog ops Q (o :: rest) a w := by
  obtain ⟨i0, hi, hz0, hz1, hz2⟩ := info_parts infoWr
  have hrow : v.ownBlock = none ∨ ∃ g cur t fz, v.ownBlock = some g ∧ 0 ≤ g ∧ w.heap[g]? = some (.cells cur t fz) ∧ t ≠ 5 := by
    rcases hown.row with h | ⟨g, cur, fz, e, _, h⟩
    · exact .inl h
    · exact .inr ⟨g, cur, _, fz, e, Nat.zero_le _, h, wrT5⟩
  obtain ⟨us, hul, hr, hp⟩ := hown
  refine wpList_plain hgd fun K hK => ?_
  refine wp_append_lies w s x 24 ho rb 40 i0 (.agg #[.slice none 0 0, .slice none 0 0, .bool false, .slice none 0 0]) 4 80 Try.underlying24 hi hz0 hz1 hz2 rfl (by decide) v l.length (flatW us) hs hr ⟨nb, 0, none⟩ 1 1 (flatW [(p, vn, vk, vv)]) hx rfl (World.news_of_block (cs := #[vn, vk, .bool p.gone, vv]) hb) ?_ (by omega) (by unfold maxLen; omega) hl hbase _ rfl ?_
  · intro u hu
    simp only [flatW, List.flatMap_cons, List.flatMap_nil, List.append_nil, List.mem_cons, List.not_mem_nil, or_false] at hu
    rcases hu with rfl | rfl | rfl | rfl
    · exact part_oneCell h1
    · exact part_oneCell h2
    · rfl
    · exact part_oneCell h3
  · intro g cap w' q1 q2 _ _
    refine hK _ _ (h _ w' ⟨us ++ [(p, vn, vk, vv)], by simp [hul], ?_, ?_⟩ q2)
    · rw [flatW_append, List.length_append]; exact q1
    · intro y hy
      rcases List.mem_append.1 hy with hy | hy
      · exact ⟨(hp y hy).1.keptT q2 hrow, (hp y hy).2.1.keptT q2 hrow, (hp y hy).2.2.keptT q2 hrow⟩
      · simp only [List.mem_cons, List.not_mem_nil, or_false] at hy
        subst hy
        exact ⟨h1.keptT q2 hrow, h2.keptT q2 hrow, h3.keptT q2 hrow⟩
end Go.Proofs.Ytkheombfjgjedab

/-
  A reader of bytes in memory; b[n:]; blocks that come and turn beside it.
-/
namespace Go.Proofs.Ytkheombfjgjedab
open Go.RowKit
theorem alloc_named0 (w : World) (o : Obj) : ∃ W : World, Hid (W = w.alloc o) ∧ w.grownBy W none ∧ Hid (W.heap[w.heap.size]? = some o) := ⟨w.alloc o, rfl, World.grownBy_alloc _ _ _, heap_alloc_new w o⟩
theorem set_named0 (w : World) (b i : Nat) (u : Value) : ∃ W : World, Hid (W = w.setCell ⟨b, i, none⟩ u) ∧ w.grownBy W (some b) := ⟨_, rfl, set_grown w b i u⟩
theorem bslice_l (a : Option Addr) (cap : Nat) (l : List UInt8) (n : Nat) (hn : n ≤ l.length) : ∃ a1 c1, (∀ W, (Instr.slice 28 (.slice a l.length cap) (some (.int .i64 (n : Int))) none none).run Try.prog W = .ok (.slice a1 (l.length - n) c1) W) ∧ ∀ W, SliceIs W (.slice a l.length cap) l → SliceIs W (.slice a1 (l.length - n) c1) (l.drop n) := by
  refine ⟨if cap = n then a else a.map (·.add (n * 1)), cap - n, fun W => ?_, fun W h => ?_⟩
  · rw [run_slice_l _ _ _ _ _ (by kernel_rfl) _ _ (by omega) (by omega), sizeByte]
    simp only [Result.andThen, Go.sliced, Int.toNat_natCast]
  · have := h.sliced n l.length hn (Nat.le_refl _)
    simpa only [Go.sliced, List.take_length] using this
theorem rdrT5 : (47 : Nat) ≠ 5 := by decide
theorem rdrTW : (47 : Nat) ≠ 40 := by decide
theorem rdrTC : (47 : Nat) ≠ 27 := by decide
/-- A slice of bytes does not lie in the reader's block. -/
theorem SliceIs.rdr {w w' : World} {b : Nat} {a0 : Option Addr} {n0 c0 : Nat} {s : Bool} {t : TypeId} {v : Value} {bs : List UInt8} (h : SliceIs w v bs) (hb : w.heap[b]? = some (.cells #[.slice a0 n0 c0, .bool s] t)) (hg : w.grownBy w' (some b)) : SliceIs w' v bs := by
  obtain ⟨a, cap, rfl, hc, h⟩ := h
  refine ⟨a, cap, rfl, hc, ?_⟩
  rcases h with h | ⟨pb, o, rfl, h⟩
  · exact .inl h
  · by_cases h0 : bs = []
    · exact .inl ⟨h0, fun e => by cases e⟩
    · refine .inr ⟨pb, o, rfl, h.grown hg ?_⟩
      intro e
      cases e
      have hc0 := h 0 (List.length_pos_iff.2 h0)
      simp only [World.cell?, hb, Nat.add_zero] at hc0
      match o, hc0 with
      | 0, hc0 => simp at hc0
      | 1, hc0 => simp at hc0
      | o + 2, hc0 => simp at hc0
/-- The reader that lies in block b: what is left lies where it lay in an elder world. -/
structure RdrAt (w0 w : World) (b : Nat) (r : Rdr) : Prop where
  at_ : ∃ a cap, w.heap[b]? = some (.cells #[.slice a r.rest.length cap, .bool r.short] 47) ∧ SliceIs w0 (.slice a r.rest.length cap) r.rest
  old : ∃ a n c s, w0.heap[b]? = some (.cells #[.slice a n c, .bool s] 47)
  grown : w0.grownBy w (some b)
theorem RdrAt.lt {w0 w : World} {b : Nat} {r : Rdr} (h : RdrAt w0 w b r) : b < w.heap.size := by
  obtain ⟨a, cap, h, _⟩ := h.at_
  exact (Array.getElem?_eq_some_iff.1 h).1
theorem RdrAt.now {w0 w : World} {b : Nat} {r : Rdr} (h : RdrAt w0 w b r) {v : Value} {bs : List UInt8} (hv : SliceIs w0 v bs) : SliceIs w v bs := by
  obtain ⟨a, n, c, s, h0⟩ := h.old
  exact hv.rdr h0 h.grown
theorem RdrAt.row {w0 w : World} {b : Nat} {r : Rdr} (h : RdrAt w0 w b r) : some b = none ∨ ∃ g cur t fz, some b = some g ∧ 0 ≤ g ∧ w.heap[g]? = some (.cells cur t fz) ∧ t ≠ 5 := by
  obtain ⟨a, cap, h, _⟩ := h.at_
  exact .inr ⟨b, _, _, _, rfl, Nat.zero_le _, h, rdrT5⟩
theorem PartIs.rdr {w0 w w' : World} {b : Nat} {r : Rdr} {v : Value} {bs : List UInt8} (h : PartIs 0 w v bs) (hb : RdrAt w0 w b r) (hg : w.grownBy w' (some b)) : PartIs 0 w' v bs := h.keptT hg hb.row
theorem grown_of_none {w w' : World} (hg : w.grownBy w' none) (r : Option Nat) : w.grownBy w' r := ⟨hg.os, hg.tape, hg.output, hg.size, fun i hi _ => hg.block i hi (by simp)⟩
theorem RdrAt.kept {w0 w w' : World} {b : Nat} {r : Rdr} (h : RdrAt w0 w b r) (hg : w.grownBy w' none) : RdrAt w0 w' b r := by
  have hl := h.lt
  obtain ⟨a, cap, h1, hs⟩ := h.at_
  exact ⟨⟨a, cap, by rw [hg.block b hl (by simp)]; exact h1, hs⟩, h.old, grown_trans h.grown (grown_of_none hg _)⟩
/-- A block that is not the reader's stays where the reader turns. -/
theorem rdr_other {w w' : World} {b : Nat} (hg : w.grownBy w' (some b)) {c : Nat} {o : Obj} (hc : w.heap[c]? = some o) (hne : c ≠ b) : w'.heap[c]? = some o := by
  rw [hg.block c (Array.getElem?_eq_some_iff.1 hc).1 (by simpa using hne)]; exact hc
/-- The reader stays where a later block turns. -/
theorem RdrAt.apart {w0 w w' : World} {b : Nat} {r : Rdr} (h : RdrAt w0 w b r) {c : Nat} (hne : b ≠ c) (hc : w0.heap.size ≤ c) (hg : w.grownBy w' (some c)) : RdrAt w0 w' b r := by
  have hl := h.lt
  obtain ⟨a, cap, h1, hs⟩ := h.at_
  exact ⟨⟨a, cap, by rw [hg.block b hl (by simpa using hne)]; exact h1, hs⟩, h.old, grown_new h.grown hc hg⟩
theorem OwnV.rdr {rb : Nat} {w0 w w' : World} {b : Nat} {r : Rdr} {v : Value} {l : List Plc} (h : OwnV rb 0 w v l) (hb : RdrAt w0 w b r) (hg : w.grownBy w' (some b)) : OwnV rb 0 w' v l := by
  obtain ⟨a, cap, h0, _⟩ := hb.at_
  exact h.kept hg (.inr (h.ne h0 rdrTW)) hb.row
/-- Where a list of writes grows, the reader stays. -/
theorem RdrAt.ownV {rb : Nat} {w0 w w' : World} {b : Nat} {r : Rdr} {v : Value} {l : List Plc} (h : RdrAt w0 w b r) (ho : OwnV rb 0 w v l) (hb : w0.heap.size ≤ rb) (hg : w.grownBy w' v.ownBlock) : RdrAt w0 w' b r := by
  obtain ⟨a, cap, h1, hs⟩ := h.at_
  have hne := ho.ne h1 rdrTW
  cases hv : v.ownBlock with
  | none => rw [hv] at hg; exact h.kept hg
  | some g =>
    rw [hv] at hg hne
    exact h.apart (c := g) (fun e => hne (by rw [e])) (Nat.le_trans hb (ho.lt g hv).1) hg
end Go.Proofs.Ytkheombfjgjedab

/-
  What P6 answers, with no program: tapes that may be, Encode, Sync, Crash.
-/
namespace Go.Proofs.Ytkheombfjgjedab
open Go.RowKit
/-- P6.1. -/
def mayT (t : Tap) : Bool := decide (t.data.length ≤ 200000) && decide (0 ≤ t.synced ∧ t.synced ≤ (t.data.length : Int))
theorem mayT_iff (t : Tap) : mayT t = true ↔ t.data.length ≤ 200000 ∧ 0 ≤ t.synced ∧ t.synced ≤ (t.data.length : Int) := by
  unfold mayT
  rw [Bool.and_eq_true, decide_eq_true_iff, decide_eq_true_iff]
/-- What P6.3 answers. -/
def encF (c : Cmt) : List UInt8 := if commitE c = 0 then commitB c else []
/-- What P6.6 answers. -/
def syncE (t : Tap) : Int := if mayT t = true then 0 else 6
def syncT (t : Tap) : Tap := if mayT t = true then ⟨t.data, (t.data.length : Int)⟩ else noTap
/-- What P6.7 answers. -/
def crashE (t : Tap) (keep : Int) : Int := if mayT t = true then (if keep < 0 then 2 else 0) else 6
def crashN (t : Tap) (keep : Int) : Nat := if keep < (t.data.length : Int) - t.synced then (t.synced + keep).toNat else t.data.length
def crashT (t : Tap) (keep : Int) : Tap := if crashE t keep = 0 then ⟨t.data.take (crashN t keep), (crashN t keep : Int)⟩ else noTap
end Go.Proofs.Ytkheombfjgjedab

/-
  What tape.Encode must keep.
-/
namespace Go.Proofs.Ytkheombfjgjedab
open Go.RowKit
def TpEncOK : Prop := ∀ (w : World) (v : Value) (c : Cmt), CommitIs w v c → FitsC c → Calls Try.prog 9 #[v] w fun e w' => ∃ x, e = .returned (.tuple #[x, .int .i64 (commitE c)]) ∧ SliceIs w' x (encF c) ∧ w.grownBy w' none
end Go.Proofs.Ytkheombfjgjedab

/-
  Commits that may be fit into memory.
-/
namespace Go.Proofs.Ytkheombfjgjedab
open Go.RowKit
theorem writes_fits {ws : List Plc} (hn : ws.length ≤ 1000) (h : ∀ w ∈ ws, writeE w = 0) : FitsW ws := ⟨by omega, fun j hj => by
  have h0 := h ws[j] (List.getElem_mem hj)
  rw [show ws[j] = ws.getD j noPlc by simp [hj]] at h0
  have h2 := (writeE_iff _).1 h0
  have h3 : (ws.getD j noPlc).value.length ≤ 32 := by
    have := h2.2.2
    split at this
    · rw [this]; simp
    · exact this
  exact ⟨by omega, by omega, by omega⟩⟩
theorem commit_fits {c : Cmt} (h : commitE c = 0) : FitsC c := by
  obtain ⟨h1, h2, h3⟩ := (commit_iff c).1 h
  exact ⟨by omega, writes_fits (by omega) h3⟩
end Go.Proofs.Ytkheombfjgjedab
