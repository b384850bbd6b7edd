/-
  A list of writes with two bases (where its own block lies, where its bytes may lie), and blocks that turn beside it.
-/
import Derived.Test.YtkheombfjgjedaaCmtMem
namespace Go.Proofs.Ytkheombfjgjedaa
open Go.RowKit
theorem set_self {w : World} {b i : Nat} {cs : Array Value} {t : TypeId} {fz : Nat × Nat} {u : Value} (h : w.heap[b]? = some (.cells cs t fz)) : (w.setCell ⟨b, i, none⟩ u).heap[b]? = some (.cells (cs.setIfInBounds i u) t fz) := by
  simp only [World.setCell, Array.getElem?_modify, if_true, h, Option.map_some]; rfl
theorem set_apart {w : World} {b c i : Nat} {o : Obj} {u : Value} (h : w.heap[b]? = some o) (hne : b ≠ c) : (w.setCell ⟨c, i, none⟩ u).heap[b]? = some o := by
  simp only [World.setCell, Array.getElem?_modify]
  rw [if_neg (fun e => hne e.symm)]; exact h
theorem set_grown (w : World) (b i : Nat) (u : Value) : w.grownBy (w.setCell ⟨b, i, none⟩ u) (some b) := grown_set (grown_refl w _) i u
theorem PartIs.setOther {base : Nat} {w : World} {v : Value} {bs : List UInt8} (h : PartIs base w v bs) {b i : Nat} {cs : Array Value} {t : TypeId} {fz : Nat × Nat} (hb : w.heap[b]? = some (.cells cs t fz)) (ht : t ≠ 5) (hbb : base ≤ b) (u : Value) : PartIs base (w.setCell ⟨b, i, none⟩ u) v bs :=
  h.keptT (set_grown w b i u) (.inr ⟨b, cs, t, fz, rfl, hbb, hb, ht⟩)
/-- The list v of writes is the call's own, from block rb on; its bytes lie ahead of block pb, or in blocks of bytes. -/
def OwnV (rb pb : Nat) (w : World) (v : Value) (l : List Plc) : Prop :=
  ∃ us : List WV, us.map (·.1) = l ∧ w.ownsRow rb 48 4 v l.length (flatW us) ∧ ∀ x ∈ us, PartIs pb w x.2.1 x.1.name ∧ PartIs pb w x.2.2.1 x.1.key ∧ PartIs pb w x.2.2.2 x.1.value
theorem ownV_nil (rb pb : Nat) (w : World) : OwnV rb pb w (.slice none 0 0) [] := ⟨[], rfl, World.ownsRow_nil _ _ _ _, fun x hx => by simp at hx⟩
theorem OwnV.own {rb : Nat} {w : World} {v : Value} {l : List Plc} (h : OwnV rb rb w v l) : OwnW rb w v l := h
theorem OwnV.row {rb pb : Nat} {w : World} {v : Value} {l : List Plc} (h : OwnV rb pb w v l) : v.ownBlock = none ∨ ∃ g cur fz, v.ownBlock = some g ∧ rb ≤ g ∧ w.heap[g]? = some (.cells cur 48 fz) := by
  obtain ⟨us, _, h, _⟩ := h
  rcases h.2 with ⟨rfl, _⟩ | ⟨g, cap, cur, rfl, hb, hg, _⟩
  · exact .inl rfl
  · exact .inr ⟨g, cur, _, rfl, hb, hg⟩
theorem OwnV.lt {rb pb : Nat} {w : World} {v : Value} {l : List Plc} (h : OwnV rb pb w v l) : ∀ k, v.ownBlock = some k → rb ≤ k ∧ k < w.heap.size := by
  obtain ⟨us, _, h, _⟩ := h
  exact World.ownsRow.lt h
theorem OwnV.ne {rb pb : Nat} {w : World} {v : Value} {l : List Plc} (h : OwnV rb pb w v l) {b : Nat} {cs : Array Value} {t : TypeId} {fz : Nat × Nat} (hb : w.heap[b]? = some (.cells cs t fz)) (ht : t ≠ 48) : v.ownBlock ≠ some b := by
  intro e
  rcases h.row with h0 | ⟨g, cur, fz2, h1, _, h2⟩
  · rw [h0] at e; cases e
  · rw [h1] at e
    cases e
    rw [hb] at h2
    simp only [Option.some.injEq, Obj.cells.injEq] at h2
    exact ht h2.2.1
theorem OwnV.kept {rb pb : Nat} {w w' : World} {v : Value} {l : List Plc} (h : OwnV rb pb w v l) {row : Option Nat} (hg : w.grownBy w' row) (hne : v.ownBlock = none ∨ v.ownBlock ≠ row) (hrow : row = none ∨ ∃ g cur t fz, row = some g ∧ pb ≤ g ∧ w.heap[g]? = some (.cells cur t fz) ∧ t ≠ 5) : OwnV rb pb w' v l := by
  obtain ⟨us, h1, h2, h3⟩ := h
  exact ⟨us, h1, World.ownsRow.kept h2 hg hne, fun x hx => ⟨(h3 x hx).1.keptT hg hrow, (h3 x hx).2.1.keptT hg hrow, (h3 x hx).2.2.keptT hg hrow⟩⟩
theorem OwnV.grownNone {rb pb : Nat} {w w' : World} {v : Value} {l : List Plc} (h : OwnV rb pb w v l) (hg : w.grownBy w' none) : OwnV rb pb w' v l := h.kept hg (by
  cases hv : v.ownBlock with
  | none => exact .inl rfl
  | some k => exact .inr (by simp)) (.inl rfl)
theorem OwnV.setOther {rb pb : Nat} {w : World} {v : Value} {l : List Plc} (h : OwnV rb pb w v l) {b i : Nat} {cs : Array Value} {t : TypeId} {fz : Nat × Nat} (hb : w.heap[b]? = some (.cells cs t fz)) (ht : t ≠ 5) (ht2 : t ≠ 48) (hbb : pb ≤ b) (u : Value) : OwnV rb pb (w.setCell ⟨b, i, none⟩ u) v l :=
  h.kept (set_grown w b i u) (.inr (h.ne hb ht2)) (.inr ⟨b, cs, t, fz, rfl, hbb, hb, ht⟩)
theorem OwnV.shape {rb pb : Nat} {w : World} {v : Value} {l : List Plc} (h : OwnV rb pb w v l) : ∃ a cap, v = .slice a l.length cap := by
  obtain ⟨us, _, h, _⟩ := h
  rcases h.2 with ⟨rfl, h0⟩ | ⟨g, cap, cur, rfl, _⟩
  · exact ⟨none, 0, by rw [h0]⟩
  · exact ⟨_, cap, rfl⟩
theorem OwnV.any {rb pb : Nat} {w : World} {v : Value} {l : List Plc} (h : OwnV rb pb w v l) : ∃ a n cap, v = .slice a n cap := by
  obtain ⟨a, cap, e⟩ := h.shape
  exact ⟨a, _, cap, e⟩
theorem OwnV.down {rb pb : Nat} {w : World} {v : Value} {l : List Plc} (h : OwnV rb pb w v l) (rb' : Nat) (hb : rb' ≤ rb) : OwnV rb' pb w v l := by
  obtain ⟨us, h1, h2, h3⟩ := h
  refine ⟨us, h1, ⟨h2.1, ?_⟩, h3⟩
  rcases h2.2 with h | ⟨g, cap, cur, e, hb2, rest⟩
  · exact .inl h
  · exact .inr ⟨g, cap, cur, e, Nat.le_trans hb hb2, rest⟩
theorem OwnV.writesB {rb pb : Nat} {w : World} {v : Value} {l : List Plc} (h : OwnV rb pb w v l) : WritesB pb w v l := by
  obtain ⟨us, hl, hr, h3⟩ := h
  rcases hr.2 with ⟨rfl, h0⟩ | ⟨g, cap, cur, rfl, hb, hg, hn, hm, hs, ht⟩
  · have : l = [] := List.eq_nil_of_length_eq_zero h0
    rw [this]
    exact writesB_nil pb w
  · have hcell : ∀ j u, (flatW us)[j]? = some u → w.cell? ⟨g, j, none⟩ = some u := by
      intro j u hj
      have hlt : j < l.length * 4 := by
        have := (List.getElem?_eq_some_iff.1 hj).1
        rw [hr.1] at this
        exact this
      have e2 : (cur.toList.take (l.length * 4))[j]? = (flatW us)[j]? := by rw [ht]
      rw [List.getElem?_take, if_pos hlt, hj] at e2
      simp [World.cell?, hg]
      simpa using e2
    refine ⟨_, cap, rfl, hn, .inr ⟨g, 0, rfl, .inr ⟨_, _, hg⟩, fun i hi => ?_⟩⟩
    obtain ⟨e1, e2⟩ := mapW_getD hl i hi
    have hlen : us.length = l.length := by rw [← hl]; simp
    obtain ⟨c1, c2, c3, c4⟩ := flatW_get us i (by omega)
    have hp := h3 _ e2
    rw [e1] at c3 hp
    rw [Nat.zero_add]
    exact ⟨_, _, _, hcell _ _ c1, hcell _ _ c2, hcell _ _ c3, hcell _ _ c4, hp.1, hp.2.1, hp.2.2⟩
theorem OwnV.list {rb pb : Nat} {w : World} {v : Value} {l : List Plc} (h : OwnV rb pb w v l) : WritesIs w v l := h.writesB.list
theorem grown_ownV {rb pb : Nat} {w W w1 : World} {v : Value} {l : List Plc} (h : w.grownBy W none) (ho : OwnV rb pb W v l) (hb : w.heap.size ≤ rb) (hg : W.grownBy w1 v.ownBlock) : w.grownBy w1 none :=
  ⟨hg.os.trans h.os, hg.tape.trans h.tape, hg.output.trans h.output, Nat.le_trans h.size hg.size, fun i hi hn => (hg.block i (Nat.lt_of_lt_of_le hi h.size) (fun e => by have := (ho.lt i e.symm).1; omega)).trans (h.block i hi hn)⟩
/-- append(v, x) of one write. -/
theorem wpList_append_wrV {w : World} {ops : Array Oper} {rest : List Oper} {o : Oper} {a : Act} {Q : Exit → Act → World → Prop} (hgd : o.guard = none) (s x : Operand)
    (ho : o.op = .call { callee := .builtin .append, args := #[s, x], argTypes := #[22, 22] }) (rb : Nat) (v : Value) (l : List Plc) (hs : a.eval s = v) (hown : OwnV rb 0 w v l)
    (vn vk vv : Value) (p : Plc) (h1 : PartIs 0 w vn p.name) (h2 : PartIs 0 w vk p.key) (h3 : PartIs 0 w vv p.value) (nb : Nat) (hb : w.heap[nb]? = some (.cells #[vn, vk, .bool p.gone, vv] 48))
    (hx : a.eval x = .slice (some ⟨nb, 0, none⟩) 1 1) (hl : (l.length + 1) * 80 ≤ 140737488355328) (hbase : rb ≤ w.heap.size)
    (h : ∀ v' w', OwnV rb 0 w' v' (l ++ [p]) → w.grownBy w' v.ownBlock → wpList Try.prog ops Q rest (a.put o.dst v') w') : wpList Try.prog ops Q (o :: rest) a w := by
  obtain ⟨i0, hi, hz0, hz1, hz2⟩ := info_parts infoWr
  have hrow : v.ownBlock = none ∨ ∃ g cur t fz, v.ownBlock = some g ∧ 0 ≤ g ∧ w.heap[g]? = some (.cells cur t fz) ∧ t ≠ 5 := by
    rcases hown.row with h | ⟨g, cur, fz, e, _, h⟩
    · exact .inl h
    · exact .inr ⟨g, cur, _, fz, e, Nat.zero_le _, h, wrT5⟩
  obtain ⟨us, hul, hr, hp⟩ := hown
  refine wpList_plain hgd fun K hK => ?_
  refine wp_append_lies w s x 22 ho rb 48 i0 (.agg #[.slice none 0 0, .slice none 0 0, .bool false, .slice none 0 0]) 4 80 Try.underlying22 hi hz0 hz1 hz2 rfl (by decide) v l.length (flatW us) hs hr ⟨nb, 0, none⟩ 1 1 (flatW [(p, vn, vk, vv)]) hx rfl (World.news_of_block (cs := #[vn, vk, .bool p.gone, vv]) hb) ?_ (by omega) (by unfold maxLen; omega) hl hbase _ rfl ?_
  · intro u hu
    simp only [flatW, List.flatMap_cons, List.flatMap_nil, List.append_nil, List.mem_cons, List.not_mem_nil, or_false] at hu
    rcases hu with rfl | rfl | rfl | rfl
    · exact part_oneCell h1
    · exact part_oneCell h2
    · rfl
    · exact part_oneCell h3
  · intro g cap w' q1 q2 _ _
    refine hK _ _ (h _ w' ⟨us ++ [(p, vn, vk, vv)], by simp [hul], ?_, ?_⟩ q2)
    · rw [flatW_append, List.length_append]; exact q1
    · intro y hy
      rcases List.mem_append.1 hy with hy | hy
      · exact ⟨(hp y hy).1.keptT q2 hrow, (hp y hy).2.1.keptT q2 hrow, (hp y hy).2.2.keptT q2 hrow⟩
      · simp only [List.mem_cons, List.not_mem_nil, or_false] at hy
        subst hy
        exact ⟨h1.keptT q2 hrow, h2.keptT q2 hrow, h3.keptT q2 hrow⟩
end Go.Proofs.Ytkheombfjgjedaa
