/-
  Writes in memory: structs of a name, a key, a bool and a value.
-/
import Derived.Test.YtpmfbfflacbmjacPairB
import Derived.Test.YtpmfbfflacbmjacPart1
import Derived.Deep.AppendLies
namespace Go.Proofs.Ytpmfbfflacbmjac
open Go.RowKit
/-- A write, as a value. -/
def WriteIs (w : World) (v : Value) (p : Plc) : Prop := ∃ vn vk vv, v = .agg #[vn, vk, .bool p.gone, vv] ∧ SliceIs w vn p.name ∧ SliceIs w vk p.key ∧ SliceIs w vv p.value
theorem WriteIs.grown {w w' : World} {v : Value} {p : Plc} (h : WriteIs w v p) (hg : w.grownBy w' none) : WriteIs w' v p := by
  obtain ⟨vn, vk, vv, rfl, h1, h2, h3⟩ := h
  exact ⟨vn, vk, vv, rfl, h1.grown hg, h2.grown hg, h3.grown hg⟩
theorem WriteIs.aggW {w : World} {v : Value} {p : Plc} (h : WriteIs w v p) : ∃ na nc ka kc va vc, v = .agg #[.slice na p.name.length nc, .slice ka p.key.length kc, .bool p.gone, .slice va p.value.length vc] := by
  obtain ⟨vn, vk, vv, rfl, h1, h2, h3⟩ := h
  obtain ⟨na, nc, rfl⟩ := h1.shape
  obtain ⟨ka, kc, rfl⟩ := h2.shape
  obtain ⟨va, vc, rfl⟩ := h3.shape
  exact ⟨na, nc, ka, kc, va, vc, rfl⟩
/-- The write that lies at a place. -/
def WriteAt (w : World) (b o : Nat) (p : Plc) : Prop := ∃ vn vk vv, w.cell? ⟨b, o, none⟩ = some vn ∧ w.cell? ⟨b, o + 1, none⟩ = some vk ∧ w.cell? ⟨b, o + 2, none⟩ = some (.bool p.gone) ∧ w.cell? ⟨b, o + 3, none⟩ = some vv ∧ SliceIs w vn p.name ∧ SliceIs w vk p.key ∧ SliceIs w vv p.value
theorem WriteAt.grown {w w' : World} {b o : Nat} {p : Plc} (h : WriteAt w b o p) (hg : w.grownBy w' none) : WriteAt w' b o p := by
  obtain ⟨vn, vk, vv, c1, c2, c3, c4, h1, h2, h3⟩ := h
  exact ⟨vn, vk, vv, hg.cell c1 (by simp), hg.cell c2 (by simp), hg.cell c3 (by simp), hg.cell c4 (by simp), h1.grown hg, h2.grown hg, h3.grown hg⟩
/-- A list of writes, as it is handed over. -/
def WritesIs (w : World) (v : Value) (l : List Plc) : Prop :=
  ∃ a cap, v = .slice a l.length cap ∧ l.length ≤ cap ∧ ((l = [] ∧ (a = none → cap = 0)) ∨ ∃ b o, a = some ⟨b, o, none⟩ ∧ ∀ i, i < l.length → WriteAt w b (o + i * 4) (l.getD i noPlc))
theorem writesIs_nil (w : World) : WritesIs w (.slice none 0 0) [] := ⟨none, 0, rfl, Nat.le_refl _, .inl ⟨rfl, fun _ => rfl⟩⟩
theorem WritesIs.shape {w : World} {v : Value} {l : List Plc} (h : WritesIs w v l) : ∃ a cap, v = .slice a l.length cap := by
  obtain ⟨a, cap, rfl, _⟩ := h
  exact ⟨a, cap, rfl⟩
theorem WritesIs.grown {w w' : World} {v : Value} {l : List Plc} (h : WritesIs w v l) (hg : w.grownBy w' none) : WritesIs w' v l := by
  obtain ⟨a, cap, rfl, hc, h⟩ := h
  refine ⟨a, cap, rfl, hc, ?_⟩
  rcases h with h | ⟨b, o, rfl, h⟩
  · exact .inl h
  · exact .inr ⟨b, o, rfl, fun i hi => (h i hi).grown hg⟩
theorem WritesIs.at {w : World} {a : Option Addr} {n cap : Nat} {l : List Plc} (h : WritesIs w (.slice a n cap) l) (i : Nat) (hi : i < l.length) : ∃ b o, a = some ⟨b, o, none⟩ ∧ WriteAt w b (o + i * 4) (l.getD i noPlc) := by
  obtain ⟨a', cap', e, hc, h⟩ := h
  simp only [Value.slice.injEq] at e
  obtain ⟨rfl, rfl, rfl⟩ := e
  rcases h with ⟨rfl, _⟩ | ⟨b, o, rfl, h⟩
  · simp at hi
  · exact ⟨b, o, rfl, h i hi⟩
structure FitsW (l : List Plc) : Prop where
  many : l.length * 80 ≤ 140737488355328
  each : ∀ i, i < l.length → PlcFits (l.getD i noPlc)
theorem FitsW.len {l : List Plc} (h : FitsW l) : l.length ≤ 140737488355328 := by have := h.many; omega
/-- The cells of writes. -/
abbrev WV := Plc × Value × Value × Value
def noWV : WV := (noPlc, undef, undef, undef)
def flatW (us : List WV) : List Value := us.flatMap fun x => [x.2.1, x.2.2.1, .bool x.1.gone, x.2.2.2]
theorem flatW_len (us : List WV) : (flatW us).length = us.length * 4 := by
  induction us with
  | nil => rfl
  | cons x r ih => simp only [flatW, List.flatMap_cons, List.length_append, List.length_cons, List.length_nil] at ih ⊢; omega
theorem flatW_append (a b : List WV) : flatW (a ++ b) = flatW a ++ flatW b := by simp [flatW]
theorem flatW_get : ∀ (us : List WV) (i : Nat), i < us.length → (flatW us)[i * 4]? = some (us.getD i noWV).2.1 ∧ (flatW us)[i * 4 + 1]? = some (us.getD i noWV).2.2.1 ∧ (flatW us)[i * 4 + 2]? = some (.bool (us.getD i noWV).1.gone) ∧ (flatW us)[i * 4 + 3]? = some (us.getD i noWV).2.2.2
  | [], i, h => by simp at h
  | x :: r, 0, _ => by simp [flatW]
  | x :: r, i + 1, h => by
    have := flatW_get r i (by simpa using h)
    rw [show (i + 1) * 4 = i * 4 + 4 by omega, show i * 4 + 4 + 1 = (i * 4 + 1) + 4 by omega, show i * 4 + 4 + 2 = (i * 4 + 2) + 4 by omega, show i * 4 + 4 + 3 = (i * 4 + 3) + 4 by omega]
    simpa [flatW] using this
theorem wrT5 : (53 : Nat) ≠ 5 := by decide
/-- The list v of writes is the call's own, from block 'base' on. -/
def OwnW (base : Nat) (w : World) (v : Value) (l : List Plc) : Prop :=
  ∃ us : List WV, us.map (·.1) = l ∧ w.ownsRow base 53 4 v l.length (flatW us) ∧ ∀ x ∈ us, PartIs base w x.2.1 x.1.name ∧ PartIs base w x.2.2.1 x.1.key ∧ PartIs base w x.2.2.2 x.1.value
theorem ownW_nil (base : Nat) (w : World) : OwnW base w (.slice none 0 0) [] := ⟨[], rfl, World.ownsRow_nil _ _ _ _, fun x hx => by simp at hx⟩
theorem OwnW.row {base : Nat} {w : World} {v : Value} {l : List Plc} (h : OwnW base w v l) : v.ownBlock = none ∨ ∃ g cur t fz, v.ownBlock = some g ∧ base ≤ g ∧ w.heap[g]? = some (.cells cur t fz) ∧ t ≠ 5 := by
  obtain ⟨us, _, h, _⟩ := h
  rcases h.2 with ⟨rfl, _⟩ | ⟨g, cap, cur, rfl, hb, hg, _⟩
  · exact .inl rfl
  · exact .inr ⟨g, cur, _, _, rfl, hb, hg, wrT5⟩
theorem OwnW.lt {base : Nat} {w : World} {v : Value} {l : List Plc} (h : OwnW base w v l) : ∀ k, v.ownBlock = some k → base ≤ k ∧ k < w.heap.size := by
  obtain ⟨us, _, h, _⟩ := h
  exact World.ownsRow.lt h
theorem OwnW.grownNone {base : Nat} {w w' : World} {v : Value} {l : List Plc} (h : OwnW base w v l) (hg : w.grownBy w' none) : OwnW base w' v l := by
  obtain ⟨us, h1, h2, h3⟩ := h
  refine ⟨us, h1, World.ownsRow.kept h2 hg ?_, fun x hx => ⟨(h3 x hx).1.keptT hg (.inl rfl), (h3 x hx).2.1.keptT hg (.inl rfl), (h3 x hx).2.2.keptT hg (.inl rfl)⟩⟩
  cases hv : v.ownBlock with
  | none => exact .inl rfl
  | some k => exact .inr (by simp)
theorem OwnW.alloc {base : Nat} {w : World} {v : Value} {l : List Plc} (h : OwnW base w v l) (o : Obj) : OwnW base (w.alloc o) v l := h.grownNone (World.grownBy_alloc _ _ _)
theorem OwnW.shape {base : Nat} {w : World} {v : Value} {l : List Plc} (h : OwnW base w v l) : ∃ a cap, v = .slice a l.length cap := by
  obtain ⟨us, _, h, _⟩ := h
  rcases h.2 with ⟨rfl, h0⟩ | ⟨g, cap, cur, rfl, _⟩
  · exact ⟨none, 0, by rw [h0]⟩
  · exact ⟨_, cap, rfl⟩
theorem mapW_getD {us : List WV} {l : List Plc} (h : us.map (·.1) = l) (i : Nat) (hi : i < l.length) : (us.getD i noWV).1 = l.getD i noPlc ∧ us.getD i noWV ∈ us := by
  subst h
  have hi' : i < us.length := by simpa using hi
  refine ⟨by simp [hi'], ?_⟩
  rw [show us.getD i noWV = us[i] by simp [hi']]
  exact List.getElem_mem hi'
theorem OwnW.list {base : Nat} {w : World} {v : Value} {l : List Plc} (h : OwnW base w v l) : WritesIs w v l := by
  obtain ⟨us, hl, hr, h3⟩ := h
  rcases hr.2 with ⟨rfl, h0⟩ | ⟨g, cap, cur, rfl, hb, hg, hn, hm, hs, ht⟩
  · have : l = [] := List.eq_nil_of_length_eq_zero h0
    rw [this]
    exact writesIs_nil w
  · have hcell : ∀ j u, (flatW us)[j]? = some u → w.cell? ⟨g, j, none⟩ = some u := by
      intro j u hj
      have hlt : j < l.length * 4 := by
        have := (List.getElem?_eq_some_iff.1 hj).1
        rw [hr.1] at this
        exact this
      have e2 : (cur.toList.take (l.length * 4))[j]? = (flatW us)[j]? := by rw [ht]
      rw [List.getElem?_take, if_pos hlt, hj] at e2
      simp [World.cell?, hg]
      simpa using e2
    refine ⟨_, cap, rfl, hn, .inr ⟨g, 0, rfl, fun i hi => ?_⟩⟩
    obtain ⟨e1, e2⟩ := mapW_getD hl i hi
    have hlen : us.length = l.length := by rw [← hl]; simp
    obtain ⟨c1, c2, c3, c4⟩ := flatW_get us i (by omega)
    have hp := h3 _ e2
    rw [e1] at c3 hp
    rw [Nat.zero_add]
    exact ⟨_, _, _, hcell _ _ c1, hcell _ _ c2, hcell _ _ c3, hcell _ _ c4, hp.1.1, hp.2.1.1, hp.2.2.1⟩
theorem grown_ownW {base : Nat} {w W w1 : World} {v : Value} {l : List Plc} (h : w.grownBy W none) (ho : OwnW base W v l) (hb : w.heap.size ≤ base) (hg : W.grownBy w1 v.ownBlock) : w.grownBy w1 none :=
  ⟨hg.os.trans h.os, hg.tape.trans h.tape, hg.output.trans h.output, Nat.le_trans h.size hg.size, fun i hi hn => (hg.block i (Nat.lt_of_lt_of_le hi h.size) (fun e => by have := (ho.lt i e.symm).1; omega)).trans (h.block i hi hn)⟩
theorem infoWr : (Try.prog.info? 53).map (fun i => (i.zero, i.size, i.bytes)) = some (some (.agg #[.slice none 0 0, .slice none 0 0, .bool false, .slice none 0 0]), 4, 80) := by kernel_rfl
/-- append(v, x) of one write. -/
theorem wpList_append_wr {w : World} {ops : Array Oper} {rest : List Oper} {o : Oper} {a : Act} {Q : Exit → Act → World → Prop} (hgd : o.guard = none) (s x : Operand)
    (ho : o.op = .call { callee := .builtin .append, args := #[s, x], argTypes := #[26, 26] }) (base : Nat) (v : Value) (l : List Plc) (hs : a.eval s = v) (hown : OwnW base w v l)
    (vn vk vv : Value) (p : Plc) (h1 : PartIs base w vn p.name) (h2 : PartIs base w vk p.key) (h3 : PartIs base w vv p.value) (nb : Nat) (hb : w.heap[nb]? = some (.cells #[vn, vk, .bool p.gone, vv] 53))
    (hx : a.eval x = .slice (some ⟨nb, 0, none⟩) 1 1) (hl : (l.length + 1) * 80 ≤ 140737488355328) (hbase : base ≤ w.heap.size)
    (h : ∀ v' w', OwnW base w' v' (l ++ [p]) → w.grownBy w' v.ownBlock → wpList Try.prog ops Q rest (a.put o.dst v') w') : wpList Try.prog ops Q (o :: rest) a w := by
  obtain ⟨i0, hi, hz0, hz1, hz2⟩ := info_parts infoWr
  have hrow := hown.row
  obtain ⟨us, hul, hr, hp⟩ := hown
  refine wpList_plain hgd fun K hK => ?_
  refine wp_append_lies w s x 26 ho base 53 i0 (.agg #[.slice none 0 0, .slice none 0 0, .bool false, .slice none 0 0]) 4 80 Try.underlying26 hi hz0 hz1 hz2 rfl (by decide) v l.length (flatW us) hs hr ⟨nb, 0, none⟩ 1 1 (flatW [(p, vn, vk, vv)]) hx rfl (World.news_of_block (cs := #[vn, vk, .bool p.gone, vv]) hb) ?_ (by omega) (by unfold maxLen; omega) hl hbase _ rfl ?_
  · intro u hu
    simp only [flatW, List.flatMap_cons, List.flatMap_nil, List.append_nil, List.mem_cons, List.not_mem_nil, or_false] at hu
    rcases hu with rfl | rfl | rfl | rfl
    · exact part_oneCell h1
    · exact part_oneCell h2
    · rfl
    · exact part_oneCell h3
  · intro g cap w' q1 q2 _ _
    refine hK _ _ (h _ w' ⟨us ++ [(p, vn, vk, vv)], by simp [hul], ?_, ?_⟩ q2)
    · rw [flatW_append, List.length_append]; exact q1
    · intro y hy
      rcases List.mem_append.1 hy with hy | hy
      · exact ⟨(hp y hy).1.keptT q2 hrow, (hp y hy).2.1.keptT q2 hrow, (hp y hy).2.2.keptT q2 hrow⟩
      · simp only [List.mem_cons, List.not_mem_nil, or_false] at hy
        subst hy
        exact ⟨h1.keptT q2 hrow, h2.keptT q2 hrow, h3.keptT q2 hrow⟩
/-- A list of one write, of two. -/
theorem writes_one (w : World) (vn vk vv : Value) (p : Plc) (h1 : SliceIs w vn p.name) (h2 : SliceIs w vk p.key) (h3 : SliceIs w vv p.value) (t : TypeId) : WritesIs (w.alloc (.cells #[vn, vk, .bool p.gone, vv] t)) (.slice (some ⟨w.heap.size, 0, none⟩) 1 1) [p] := by
  refine ⟨_, 1, rfl, by simp, .inr ⟨w.heap.size, 0, rfl, fun i hi => ?_⟩⟩
  match i, hi with
  | 0, _ => exact ⟨vn, vk, vv, by simp, by simp, by simp, by simp, h1.alloc _, h2.alloc _, h3.alloc _⟩
end Go.Proofs.Ytpmfbfflacbmjac
