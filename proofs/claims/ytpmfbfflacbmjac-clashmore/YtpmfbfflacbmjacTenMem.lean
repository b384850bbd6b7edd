/-
  Tenants in memory: structs of a slice of bytes and a list of pairs.
-/
import Derived.Test.YtpmfbfflacbmjacPairB
import Derived.Test.YtpmfbfflacbmjacPairMem
import Derived.Test.YtpmfbfflacbmjacPart1
import Derived.Deep.AppendLies
namespace Go.Proofs.Ytpmfbfflacbmjac
open Go.RowKit
/-- What came in fits into memory. -/
structure FitsT (l : FL) : Prop where
  many : l.length * 48 ≤ 140737488355328
  each : ∀ i, i < l.length → (l.getD i ([], [])).1.length ≤ 140737488355328 ∧ Fits (l.getD i ([], [])).2
theorem FitsT.len {l : FL} (h : FitsT l) : l.length ≤ 140737488355328 := by have := h.many; omega
theorem Forest.fits {l : FL} (h : Forest l) : FitsT l := by
  refine ⟨by have := h.room; omega, fun i hi => ?_⟩
  have := h.tens l[i] (List.getElem_mem hi)
  rw [show l[i] = l.getD i ([], []) by simp [hi]] at this
  exact ⟨by omega, this.2.2.fits⟩
/-- The tenant that lies at a place. -/
def TenAt (w : World) (b o : Nat) (t : Tn) : Prop := ∃ vn vp, w.cell? ⟨b, o, none⟩ = some vn ∧ w.cell? ⟨b, o + 1, none⟩ = some vp ∧ SliceIs w vn t.1 ∧ PairsIs w vp t.2
theorem TenAt.grown {w w' : World} {b o : Nat} {t : Tn} (h : TenAt w b o t) (hg : w.grownBy w' none) : TenAt w' b o t := by
  obtain ⟨vn, vp, c1, c2, h1, h2⟩ := h
  exact ⟨vn, vp, hg.cell c1 (by simp), hg.cell c2 (by simp), h1.grown hg, h2.grown hg⟩
/-- A list of tenants, as it is handed over. -/
def TensIs (w : World) (v : Value) (l : FL) : Prop :=
  ∃ a cap, v = .slice a l.length cap ∧ l.length ≤ cap ∧ ((l = [] ∧ (a = none → cap = 0)) ∨ ∃ b o, a = some ⟨b, o, none⟩ ∧ ∀ i, i < l.length → TenAt w b (o + i * 2) (l.getD i ([], [])))
theorem tensIs_nil (w : World) : TensIs w (.slice none 0 0) [] := ⟨none, 0, rfl, Nat.le_refl _, .inl ⟨rfl, fun _ => rfl⟩⟩
theorem TensIs.grown {w w' : World} {v : Value} {l : FL} (h : TensIs w v l) (hg : w.grownBy w' none) : TensIs w' v l := by
  obtain ⟨a, cap, rfl, hc, h⟩ := h
  refine ⟨a, cap, rfl, hc, ?_⟩
  rcases h with h | ⟨b, o, rfl, h⟩
  · exact .inl h
  · exact .inr ⟨b, o, rfl, fun i hi => (h i hi).grown hg⟩
theorem TensIs.shape {w : World} {v : Value} {l : FL} (h : TensIs w v l) : ∃ a cap, v = .slice a l.length cap := by
  obtain ⟨a, cap, rfl, _⟩ := h
  exact ⟨a, cap, rfl⟩
theorem TensIs.at {w : World} {a : Option Addr} {n cap : Nat} {l : FL} (h : TensIs w (.slice a n cap) l) (i : Nat) (hi : i < l.length) : ∃ b o, a = some ⟨b, o, none⟩ ∧ TenAt w b (o + i * 2) (l.getD i ([], [])) := by
  obtain ⟨a', cap', e, hc, h⟩ := h
  simp only [Value.slice.injEq] at e
  obtain ⟨rfl, rfl, rfl⟩ := e
  rcases h with ⟨rfl, _⟩ | ⟨b, o, rfl, h⟩
  · simp at hi
  · exact ⟨b, o, rfl, h i hi⟩
theorem tenT5 : (113 : Nat) ≠ 5 := by decide
theorem tenTP : (113 : Nat) ≠ 80 := by decide
/-- The list v of tenants is the call's own, from block 'base' on; all that it holds lies in blocks of pairs and of bytes. -/
def OwnT (base : Nat) (w : World) (v : Value) (l : FL) : Prop :=
  ∃ vs : List (Value × Value), vs.length = l.length ∧ w.ownsRow base 113 2 v l.length (flat vs) ∧ ∀ i, i < l.length → PartIs 0 w (vs.getD i (undef, undef)).1 (l.getD i ([], [])).1 ∧ PairsB 0 w (vs.getD i (undef, undef)).2 (l.getD i ([], [])).2
theorem ownT_nil (base : Nat) (w : World) : OwnT base w (.slice none 0 0) [] := ⟨[], rfl, World.ownsRow_nil _ _ _ _, fun i hi => by simp at hi⟩
theorem OwnT.row {base : Nat} {w : World} {v : Value} {l : FL} (h : OwnT base w v l) : v.ownBlock = none ∨ ∃ g cur t fz, v.ownBlock = some g ∧ base ≤ g ∧ w.heap[g]? = some (.cells cur t fz) ∧ t ≠ 5 ∧ t ≠ 80 := by
  obtain ⟨vs, _, h, _⟩ := h
  rcases h.2 with ⟨rfl, _⟩ | ⟨g, cap, cur, rfl, hb, hg, _⟩
  · exact .inl rfl
  · exact .inr ⟨g, cur, _, _, rfl, hb, hg, tenT5, tenTP⟩
theorem OwnT.row0 {base : Nat} {w : World} {v : Value} {l : FL} (h : OwnT base w v l) : v.ownBlock = none ∨ ∃ g cur t fz, v.ownBlock = some g ∧ 0 ≤ g ∧ w.heap[g]? = some (.cells cur t fz) ∧ t ≠ 5 ∧ t ≠ 80 := by
  rcases h.row with h | ⟨g, cur, t, fz, h1, _, h3⟩
  · exact .inl h
  · exact .inr ⟨g, cur, t, fz, h1, Nat.zero_le _, h3⟩
theorem row5 {base : Nat} {w : World} {r : Option Nat} (h : r = none ∨ ∃ g cur t fz, r = some g ∧ base ≤ g ∧ w.heap[g]? = some (.cells cur t fz) ∧ t ≠ 5 ∧ t ≠ 80) : r = none ∨ ∃ g cur t fz, r = some g ∧ base ≤ g ∧ w.heap[g]? = some (.cells cur t fz) ∧ t ≠ 5 := by
  rcases h with h | ⟨g, cur, t, fz, h1, h2, h3, h4, _⟩
  · exact .inl h
  · exact .inr ⟨g, cur, t, fz, h1, h2, h3, h4⟩
theorem OwnT.lt {base : Nat} {w : World} {v : Value} {l : FL} (h : OwnT base w v l) : ∀ k, v.ownBlock = some k → base ≤ k ∧ k < w.heap.size := by
  obtain ⟨vs, _, h, _⟩ := h
  exact World.ownsRow.lt h
theorem OwnT.grownNone {base : Nat} {w w' : World} {v : Value} {l : FL} (h : OwnT base w v l) (hg : w.grownBy w' none) : OwnT base w' v l := by
  obtain ⟨vs, h1, h2, h3⟩ := h
  refine ⟨vs, h1, World.ownsRow.kept h2 hg ?_, fun i hi => ⟨((h3 i hi).1).keptT hg (.inl rfl), ((h3 i hi).2).kept hg (.inl rfl)⟩⟩
  cases hv : v.ownBlock with
  | none => exact .inl rfl
  | some k => exact .inr (by simp)
theorem OwnT.alloc {base : Nat} {w : World} {v : Value} {l : FL} (h : OwnT base w v l) (o : Obj) : OwnT base (w.alloc o) v l := h.grownNone (World.grownBy_alloc _ _ _)
theorem OwnT.shape {base : Nat} {w : World} {v : Value} {l : FL} (h : OwnT base w v l) : ∃ a cap, v = .slice a l.length cap := by
  obtain ⟨vs, _, h, _⟩ := h
  rcases h.2 with ⟨rfl, h0⟩ | ⟨g, cap, cur, rfl, _⟩
  · exact ⟨none, 0, by rw [h0]⟩
  · exact ⟨_, cap, rfl⟩
theorem OwnT.cells {base : Nat} {w : World} {g n cap : Nat} {vs : List (Value × Value)} {l : FL} (hr : w.ownsRow base 113 2 (.slice (some ⟨g, 0, none⟩) n cap) l.length (flat vs)) : ∀ j u, (flat vs)[j]? = some u → w.cell? ⟨g, j, none⟩ = some u := by
  intro j u hj
  rcases hr.2 with ⟨e, _⟩ | ⟨g', cap', cur, e, hb, hg, hn, hm, hs, ht⟩
  · cases e
  · simp only [Value.slice.injEq, Option.some.injEq, Addr.mk.injEq] at e
    obtain ⟨⟨rfl, _⟩, _, _⟩ := e
    have hlt : j < l.length * 2 := by
      have := (List.getElem?_eq_some_iff.1 hj).1
      rw [hr.1] at this
      exact this
    have e2 : (cur.toList.take (l.length * 2))[j]? = (flat vs)[j]? := by rw [ht]
    rw [List.getElem?_take, if_pos hlt, hj] at e2
    simp [World.cell?, hg]
    simpa using e2
theorem OwnT.list {base : Nat} {w : World} {v : Value} {l : FL} (h : OwnT base w v l) : TensIs w v l := by
  obtain ⟨vs, hl, hr, h3⟩ := h
  have hr' := hr
  rcases hr.2 with ⟨rfl, h0⟩ | ⟨g, cap, cur, rfl, hb, hg, hn, hm, hs, ht⟩
  · have : l = [] := List.eq_nil_of_length_eq_zero h0
    subst this
    exact tensIs_nil w
  · refine ⟨_, cap, rfl, hn, .inr ⟨g, 0, rfl, fun i hi => ?_⟩⟩
    have hf := flat_get vs i (by omega)
    refine ⟨(vs.getD i (undef, undef)).1, (vs.getD i (undef, undef)).2, ?_, ?_, (h3 i hi).1.1, (h3 i hi).2.list⟩
    · have := OwnT.cells hr' _ _ hf.1
      rw [Nat.zero_add]; exact this
    · have := OwnT.cells hr' _ _ hf.2
      rw [Nat.zero_add]; exact this
/-- Behind an append nothing older has turned. -/
theorem grown_ownT {base : Nat} {w W w1 : World} {v : Value} {l : FL} (h : w.grownBy W none) (ho : OwnT base W v l) (hb : w.heap.size ≤ base) (hg : W.grownBy w1 v.ownBlock) : w.grownBy w1 none :=
  ⟨hg.os.trans h.os, hg.tape.trans h.tape, hg.output.trans h.output, Nat.le_trans h.size hg.size, fun i hi hn => (hg.block i (Nat.lt_of_lt_of_le hi h.size) (fun e => by have := (ho.lt i e.symm).1; omega)).trans (h.block i hi hn)⟩
theorem infoTen : (Try.prog.info? 113).map (fun i => (i.zero, i.size, i.bytes)) = some (some (.agg #[.slice none 0 0, .slice none 0 0]), 2, 48) := by kernel_rfl
/-- append(v, x) of one tenant. -/
theorem wp_append_ten {w : World} {o : Oper} {a : Act} {K : Act → World → Prop} {Q : Exit → Act → World → Prop} (s x : Operand)
    (ho : o.op = .call { callee := .builtin .append, args := #[s, x], argTypes := #[35, 35] }) (base : Nat) (v : Value) (l : FL) (hs : a.eval s = v) (hown : OwnT base w v l)
    (vn vp : Value) (t : Tn) (hk : PartIs 0 w vn t.1) (hv : PairsB 0 w vp t.2) (nb : Nat) (hb : w.heap[nb]? = some (.cells #[vn, vp] 113))
    (hx : a.eval x = .slice (some ⟨nb, 0, none⟩) 1 1) (hl : (l.length + 1) * 48 ≤ 140737488355328) (hbase : base ≤ w.heap.size)
    (h : ∀ v' w', OwnT base w' v' (l ++ [t]) → w.grownBy w' v.ownBlock → K (a.put o.dst v') w') : o.wp Try.prog a w K Q := by
  obtain ⟨i0, hi, hz0, hz1, hz2⟩ := info_parts infoTen
  have hrow := hown.row0
  obtain ⟨vs, hvl, hr, hp⟩ := hown
  refine wp_append_lies w s x 35 ho base 113 i0 (.agg #[.slice none 0 0, .slice none 0 0]) 2 48 Try.underlying35 hi hz0 hz1 hz2 rfl (by decide) v l.length (flat vs) hs hr ⟨nb, 0, none⟩ 1 1 (flat [(vn, vp)]) hx rfl (World.news_of_block (cs := #[vn, vp]) hb) ?_ (by omega) (by unfold maxLen; omega) hl hbase _ rfl ?_
  · intro u hu
    simp only [flat, List.flatMap_cons, List.flatMap_nil, List.append_nil, List.mem_cons, List.not_mem_nil, or_false] at hu
    rcases hu with rfl | rfl
    · exact part_oneCell hk
    · exact pairsB_oneCell hv
  · intro g cap w' h1 h2 _ _
    refine h _ w' ⟨vs ++ [(vn, vp)], by simp [hvl], ?_, ?_⟩ h2
    · rw [flat_append, List.length_append]; exact h1
    · intro i hi
      rw [getD_append, getD_append, hvl]
      by_cases hil : i < l.length
      · rw [if_pos hil, if_pos hil]
        exact ⟨(hp i hil).1.keptT h2 (row5 hrow), (hp i hil).2.kept h2 hrow⟩
      · rw [if_neg hil, if_neg hil]
        obtain rfl : i = l.length := by simp at hi; omega
        rw [Nat.sub_self]
        exact ⟨hk.keptT h2 (row5 hrow), hv.kept h2 hrow⟩
theorem step_append_ten {w : World} {ops : Array Oper} {o : Oper} {a : Act} {K : Act → World → Prop} {Q : Exit → Act → World → Prop} {E : Prop} (hgd : o.guard = none) (s x : Operand)
    (ho : o.op = .call { callee := .builtin .append, args := #[s, x], argTypes := #[35, 35] }) (base : Nat) (v : Value) (l : FL) (hs : a.eval s = v) (hown : OwnT base w v l)
    (vn vp : Value) (t : Tn) (hk : PartIs 0 w vn t.1) (hv : PairsB 0 w vp t.2) (nb : Nat) (hb : w.heap[nb]? = some (.cells #[vn, vp] 113))
    (hx : a.eval x = .slice (some ⟨nb, 0, none⟩) 1 1) (hl : (l.length + 1) * 48 ≤ 140737488355328) (hbase : base ≤ w.heap.size)
    (h : ∀ v' w', OwnT base w' v' (l ++ [t]) → w.grownBy w' v.ownBlock → K (a.put o.dst v') w') : if Region.wanted o (yielded ops a.tmps) = true then Oper.wp Try.prog o a w K Q else E := by
  have hw : Region.wanted o (yielded ops a.tmps) = true := by simp [Region.wanted, hgd]
  rw [if_pos hw]
  exact wp_append_ten s x ho base v l hs hown vn vp t hk hv nb hb hx hl hbase h
theorem wpList_append_ten {w : World} {ops : Array Oper} {rest : List Oper} {o : Oper} {a : Act} {Q : Exit → Act → World → Prop} (hgd : o.guard = none) (s x : Operand)
    (ho : o.op = .call { callee := .builtin .append, args := #[s, x], argTypes := #[35, 35] }) (base : Nat) (v : Value) (l : FL) (hs : a.eval s = v) (hown : OwnT base w v l)
    (vn vp : Value) (t : Tn) (hk : PartIs 0 w vn t.1) (hv : PairsB 0 w vp t.2) (nb : Nat) (hb : w.heap[nb]? = some (.cells #[vn, vp] 113))
    (hx : a.eval x = .slice (some ⟨nb, 0, none⟩) 1 1) (hl : (l.length + 1) * 48 ≤ 140737488355328) (hbase : base ≤ w.heap.size)
    (h : ∀ v' w', OwnT base w' v' (l ++ [t]) → w.grownBy w' v.ownBlock → wpList Try.prog ops Q rest (a.put o.dst v') w') : wpList Try.prog ops Q (o :: rest) a w :=
  wpList_plain hgd fun _ hK => wp_append_ten s x ho base v l hs hown vn vp t hk hv nb hb hx hl hbase fun v' w' h1 h2 => hK _ _ (h v' w' h1 h2)
end Go.Proofs.Ytpmfbfflacbmjac
