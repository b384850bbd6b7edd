/-
  Texts of this proof, joined: TenMem, TenRow.
-/
import Derived.Test.YtpmfbfflacbmjacPairB
import Derived.Test.YtpmfbfflacbmjacPairMem
import Derived.Test.YtpmfbfflacbmjacPart1
import Derived.Deep.AppendLies
import Derived.Laws.CopyRow
import Derived.Lib.AppendZerosOnto
import Derived.Lib.SliceRun
/-
  Tenants in memory: structs of a slice of bytes and a list of pairs.
-/
namespace Go.Proofs.Ytpmfbfflacbmjac
open Go.RowKit
/-- What came in fits into memory. -/
structure FitsT (l : FL) : Prop where
  many : l.length * 48 ≤ 140737488355328
  each : ∀ i, i < l.length → (l.getD i ([], [])).1.length ≤ 140737488355328 ∧ Fits (l.getD i ([], [])).2
theorem FitsT.len {l : FL} (h : FitsT l) : l.length ≤ 140737488355328 := by have := h.many; omega
theorem Forest.fits {l : FL} (h : Forest l) : FitsT l := by
  refine ⟨by have := h.room; omega, fun i hi => ?_⟩
  have := h.tens l[i] (List.getElem_mem hi)
  rw [show l[i] = l.getD i ([], []) by simp [hi]] at this
  exact ⟨by omega, this.2.2.fits⟩
/-- The tenant that lies at a place. -/
def TenAt (w : World) (b o : Nat) (t : Tn) : Prop := ∃ vn vp, w.cell? ⟨b, o, none⟩ = some vn ∧ w.cell? ⟨b, o + 1, none⟩ = some vp ∧ SliceIs w vn t.1 ∧ PairsIs w vp t.2
theorem TenAt.grown {w w' : World} {b o : Nat} {t : Tn} (h : TenAt w b o t) (hg : w.grownBy w' none) : TenAt w' b o t := by
  obtain ⟨vn, vp, c1, c2, h1, h2⟩ := h
  exact ⟨vn, vp, hg.cell c1 (by simp), hg.cell c2 (by simp), h1.grown hg, h2.grown hg⟩
/-- A list of tenants, as it is handed over. -/
def TensIs (w : World) (v : Value) (l : FL) : Prop :=
  ∃ a cap, v = .slice a l.length cap ∧ l.length ≤ cap ∧ ((l = [] ∧ (a = none → cap = 0)) ∨ ∃ b o, a = some ⟨b, o, none⟩ ∧ ∀ i, i < l.length → TenAt w b (o + i * 2) (l.getD i ([], [])))
theorem tensIs_nil (w : World) : TensIs w (.slice none 0 0) [] := ⟨none, 0, rfl, Nat.le_refl _, .inl ⟨rfl, fun _ => rfl⟩⟩
theorem TensIs.grown {w w' : World} {v : Value} {l : FL} (h : TensIs w v l) (hg : w.grownBy w' none) : TensIs w' v l := by
  obtain ⟨a, cap, rfl, hc, h⟩ := h
  refine ⟨a, cap, rfl, hc, ?_⟩
  rcases h with h | ⟨b, o, rfl, h⟩
  · exact .inl h
  · exact .inr ⟨b, o, rfl, fun i hi => (h i hi).grown hg⟩
theorem TensIs.shape {w : World} {v : Value} {l : FL} (h : TensIs w v l) : ∃ a cap, v = .slice a l.length cap := by
  obtain ⟨a, cap, rfl, _⟩ := h
  exact ⟨a, cap, rfl⟩
theorem TensIs.at {w : World} {a : Option Addr} {n cap : Nat} {l : FL} (h : TensIs w (.slice a n cap) l) (i : Nat) (hi : i < l.length) : ∃ b o, a = some ⟨b, o, none⟩ ∧ TenAt w b (o + i * 2) (l.getD i ([], [])) := by
  obtain ⟨a', cap', e, hc, h⟩ := h
  simp only [Value.slice.injEq] at e
  obtain ⟨rfl, rfl, rfl⟩ := e
  rcases h with ⟨rfl, _⟩ | ⟨b, o, rfl, h⟩
  · simp at hi
  · exact ⟨b, o, rfl, h i hi⟩
theorem tenT5 : (113 : Nat) ≠ 5 := by decide
theorem tenTP : (113 : Nat) ≠ 80 := by decide
/-- The list v of tenants is the call's own, from block 'base' on; all that it holds lies in blocks of pairs and of bytes. -/
def OwnT (base : Nat) (w : World) (v : Value) (l : FL) : Prop :=
  ∃ vs : List (Value × Value), vs.length = l.length ∧ w.ownsRow base 113 2 v l.length (flat vs) ∧ ∀ i, i < l.length → PartIs 0 w (vs.getD i (undef, undef)).1 (l.getD i ([], [])).1 ∧ PairsB 0 w (vs.getD i (undef, undef)).2 (l.getD i ([], [])).2
theorem ownT_nil (base : Nat) (w : World) : OwnT base w (.slice none 0 0) [] := ⟨[], rfl, World.ownsRow_nil _ _ _ _, fun i hi => by simp at hi⟩
theorem OwnT.row {base : Nat} {w : World} {v : Value} {l : FL} (h : OwnT base w v l) : v.ownBlock = none ∨ ∃ g cur t fz, v.ownBlock = some g ∧ base ≤ g ∧ w.heap[g]? = some (.cells cur t fz) ∧ t ≠ 5 ∧ t ≠ 80 := by
  obtain ⟨vs, _, h, _⟩ := h
  rcases h.2 with ⟨rfl, _⟩ | ⟨g, cap, cur, rfl, hb, hg, _⟩
  · exact .inl rfl
  · exact .inr ⟨g, cur, _, _, rfl, hb, hg, tenT5, tenTP⟩
theorem OwnT.row0 {base : Nat} {w : World} {v : Value} {l : FL} (h : OwnT base w v l) : v.ownBlock = none ∨ ∃ g cur t fz, v.ownBlock = some g ∧ 0 ≤ g ∧ w.heap[g]? = some (.cells cur t fz) ∧ t ≠ 5 ∧ t ≠ 80 := by
  rcases h.row with h | ⟨g, cur, t, fz, h1, _, h3⟩
  · exact .inl h
  · exact .inr ⟨g, cur, t, fz, h1, Nat.zero_le _, h3⟩
theorem row5 {base : Nat} {w : World} {r : Option Nat} (h : r = none ∨ ∃ g cur t fz, r = some g ∧ base ≤ g ∧ w.heap[g]? = some (.cells cur t fz) ∧ t ≠ 5 ∧ t ≠ 80) : r = none ∨ ∃ g cur t fz, r = some g ∧ base ≤ g ∧ w.heap[g]? = some (.cells cur t fz) ∧ t ≠ 5 := by
  rcases h with h | ⟨g, cur, t, fz, h1, h2, h3, h4, _⟩
  · exact .inl h
  · exact .inr ⟨g, cur, t, fz, h1, h2, h3, h4⟩
theorem OwnT.lt {base : Nat} {w : World} {v : Value} {l : FL} (h : OwnT base w v l) : ∀ k, v.ownBlock = some k → base ≤ k ∧ k < w.heap.size := by
  obtain ⟨vs, _, h, _⟩ := h
  exact World.ownsRow.lt h
theorem OwnT.grownNone {base : Nat} {w w' : World} {v : Value} {l : FL} (h : OwnT base w v l) (hg : w.grownBy w' none) : OwnT base w' v l := by
  obtain ⟨vs, h1, h2, h3⟩ := h
  refine ⟨vs, h1, World.ownsRow.kept h2 hg ?_, fun i hi => ⟨((h3 i hi).1).keptT hg (.inl rfl), ((h3 i hi).2).kept hg (.inl rfl)⟩⟩
  cases hv : v.ownBlock with
  | none => exact .inl rfl
  | some k => exact .inr (by simp)
theorem OwnT.alloc {base : Nat} {w : World} {v : Value} {l : FL} (h : OwnT base w v l) (o : Obj) : OwnT base (w.alloc o) v l := h.grownNone (World.grownBy_alloc _ _ _)
theorem OwnT.shape {base : Nat} {w : World} {v : Value} {l : FL} (h : OwnT base w v l) : ∃ a cap, v = .slice a l.length cap := by
  obtain ⟨vs, _, h, _⟩ := h
  rcases h.2 with ⟨rfl, h0⟩ | ⟨g, cap, cur, rfl, _⟩
  · exact ⟨none, 0, by rw [h0]⟩
  · exact ⟨_, cap, rfl⟩
theorem OwnT.cells {base : Nat} {w : World} {g n cap : Nat} {vs : List (Value × Value)} {l : FL} (hr : w.ownsRow base 113 2 (.slice (some ⟨g, 0, none⟩) n cap) l.length (flat vs)) : ∀ j u, (flat vs)[j]? = some u → w.cell? ⟨g, j, none⟩ = some u := by
  intro j u hj
  rcases hr.2 with ⟨e, _⟩ | ⟨g', cap', cur, e, hb, hg, hn, hm, hs, ht⟩
  · cases e
  · simp only [Value.slice.injEq, Option.some.injEq, Addr.mk.injEq] at e
    obtain ⟨⟨rfl, _⟩, _, _⟩ := e
    have hlt : j < l.length * 2 := by
      have := (List.getElem?_eq_some_iff.1 hj).1
      rw [hr.1] at this
      exact this
    have e2 : (cur.toList.take (l.length * 2))[j]? = (flat vs)[j]? := by rw [ht]
    rw [List.getElem?_take, if_pos hlt, hj] at e2
    simp [World.cell?, hg]
    simpa using e2
theorem OwnT.list {base : Nat} {w : World} {v : Value} {l : FL} (h : OwnT base w v l) : TensIs w v l := by
  obtain ⟨vs, hl, hr, h3⟩ := h
  have hr' := hr
  rcases hr.2 with ⟨rfl, h0⟩ | ⟨g, cap, cur, rfl, hb, hg, hn, hm, hs, ht⟩
  · have : l = [] := List.eq_nil_of_length_eq_zero h0
    subst this
    exact tensIs_nil w
  · refine ⟨_, cap, rfl, hn, .inr ⟨g, 0, rfl, fun i hi => ?_⟩⟩
    have hf := flat_get vs i (by omega)
    refine ⟨(vs.getD i (undef, undef)).1, (vs.getD i (undef, undef)).2, ?_, ?_, (h3 i hi).1.1, (h3 i hi).2.list⟩
    · have := OwnT.cells hr' _ _ hf.1
      rw [Nat.zero_add]; exact this
    · have := OwnT.cells hr' _ _ hf.2
      rw [Nat.zero_add]; exact this
/-- Behind an append nothing older has turned. -/
theorem grown_ownT {base : Nat} {w W w1 : World} {v : Value} {l : FL} (h : w.grownBy W none) (ho : OwnT base W v l) (hb : w.heap.size ≤ base) (hg : W.grownBy w1 v.ownBlock) : w.grownBy w1 none :=
  ⟨hg.os.trans h.os, hg.tape.trans h.tape, hg.output.trans h.output, Nat.le_trans h.size hg.size, fun i hi hn => (hg.block i (Nat.lt_of_lt_of_le hi h.size) (fun e => by have := (ho.lt i e.symm).1; omega)).trans (h.block i hi hn)⟩
theorem infoTen : (Try.prog.info? 113).map (fun i => (i.zero, i.size, i.bytes)) = some (some (.agg #[.slice none 0 0, .slice none 0 0]), 2, 48) := by kernel_rfl
/-- append(v, x) of one tenant. -/
theorem wp_append_ten {w : World} {o : Oper} {a : Act} {K : Act → World → Prop} {Q : Exit → Act → World → Prop} (s x : Operand)
    (ho : o.op = .call { callee := .builtin .append, args := #[s, x], argTypes := #[35, 35] }) (base : Nat) (v : Value) (l : FL) (hs : a.eval s = v) (hown : OwnT base w v l)
    (vn vp : Value) (t : Tn) (hk : PartIs 0 w vn t.1) (hv : PairsB 0 w vp t.2) (nb : Nat) (hb : w.heap[nb]? = some (.cells #[vn, vp] 113))
    (hx : a.eval x = .slice (some ⟨nb, 0, none⟩) 1 1) (hl : (l.length + 1) * 48 ≤ 140737488355328) (hbase : base ≤ w.heap.size)
    (h : ∀ v' w', OwnT base w' v' (l ++ [t]) → w.grownBy w' v.ownBlock → K (a.put o.dst v') w') : o.wp Try.prog a w K Q := by
  obtain ⟨i0, hi, hz0, hz1, hz2⟩ := info_parts infoTen
  have hrow := hown.row0
  obtain ⟨vs, hvl, hr, hp⟩ := hown
  refine wp_append_lies w s x 35 ho base 113 i0 (.agg #[.slice none 0 0, .slice none 0 0]) 2 48 Try.underlying35 hi hz0 hz1 hz2 rfl (by decide) v l.length (flat vs) hs hr ⟨nb, 0, none⟩ 1 1 (flat [(vn, vp)]) hx rfl (World.news_of_block (cs := #[vn, vp]) hb) ?_ (by omega) (by unfold maxLen; omega) hl hbase _ rfl ?_
  · intro u hu
    simp only [flat, List.flatMap_cons, List.flatMap_nil, List.append_nil, List.mem_cons, List.not_mem_nil, or_false] at hu
    rcases hu with rfl | rfl
    · exact part_oneCell hk
    · exact pairsB_oneCell hv
  · intro g cap w' h1 h2 _ _
    refine h _ w' ⟨vs ++ [(vn, vp)], by simp [hvl], ?_, ?_⟩ h2
    · rw [flat_append, List.length_append]; exact h1
    · intro i hi
      rw [getD_append, getD_append, hvl]
      by_cases hil : i < l.length
      · rw [if_pos hil, if_pos hil]
        exact ⟨(hp i hil).1.keptT h2 (row5 hrow), (hp i hil).2.kept h2 hrow⟩
      · rw [if_neg hil, if_neg hil]
        obtain rfl : i = l.length := by simp at hi; omega
        rw [Nat.sub_self]
        exact ⟨hk.keptT h2 (row5 hrow), hv.kept h2 hrow⟩
theorem step_append_ten {w : World} {ops : Array Oper} {o : Oper} {a : Act} {K : Act → World → Prop} {Q : Exit → Act → World → Prop} {E : Prop} (hgd : o.guard = none) (s x : Operand)
    (ho : o.op = .call { callee := .builtin .append, args := #[s, x], argTypes := #[35, 35] }) (base : Nat) (v : Value) (l : FL) (hs : a.eval s = v) (hown : OwnT base w v l)
    (vn vp : Value) (t : Tn) (hk : PartIs 0 w vn t.1) (hv : PairsB 0 w vp t.2) (nb : Nat) (hb : w.heap[nb]? = some (.cells #[vn, vp] 113))
    (hx : a.eval x = .slice (some ⟨nb, 0, none⟩) 1 1) (hl : (l.length + 1) * 48 ≤ 140737488355328) (hbase : base ≤ w.heap.size)
    (h : ∀ v' w', OwnT base w' v' (l ++ [t]) → w.grownBy w' v.ownBlock → K (a.put o.dst v') w') : if Region.wanted o (yielded ops a.tmps) = true then Oper.wp Try.prog o a w K Q else E := by
  have hw : Region.wanted o (yielded ops a.tmps) = true := by simp [Region.wanted, hgd]
  rw [if_pos hw]
  exact wp_append_ten s x ho base v l hs hown vn vp t hk hv nb hb hx hl hbase h
theorem wpList_append_ten {w : World} {ops : Array Oper} {rest : List Oper} {o : Oper} {a : Act} {Q : Exit → Act → World → Prop} (hgd : o.guard = none) (s x : Operand)
    (ho : o.op = .call { callee := .builtin .append, args := #[s, x], argTypes := #[35, 35] }) (base : Nat) (v : Value) (l : FL) (hs : a.eval s = v) (hown : OwnT base w v l)
    (vn vp : Value) (t : Tn) (hk : PartIs 0 w vn t.1) (hv : PairsB 0 w vp t.2) (nb : Nat) (hb : w.heap[nb]? = some (.cells #[vn, vp] 113))
    (hx : a.eval x = .slice (some ⟨nb, 0, none⟩) 1 1) (hl : (l.length + 1) * 48 ≤ 140737488355328) (hbase : base ≤ w.heap.size)
    (h : ∀ v' w', OwnT base w' v' (l ++ [t]) → w.grownBy w' v.ownBlock → wpList Try.prog ops Q rest (a.put o.dst v') w') : wpList Try.prog ops Q (o :: rest) a w :=
  wpList_plain hgd fun _ hK => wp_append_ten s x ho base v l hs hown vn vp t hk hv nb hb hx hl hbase fun v' w' h1 h2 => hK _ _ (h v' w' h1 h2)
end Go.Proofs.Ytpmfbfflacbmjac

/-
  Tenants in a row of the call's own: copy, clear and append within it.
-/
namespace Go.Proofs.Ytpmfbfflacbmjac
open Go.RowKit
abbrev VP := Value × Value
/-- The block g holds just these tenants. -/
def BlkT (w : World) (g : Nat) (all : List VP) : Prop := w.heap[g]? = some (.cells (flat all).toArray 113 (0, 0))
/-- The world where the row holds others. -/
def rowT (w : World) (g : Nat) (all : List VP) : World := w.setRow g (flat all).toArray
theorem BlkT.set {w : World} {g : Nat} {all : List VP} (h : BlkT w g all) (all' : List VP) : BlkT (rowT w g all') g all' := setRow_heap w g _ _ _ _ h
theorem rowT_row (w : World) (g : Nat) (a b : List VP) : rowT (rowT w g a) g b = rowT w g b := setRow_setRow w g _ _
theorem rowT_self {w : World} {g : Nat} {all : List VP} (h : BlkT w g all) : rowT w g all = w := setRow_self w g _ _ _ h
theorem BlkT.lt {w : World} {g : Nat} {all : List VP} (h : BlkT w g all) : g < w.heap.size := (Array.getElem?_eq_some_iff.1 h).1
theorem BlkT.drew {w : World} {g : Nat} {all : List VP} (h : BlkT w g all) : BlkT w.drew g all := h
theorem grown_rowT (w : World) (g : Nat) (all : List VP) : w.grownBy (rowT w g all) (some g) :=
  ⟨rfl, rfl, rfl, by simp [rowT, World.setRow], fun k _ hne => setRow_other w g k _ (fun e => hne (by rw [e]))⟩
theorem grownBy_trans {w w1 w2 : World} {r : Option Nat} (h1 : w.grownBy w1 r) (h2 : w1.grownBy w2 r) : w.grownBy w2 r :=
  ⟨h2.os.trans h1.os, h2.tape.trans h1.tape, h2.output.trans h1.output, Nat.le_trans h1.size h2.size, fun k hk hn => (h2.block k (Nat.lt_of_lt_of_le hk h1.size) hn).trans (h1.block k hk hn)⟩
theorem grownBy_any {w w1 : World} {r : Option Nat} (h1 : w.grownBy w1 none) : w.grownBy w1 r := ⟨h1.os, h1.tape, h1.output, h1.size, fun k hk _ => h1.block k hk (by simp)⟩
theorem flat_exists : ∀ (n : Nat) (cs : List Value), cs.length = n * 2 → ∃ vs : List VP, vs.length = n ∧ flat vs = cs
  | 0, cs, h => ⟨[], rfl, by rw [List.eq_nil_of_length_eq_zero (by omega : cs.length = 0)]; rfl⟩
  | n + 1, [], h => by simp at h
  | n + 1, [_], h => by simp at h; omega
  | n + 1, a :: b :: r, h => by
    obtain ⟨vs, h1, h2⟩ := flat_exists n r (by simp at h; omega)
    exact ⟨(a, b) :: vs, by simp [h1], by simp only [flat, List.flatMap_cons, List.cons_append, List.nil_append] at h2 ⊢; rw [h2]⟩
theorem flat_inj : ∀ (a b : List VP), flat a = flat b → a = b
  | [], [], _ => rfl
  | [], x :: r, h => by simp [flat] at h
  | x :: r, [], h => by simp [flat] at h
  | x :: r, y :: s, h => by
    simp only [flat, List.flatMap_cons, List.cons_append, List.nil_append, List.cons.injEq] at h
    obtain ⟨h1, h2, h3⟩ := h
    rw [flat_inj r s h3, Prod.ext h1 h2]
def OneV (l : List VP) : Prop := ∀ x ∈ l, x.1.oneCell' = true ∧ x.2.oneCell' = true
theorem OneV.flat {l : List VP} (h : OneV l) : ∀ u ∈ flat l, u.oneCell' = true := by
  intro u hu
  simp only [Go.Proofs.Ytpmfbfflacbmjac.flat, List.mem_flatMap, List.mem_cons, List.not_mem_nil, or_false] at hu
  obtain ⟨x, hx, rfl | rfl⟩ := hu
  · exact (h x hx).1
  · exact (h x hx).2
/-- What a value stands for: a tenant. -/
def TenV (base : Nat) (w : World) (x : VP) (t : Tn) : Prop := PartIs base w x.1 t.1 ∧ PairsB base w x.2 t.2
def nov : VP := (undef, undef)
def EachT (base : Nat) (w : World) (vs : List VP) (l : FL) : Prop := vs.length = l.length ∧ ∀ i, i < l.length → TenV base w (vs.getD i nov) (l.getD i ([], []))
theorem EachT.take {base : Nat} {w : World} {vs : List VP} {l : FL} (h : EachT base w vs l) (n : Nat) : EachT base w (vs.take n) (l.take n) := by
  refine ⟨by simp [h.1], fun i hi => ?_⟩
  have hi' : i < n ∧ i < l.length := by simp at hi; omega
  have := h.2 i hi'.2
  rwa [show (vs.take n).getD i nov = vs.getD i nov by simp [hi'.1], show (l.take n).getD i ([], []) = l.getD i ([], []) by simp [hi'.1]]
theorem EachT.drop {base : Nat} {w : World} {vs : List VP} {l : FL} (h : EachT base w vs l) (n : Nat) : EachT base w (vs.drop n) (l.drop n) := by
  refine ⟨by simp [h.1], fun i hi => ?_⟩
  have hi' : n + i < l.length := by simp at hi; omega
  have := h.2 (n + i) hi'
  rwa [show (vs.drop n).getD i nov = vs.getD (n + i) nov by simp, show (l.drop n).getD i ([], []) = l.getD (n + i) ([], []) by simp]
theorem EachT.append {base : Nat} {w : World} {vs us : List VP} {l m : FL} (h : EachT base w vs l) (h2 : EachT base w us m) : EachT base w (vs ++ us) (l ++ m) := by
  refine ⟨by simp [h.1, h2.1], fun i hi => ?_⟩
  rw [getD_append, getD_append, h.1]
  by_cases hil : i < l.length
  · rw [if_pos hil, if_pos hil]; exact h.2 i hil
  · rw [if_neg hil, if_neg hil]; exact h2.2 _ (by simp at hi; omega)
theorem EachT.one {base : Nat} {w : World} {x : VP} {t : Tn} (h : TenV base w x t) : EachT base w [x] [t] := ⟨rfl, fun i hi => by
  obtain rfl : i = 0 := by simpa using hi
  exact h⟩
theorem EachT.kept {base : Nat} {w w' : World} {vs : List VP} {l : FL} (h : EachT base w vs l) {row : Option Nat} (hg : w.grownBy w' row) (hrow : row = none ∨ ∃ g cur t fz, row = some g ∧ base ≤ g ∧ w.heap[g]? = some (.cells cur t fz) ∧ t ≠ 5 ∧ t ≠ 80) : EachT base w' vs l :=
  ⟨h.1, fun i hi => ⟨((h.2 i hi).1).keptT hg (row5 hrow), ((h.2 i hi).2).kept hg hrow⟩⟩
theorem EachT.oneV {base : Nat} {w : World} {vs : List VP} {l : FL} (h : EachT base w vs l) : OneV vs := by
  intro x hx
  obtain ⟨i, hi, rfl⟩ := List.mem_iff_getElem.1 hx
  have := h.2 i (by rw [← h.1]; exact hi)
  rw [show vs.getD i nov = vs[i] by simp [hi]] at this
  exact ⟨part_oneCell this.1, pairsB_oneCell this.2⟩
theorem BlkT.rowOf {base : Nat} {w : World} {g : Nat} {all : List VP} (h : BlkT w g all) (hb : base ≤ g) : (some g : Option Nat) = none ∨ ∃ g' cur t fz, (some g : Option Nat) = some g' ∧ base ≤ g' ∧ w.heap[g']? = some (.cells cur t fz) ∧ t ≠ 5 ∧ t ≠ 80 := .inr ⟨g, _, _, _, rfl, hb, h, tenT5, tenTP⟩
theorem BlkT.cells {w : World} {g : Nat} {all : List VP} (h : BlkT w g all) (p : Nat) : ∀ j u, (flat (all.drop p))[j]? = some u → w.cell? ((⟨g, p * 2, none⟩ : Addr).add j) = some u := by
  intro j u hj
  rw [flat_drop, List.getElem?_drop] at hj
  rw [addr_add]
  have := h
  unfold BlkT at this
  simp [World.cell?, this]
  exact hj
theorem BlkT.cellsT {w : World} {g : Nat} {all : List VP} (h : BlkT w g all) (p n : Nat) : ∀ j u, (flat ((all.drop p).take n))[j]? = some u → w.cell? ((⟨g, p * 2, none⟩ : Addr).add j) = some u := by
  intro j u hj
  refine h.cells p j u ?_
  rw [flat_take, List.getElem?_take] at hj
  split at hj
  · exact hj
  · cases hj
/-- A list of the call's own, off its row. -/
theorem ownT_row {base : Nat} {w : World} {g : Nat} {all : List VP} {l : FL} (h : BlkT w g all) (hb : base ≤ g) (hl : l.length ≤ all.length) (hm : all.length ≤ maxLen) (he : EachT 0 w (all.take l.length) l) : OwnT base w (.slice (some ⟨g, 0, none⟩) l.length all.length) l := by
  refine ⟨all.take l.length, he.1, ⟨by rw [flat_len, he.1], .inr ⟨g, all.length, _, rfl, hb, h, hl, hm, by simp [flat_len], ?_⟩⟩, fun i hi => he.2 i hi⟩
  rw [flat_take]
theorem OwnT.elim {base : Nat} {w : World} {v : Value} {l : FL} (h : OwnT base w v l) : (v = .slice none 0 0 ∧ l = []) ∨ ∃ g all, v = .slice (some ⟨g, 0, none⟩) l.length (List.length all) ∧ BlkT w g all ∧ base ≤ g ∧ l.length ≤ all.length ∧ all.length ≤ maxLen ∧ EachT 0 w (all.take l.length) l := by
  obtain ⟨vs, hl, hr, h3⟩ := h
  rcases hr.2 with ⟨rfl, h0⟩ | ⟨g, cap, cur, rfl, hb, hg, hn, hm, hs, ht⟩
  · exact .inl ⟨rfl, List.eq_nil_of_length_eq_zero h0⟩
  · obtain ⟨all, ha, hf⟩ := flat_exists cap cur.toList (by simpa using hs)
    have hcur : cur = (flat all).toArray := by rw [hf]
    subst hcur
    have e : all.take l.length = vs := flat_inj _ _ (by rw [flat_take]; simpa using ht)
    exact .inr ⟨g, all, by rw [ha], hg, hb, by omega, by omega, by rw [e]; exact ⟨hl, fun i hi => h3 i hi⟩⟩
theorem underTen : Try.prog.underlying 35 = some (.slice 113) := Try.underlying35
theorem flat_cut (all news : List VP) (o : Nat) : (((flat all).toArray.toList.take (o * 2) ++ flat news ++ (flat all).toArray.toList.drop (o * 2 + (flat news).length)).toArray) = (flat (all.take o ++ news ++ all.drop (o + news.length))).toArray := by
  rw [flat_append, flat_append, flat_take, flat_drop, flat_len, show (o + news.length) * 2 = o * 2 + news.length * 2 by omega]
set_option maxRecDepth 100000 in
/-- copy into the row. -/
theorem run_copyT (w : World) (g : Nat) (all news : List VP) (hb : BlkT w g all) (ty : TypeId) (o dLen dCap : Nat) (a : Addr) (sLen sCap : Nat) (hn : news.length = Nat.min sLen dLen)
    (hsrc : ∀ j v, (flat news)[j]? = some v → w.cell? (a.add j) = some v) (hfit : o + news.length ≤ all.length) (h1 : OneV news) :
    (Builtin.copy_ #[35, 35] ty #[.slice (some ⟨g, o * 2, none⟩) dLen dCap, .slice (some a) sLen sCap]).run Try.prog w = .ok (goInt news.length) (rowT w g (all.take o ++ news ++ all.drop (o + news.length))) := by
  obtain ⟨i0, hi, hz0, hz1, hz2⟩ := info_parts infoTen
  have hf := run_firstCells_some (P := Try.prog) w 2 news.length a sLen sCap (flat news) (flat_len _) hsrc
  have hst := run_storeCells_at Try.prog g (o * 2) _ (flat news) 0 _ w hb (by simp [flat_len]; omega) h1.flat
  simp only [Nat.add_zero] at hst
  rw [flat_cut] at hst
  have hmin : sLen.min dLen = news.length := hn.symm
  simp [Builtin.copy_, run_underlying underTen, Builtin.lenOf, sizeOf, typeInfo, hi, hz1, hmin, hf, hst, rowT]
set_option maxRecDepth 100000 in
/-- append where there is room. -/
theorem run_appendT (w : World) (g : Nat) (all news : List VP) (hb : BlkT w g all) (ty : TypeId) (n : Nat) (a : Addr) (m c : Nat) (hn : news.length = m)
    (hsrc : ∀ j v, (flat news)[j]? = some v → w.cell? (a.add j) = some v) (hfit : n + m ≤ all.length) (h1 : OneV news) :
    (Builtin.append_ #[35, 35] ty #[.slice (some ⟨g, 0, none⟩) n all.length, .slice (some a) m c]).run Try.prog w = .ok (.slice (some ⟨g, 0, none⟩) (n + m) all.length) (rowT w g (all.take n ++ news ++ all.drop (n + m))) := by
  obtain ⟨i0, hi, hz0, hz1, hz2⟩ := info_parts infoTen
  have := run_append_room (P := Try.prog) w 35 ty 113 i0 underTen hi g n all.length _ hb a m c (flat news) (by rw [flat_len, hz1, hn]) hsrc h1.flat hfit (by rw [hz1]; simp [flat_len]; omega)
  rw [this, hz1, flat_cut, hn]
  rfl
def zeroT : VP := (.slice none 0 0, .slice none 0 0)
theorem zeroTen (w : World) : (zeroValue 113).run Try.prog w = .ok (.agg #[.slice none 0 0, .slice none 0 0]) w := by kernel_rfl
set_option maxRecDepth 100000 in
/-- clear of one tenant of the row. -/
theorem run_clearT (w : World) (g : Nat) (all : List VP) (hb : BlkT w g all) (ty : TypeId) (o c : Nat) (hfit : o < all.length) :
    (Builtin.clear_ #[35] ty #[.slice (some ⟨g, o * 2, none⟩) 1 c]).run Try.prog w = .ok (.tuple #[]) (rowT w g (all.take o ++ [zeroT] ++ all.drop (o + 1))) := by
  have hst := run_storeCells_at Try.prog g (o * 2) _ (flat [zeroT]) 0 _ w hb (by simp [flat_len]; omega) (by intro u hu; simp [flat, zeroT] at hu; rw [hu]; rfl)
  simp only [Nat.add_zero] at hst
  rw [flat_cut] at hst
  have hz : (Builtin.zeroCells (Value.agg #[.slice none 0 0, .slice none 0 0]).cells 1).toList = flat [zeroT] := by kernel_rfl
  simp only [Builtin.clear_, List.getElem?_toArray, List.getElem?_cons_zero, Sem.run_bind, run_underlying underTen, Result.andThen_ok, zeroTen, hz, hst, Sem.run_pure]
  rfl
theorem run_clear0 (w : World) (ty : TypeId) (a : Option Addr) (c : Nat) : (Builtin.clear_ #[35] ty #[.slice a 0 c]).run Try.prog w = .ok (.tuple #[]) w := by
  cases a <;> simp [Builtin.clear_, run_underlying underTen]
set_option maxRecDepth 100000 in
/-- append of nothing but room, where there was none: a new row. -/
theorem run_zerosT (w : World) (g : Nat) (all : List VP) (hb : BlkT w g all) (ty : TypeId) (n k : Nat) (hk : 0 < k) (hn : n ≤ all.length) (hg : all.length < n + k) (hl : n + k ≤ 1000) :
    ∃ rest : List VP, k ≤ rest.length ∧ n + rest.length ≤ maxLen ∧ (Builtin.append_ #[35, 3] ty #[.slice (some ⟨g, 0, none⟩) n all.length, .int .i64 k]).run Try.prog w = .ok (.slice (some ⟨w.heap.size, 0, none⟩) (n + k) (n + rest.length)) (w.drew.alloc (.cells (flat (all.take n ++ rest)).toArray 113)) := by
  obtain ⟨i0, hi, hz0, hz1, hz2⟩ := info_parts infoTen
  have hold := run_firstCells_some (P := Try.prog) w.drew 2 n ⟨g, 0, none⟩ n all.length (flat (all.take n)) (by rw [flat_len]; simp; omega) (by have := hb.drew.cellsT 0 n; simpa using this)
  rw [← hz1] at hold
  have hr := Lib.run_append_grow_zeros (P := Try.prog) w 35 3 ty 113 i0 _ .i64 .i64 underTen (by kernel_rfl) hi hz0 (some ⟨g, 0, none⟩) n all.length (flat (all.take n)) hold k hk (by omega) hg (by omega) (by rw [hz2]; omega) (by rw [hz2]; exact growslice_fits hg (by omega))
  have hge := grownCap_ge w (n + k) all.length 113
  have hle := grownCap_le_maxLen w (n + k) all.length 113 (by unfold maxLen; omega)
  generalize grownCap w (n + k) all.length 113 = G at *
  obtain ⟨rest, r1, r2⟩ := flat_exists (G - n) (Builtin.zeroCells (Value.agg #[.slice none 0 0, .slice none 0 0]).cells k ++ Builtin.zeroCells (Value.agg #[.slice none 0 0, .slice none 0 0]).cells (G - (n + k))).toList (by
    have e : (Value.agg #[.slice none 0 0, .slice none 0 0]).cells.size = 2 := by decide
    simp only [Array.length_toList, Array.size_append, size_zeroCells, e]
    omega)
  refine ⟨rest, by omega, by omega, ?_⟩
  rw [hr]
  congr 1
  · rw [r1]; congr 1; omega
  · congr 2
    rw [flat_append, r2]
    simp [Array.append_assoc]
end Go.Proofs.Ytpmfbfflacbmjac
