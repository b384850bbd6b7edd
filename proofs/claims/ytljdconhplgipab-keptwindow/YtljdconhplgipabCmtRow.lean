/-
  Lists of commits in memory.
-/
import Derived.Test.YtljdconhplgipabCmtMem
namespace Go.Proofs.Ytljdconhplgipab
open Go.RowKit
def CmtAt (w : World) (b o : Nat) (c : Cmt) : Prop := ∃ vs, w.cell? ⟨b, o, none⟩ = some (.int .i64 c.turn) ∧ w.cell? ⟨b, o + 1, none⟩ = some vs ∧ WritesIs w vs c.writes
theorem CmtAt.grown {w w' : World} {b o : Nat} {c : Cmt} (h : CmtAt w b o c) (hg : w.grownBy w' none) : CmtAt w' b o c := by
  obtain ⟨vs, c1, c2, h⟩ := h
  exact ⟨vs, hg.cell c1 (by simp), hg.cell c2 (by simp), h.grown hg⟩
def CommitsIs (w : World) (v : Value) (l : List Cmt) : Prop :=
  ∃ a cap, v = .slice a l.length cap ∧ l.length ≤ cap ∧ ((l = [] ∧ (a = none → cap = 0)) ∨ ∃ b o, a = some ⟨b, o, none⟩ ∧ ∀ i, i < l.length → CmtAt w b (o + i * 2) (l.getD i noCmt))
theorem commitsIs_nil (w : World) : CommitsIs w (.slice none 0 0) [] := ⟨none, 0, rfl, Nat.le_refl _, .inl ⟨rfl, fun _ => rfl⟩⟩
theorem CommitsIs.shape {w : World} {v : Value} {l : List Cmt} (h : CommitsIs w v l) : ∃ a cap, v = .slice a l.length cap := by
  obtain ⟨a, cap, rfl, _⟩ := h
  exact ⟨a, cap, rfl⟩
theorem CommitsIs.grown {w w' : World} {v : Value} {l : List Cmt} (h : CommitsIs w v l) (hg : w.grownBy w' none) : CommitsIs w' v l := by
  obtain ⟨a, cap, rfl, hc, h⟩ := h
  refine ⟨a, cap, rfl, hc, ?_⟩
  rcases h with h | ⟨b, o, rfl, h⟩
  · exact .inl h
  · exact .inr ⟨b, o, rfl, fun i hi => (h i hi).grown hg⟩
theorem CommitsIs.at {w : World} {a : Option Addr} {n cap : Nat} {l : List Cmt} (h : CommitsIs w (.slice a n cap) l) (i : Nat) (hi : i < l.length) : ∃ b o, a = some ⟨b, o, none⟩ ∧ CmtAt w b (o + i * 2) (l.getD i noCmt) := by
  obtain ⟨a', cap', e, hc, h⟩ := h
  simp only [Value.slice.injEq] at e
  obtain ⟨rfl, rfl, rfl⟩ := e
  rcases h with ⟨rfl, _⟩ | ⟨b, o, rfl, h⟩
  · simp at hi
  · exact ⟨b, o, rfl, h i hi⟩
structure FitsCs (l : List Cmt) : Prop where
  many : l.length * 32 ≤ 140737488355328
  each : ∀ i, i < l.length → FitsC (l.getD i noCmt)
abbrev CV := Cmt × Value
def noCV : CV := (noCmt, undef)
def flatC (us : List CV) : List Value := us.flatMap fun x => [.int .i64 x.1.turn, x.2]
theorem flatC_append (a b : List CV) : flatC (a ++ b) = flatC a ++ flatC b := by simp [flatC]
theorem flatC_get : ∀ (us : List CV) (i : Nat), i < us.length → (flatC us)[i * 2]? = some (.int .i64 (us.getD i noCV).1.turn) ∧ (flatC us)[i * 2 + 1]? = some (us.getD i noCV).2
  | [], i, h => by simp at h
  | x :: us, 0, _ => ⟨rfl, rfl⟩
  | x :: us, i + 1, h => by
    have := flatC_get us i (by simpa using h)
    rw [show (i + 1) * 2 = i * 2 + 2 by omega]
    exact this
/-- The list v of commits is the call's own, from block 'base' on. -/
def OwnC (base : Nat) (w : World) (v : Value) (l : List Cmt) : Prop :=
  ∃ us : List CV, us.map (·.1) = l ∧ w.ownsRow base 48 2 v l.length (flatC us) ∧ ∀ x ∈ us, WritesB base w x.2 x.1.writes
theorem ownC_nil (base : Nat) (w : World) : OwnC base w (.slice none 0 0) [] := ⟨[], rfl, World.ownsRow_nil _ _ _ _, fun x hx => by simp at hx⟩
theorem OwnC.row {base : Nat} {w : World} {v : Value} {l : List Cmt} (h : OwnC base w v l) : v.ownBlock = none ∨ ∃ g cur t fz, v.ownBlock = some g ∧ base ≤ g ∧ w.heap[g]? = some (.cells cur t fz) ∧ t ≠ 5 ∧ t ≠ 35 := by
  obtain ⟨us, _, h, _⟩ := h
  rcases h.2 with ⟨rfl, _⟩ | ⟨g, cap, cur, rfl, hb, hg, _⟩
  · exact .inl rfl
  · exact .inr ⟨g, cur, _, _, rfl, hb, hg, cmtT5, cmtTW⟩
theorem OwnC.lt {base : Nat} {w : World} {v : Value} {l : List Cmt} (h : OwnC base w v l) : ∀ k, v.ownBlock = some k → base ≤ k ∧ k < w.heap.size := by
  obtain ⟨us, _, h, _⟩ := h
  exact World.ownsRow.lt h
theorem OwnC.grownNone {base : Nat} {w w' : World} {v : Value} {l : List Cmt} (h : OwnC base w v l) (hg : w.grownBy w' none) : OwnC base w' v l := by
  obtain ⟨us, h1, h2, h3⟩ := h
  refine ⟨us, h1, World.ownsRow.kept h2 hg ?_, fun x hx => (h3 x hx).kept hg (.inl rfl)⟩
  cases hv : v.ownBlock with
  | none => exact .inl rfl
  | some k => exact .inr (by simp)
theorem OwnC.shape {base : Nat} {w : World} {v : Value} {l : List Cmt} (h : OwnC base w v l) : ∃ a cap, v = .slice a l.length cap := by
  obtain ⟨us, _, h, _⟩ := h
  rcases h.2 with ⟨rfl, h0⟩ | ⟨g, cap, cur, rfl, _⟩
  · exact ⟨none, 0, by rw [h0]⟩
  · exact ⟨_, cap, rfl⟩
theorem mapC_getD {us : List CV} {l : List Cmt} (h : us.map (·.1) = l) (i : Nat) (hi : i < l.length) : (us.getD i noCV).1 = l.getD i noCmt ∧ us.getD i noCV ∈ us := by
  subst h
  have hi' : i < us.length := by simpa using hi
  refine ⟨by simp [hi'], ?_⟩
  rw [show us.getD i noCV = us[i] by simp [hi']]
  exact List.getElem_mem hi'
theorem OwnC.list {base : Nat} {w : World} {v : Value} {l : List Cmt} (h : OwnC base w v l) : CommitsIs w v l := by
  obtain ⟨us, hl, hr, h3⟩ := h
  rcases hr.2 with ⟨rfl, h0⟩ | ⟨g, cap, cur, rfl, hb, hg, hn, hm, hs, ht⟩
  · have : l = [] := List.eq_nil_of_length_eq_zero h0
    rw [this]
    exact commitsIs_nil w
  · have hcell : ∀ j u, (flatC us)[j]? = some u → w.cell? ⟨g, j, none⟩ = some u := by
      intro j u hj
      have hlt : j < l.length * 2 := by
        have := (List.getElem?_eq_some_iff.1 hj).1
        rw [hr.1] at this
        exact this
      have e2 : (cur.toList.take (l.length * 2))[j]? = (flatC us)[j]? := by rw [ht]
      rw [List.getElem?_take, if_pos hlt, hj] at e2
      simp [World.cell?, hg]
      simpa using e2
    refine ⟨_, cap, rfl, hn, .inr ⟨g, 0, rfl, fun i hi => ?_⟩⟩
    obtain ⟨e1, e2⟩ := mapC_getD hl i hi
    have hlen : us.length = l.length := by rw [← hl]; simp
    obtain ⟨c1, c2⟩ := flatC_get us i (by omega)
    have hp := h3 _ e2
    rw [e1] at c1 hp
    rw [Nat.zero_add]
    exact ⟨_, hcell _ _ c1, hcell _ _ c2, hp.list⟩
theorem grown_ownC {base : Nat} {w W w1 : World} {v : Value} {l : List Cmt} (h : w.grownBy W none) (ho : OwnC base W v l) (hb : w.heap.size ≤ base) (hg : W.grownBy w1 v.ownBlock) : w.grownBy w1 none :=
  ⟨hg.os.trans h.os, hg.tape.trans h.tape, hg.output.trans h.output, Nat.le_trans h.size hg.size, fun i hi hn => (hg.block i (Nat.lt_of_lt_of_le hi h.size) (fun e => by have := (ho.lt i e.symm).1; omega)).trans (h.block i hi hn)⟩
theorem infoCmt : (Try.prog.info? 48).map (fun i => (i.zero, i.size, i.bytes)) = some (some (.agg #[.int .i64 0, .slice none 0 0]), 2, 32) := by kernel_rfl
/-- append(v, x) of one commit. -/
theorem wp_append_cmt {w : World} {o : Oper} {a : Act} {K : Act → World → Prop} {Q : Exit → Act → World → Prop} (s x : Operand)
    (ho : o.op = .call { callee := .builtin .append, args := #[s, x], argTypes := #[23, 23] }) (base : Nat) (v : Value) (l : List Cmt) (hs : a.eval s = v) (hown : OwnC base w v l)
    (vw : Value) (c : Cmt) (hw : WritesB base w vw c.writes) (nb : Nat) (hb : w.heap[nb]? = some (.cells #[.int .i64 c.turn, vw] 48))
    (hx : a.eval x = .slice (some ⟨nb, 0, none⟩) 1 1) (hl : (l.length + 1) * 32 ≤ 140737488355328) (hbase : base ≤ w.heap.size)
    (h : ∀ v' w', OwnC base w' v' (l ++ [c]) → w.grownBy w' v.ownBlock → K (a.put o.dst v') w') : o.wp Try.prog a w K Q := by
  obtain ⟨i0, hi, hz0, hz1, hz2⟩ := info_parts infoCmt
  have hrow := hown.row
  obtain ⟨us, hul, hr, hp⟩ := hown
  refine wp_append_lies w s x 23 ho base 48 i0 (.agg #[.int .i64 0, .slice none 0 0]) 2 32 Try.underlying23 hi hz0 hz1 hz2 rfl (by decide) v l.length (flatC us) hs hr ⟨nb, 0, none⟩ 1 1 (flatC [(c, vw)]) hx rfl (World.news_of_block (cs := #[.int .i64 c.turn, vw]) hb) ?_ (by omega) (by unfold maxLen; omega) hl hbase _ rfl ?_
  · intro u hu
    simp only [flatC, List.flatMap_cons, List.flatMap_nil, List.append_nil, List.mem_cons, List.not_mem_nil, or_false] at hu
    rcases hu with rfl | rfl
    · rfl
    · exact hw.oneCell
  · intro g cap w' q1 q2 _ _
    refine h _ w' ⟨us ++ [(c, vw)], by simp [hul], ?_, ?_⟩ q2
    · rw [flatC_append, List.length_append]; exact q1
    · intro y hy
      rcases List.mem_append.1 hy with hy | hy
      · exact (hp y hy).kept q2 hrow
      · simp only [List.mem_cons, List.not_mem_nil, or_false] at hy
        subst hy
        exact hw.kept q2 hrow
theorem wpList_append_cmt {w : World} {ops : Array Oper} {rest : List Oper} {o : Oper} {a : Act} {Q : Exit → Act → World → Prop} (hgd : o.guard = none) (s x : Operand)
    (ho : o.op = .call { callee := .builtin .append, args := #[s, x], argTypes := #[23, 23] }) (base : Nat) (v : Value) (l : List Cmt) (hs : a.eval s = v) (hown : OwnC base w v l)
    (vw : Value) (c : Cmt) (hw : WritesB base w vw c.writes) (nb : Nat) (hb : w.heap[nb]? = some (.cells #[.int .i64 c.turn, vw] 48))
    (hx : a.eval x = .slice (some ⟨nb, 0, none⟩) 1 1) (hl : (l.length + 1) * 32 ≤ 140737488355328) (hbase : base ≤ w.heap.size)
    (h : ∀ v' w', OwnC base w' v' (l ++ [c]) → w.grownBy w' v.ownBlock → wpList Try.prog ops Q rest (a.put o.dst v') w') : wpList Try.prog ops Q (o :: rest) a w :=
  wpList_plain hgd fun _ hK => wp_append_cmt s x ho base v l hs hown vw c hw nb hb hx hl hbase fun v' w' h1 h2 => hK _ _ (h v' w' h1 h2)
end Go.Proofs.Ytljdconhplgipab
