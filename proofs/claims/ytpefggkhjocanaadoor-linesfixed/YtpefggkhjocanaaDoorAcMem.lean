/-
  Acts in memory: append of one act.
-/
import Derived.Test.YtpefggkhjocanaaDoorAcM0
namespace Go.Proofs.YtpefggkhjocanaaDoor
open Go.RowKit
/-- append(v, a) of one act that lies in a block. -/
theorem wp_append_ac {w : World} {o : Oper} {a : Act} {K : Act → World → Prop} {Q : Exit → Act → World → Prop} (s x : Operand)
    (ho : o.op = .call { callee := .builtin .append, args := #[s, x], argTypes := #[22, 22] }) (rb : Nat) (v : Value) (l : List Ac) (hs : a.eval s = v) (hown : OwnA rb w v l)
    (vd : Value) (r : Ac) (h1 : PartIs 0 w vd r.data) (nb : Nat) (hb : w.heap[nb]? = some (.cells #[.int .i64 r.kind, .int .i64 r.sess, .int .i64 r.keep, vd] 36))
    (hx : a.eval x = .slice (some ⟨nb, 0, none⟩) 1 1) (hl : (l.length + 1) * 48 ≤ 140737488355328) (hbase : rb ≤ w.heap.size)
    (h : ∀ v' w', OwnA rb w' v' (l ++ [r]) → w.grownBy w' v.ownBlock → K (a.put o.dst v') w') : o.wp Tryd.prog a w K Q := by
  obtain ⟨i0, hi, hz0, hz1, hz2⟩ := info_parts infoAc
  have hrow : v.ownBlock = none ∨ ∃ g cur t fz, v.ownBlock = some g ∧ 0 ≤ g ∧ w.heap[g]? = some (.cells cur t fz) ∧ t ≠ 5 := by
    rcases hown.row with h | ⟨g, cur, fz, e, _, h⟩
    · exact .inl h
    · exact .inr ⟨g, cur, _, fz, e, Nat.zero_le _, h, acT5⟩
  obtain ⟨us, hul, hr, hp⟩ := hown
  refine wp_append_lies w s x 22 ho rb 36 i0 (.agg #[.int .i64 0, .int .i64 0, .int .i64 0, .slice none 0 0]) 4 48 Tryd.underlying22 hi hz0 hz1 hz2 rfl (by decide) v l.length (flatA us) hs hr ⟨nb, 0, none⟩ 1 1 (flatA [(r, vd)]) hx rfl (World.news_of_block (cs := #[.int .i64 r.kind, .int .i64 r.sess, .int .i64 r.keep, vd]) hb) ?_ (by omega) (by unfold maxLen; omega) hl hbase _ rfl ?_
  · intro u hu
    simp only [flatA, List.flatMap_cons, List.flatMap_nil, List.append_nil, List.mem_cons, List.not_mem_nil, or_false] at hu
    rcases hu with rfl | rfl | rfl | rfl
    · rfl
    · rfl
    · rfl
    · exact part_oneCell h1
  · intro g cap w' q1 q2 _ _
    refine h _ w' ⟨us ++ [(r, vd)], by simp [hul], ?_, ?_⟩ q2
    · rw [flatA_append, List.length_append]; exact q1
    · intro y hy
      rcases List.mem_append.1 hy with hy | hy
      · exact (hp y hy).keptT q2 hrow
      · simp only [List.mem_cons, List.not_mem_nil, or_false] at hy
        subst hy
        exact h1.keptT q2 hrow
theorem wpList_append_ac {w : World} {ops : Array Oper} {rest : List Oper} {o : Oper} {a : Act} {Q : Exit → Act → World → Prop} (hgd : o.guard = none) (s x : Operand)
    (ho : o.op = .call { callee := .builtin .append, args := #[s, x], argTypes := #[22, 22] }) (rb : Nat) (v : Value) (l : List Ac) (hs : a.eval s = v) (hown : OwnA rb w v l)
    (vd : Value) (r : Ac) (h1 : PartIs 0 w vd r.data) (nb : Nat) (hb : w.heap[nb]? = some (.cells #[.int .i64 r.kind, .int .i64 r.sess, .int .i64 r.keep, vd] 36))
    (hx : a.eval x = .slice (some ⟨nb, 0, none⟩) 1 1) (hl : (l.length + 1) * 48 ≤ 140737488355328) (hbase : rb ≤ w.heap.size)
    (h : ∀ v' w', OwnA rb w' v' (l ++ [r]) → w.grownBy w' v.ownBlock → wpList Tryd.prog ops Q rest (a.put o.dst v') w') : wpList Tryd.prog ops Q (o :: rest) a w :=
  wpList_plain hgd fun _ hK => wp_append_ac s x ho rb v l hs hown vd r h1 nb hb hx hl hbase fun v' w' h1 h2 => hK _ _ (h v' w' h1 h2)
end Go.Proofs.YtpefggkhjocanaaDoor
