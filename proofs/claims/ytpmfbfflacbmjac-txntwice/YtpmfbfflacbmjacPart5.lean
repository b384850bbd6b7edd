/-
  Texts of this proof, joined: PairStep, PairStepQ.
-/
import Derived.Test.YtpmfbfflacbmjacPairMem
import Derived.Deep.AppendLies
/-
  append of one pair, at a step of a region that draws its order.
-/
namespace Go.Proofs.Ytpmfbfflacbmjac
open Go.RowKit
theorem wp_append_pair {w : World} {o : Oper} {a : Act} {K : Act → World → Prop} {Q : Exit → Act → World → Prop} (s x : Operand)
    (ho : o.op = .call { callee := .builtin .append, args := #[s, x], argTypes := #[41, 41] }) (base : Nat) (v : Value) (l : PL) (hs : a.eval s = v) (hown : OwnP base w v l)
    (vk vv : Value) (p : Pr) (hk : PartIs base w vk p.1) (hv : PartIs base w vv p.2) (nb : Nat) (hb : w.heap[nb]? = some (.cells #[vk, vv] 80))
    (hx : a.eval x = .slice (some ⟨nb, 0, none⟩) 1 1) (hl : (l.length + 1) * 48 ≤ 140737488355328) (hbase : base ≤ w.heap.size)
    (h : ∀ v' w', OwnP base w' v' (l ++ [p]) → w.grownBy w' v.ownBlock → K (a.put o.dst v') w') : o.wp Try.prog a w K Q := by
  obtain ⟨i0, hi, hz0, hz1, hz2⟩ := info_parts infoPair
  have hrow := hown.row
  obtain ⟨vs, hvl, hr, hp⟩ := hown
  refine wp_append_lies w s x 41 ho base 80 i0 (.agg #[.slice none 0 0, .slice none 0 0]) 2 48 Try.underlying41 hi hz0 hz1 hz2 rfl (by decide) v l.length (flat vs) hs hr ⟨nb, 0, none⟩ 1 1 (flat [(vk, vv)]) hx rfl (World.news_of_block (cs := #[vk, vv]) hb) ?_ (by omega) (by unfold maxLen; omega) hl hbase _ rfl ?_
  · intro u hu
    simp only [flat, List.flatMap_cons, List.flatMap_nil, List.append_nil, List.mem_cons, List.not_mem_nil, or_false] at hu
    rcases hu with rfl | rfl
    · exact part_oneCell hk
    · exact part_oneCell hv
  · intro g cap w' h1 h2 _ _
    refine h _ w' ⟨vs ++ [(vk, vv)], by simp [hvl], ?_, ?_⟩ h2
    · rw [flat_append, List.length_append]; exact h1
    · intro i hi
      rw [getD_append, getD_append, hvl]
      by_cases hil : i < l.length
      · rw [if_pos hil, if_pos hil]
        exact ⟨(hp i hil).1.kept h2 hrow, (hp i hil).2.kept h2 hrow⟩
      · rw [if_neg hil, if_neg hil]
        obtain rfl : i = l.length := by simp at hi; omega
        rw [Nat.sub_self]
        exact ⟨hk.kept h2 hrow, hv.kept h2 hrow⟩
theorem step_append_pair {w : World} {ops : Array Oper} {o : Oper} {a : Act} {K : Act → World → Prop} {Q : Exit → Act → World → Prop} {E : Prop} (hgd : o.guard = none) (s x : Operand)
    (ho : o.op = .call { callee := .builtin .append, args := #[s, x], argTypes := #[41, 41] }) (base : Nat) (v : Value) (l : PL) (hs : a.eval s = v) (hown : OwnP base w v l)
    (vk vv : Value) (p : Pr) (hk : PartIs base w vk p.1) (hv : PartIs base w vv p.2) (nb : Nat) (hb : w.heap[nb]? = some (.cells #[vk, vv] 80))
    (hx : a.eval x = .slice (some ⟨nb, 0, none⟩) 1 1) (hl : (l.length + 1) * 48 ≤ 140737488355328) (hbase : base ≤ w.heap.size)
    (h : ∀ v' w', OwnP base w' v' (l ++ [p]) → w.grownBy w' v.ownBlock → K (a.put o.dst v') w') : if Region.wanted o (yielded ops a.tmps) = true then Oper.wp Try.prog o a w K Q else E := by
  have hw : Region.wanted o (yielded ops a.tmps) = true := by simp [Region.wanted, hgd]
  rw [if_pos hw]
  exact wp_append_pair s x ho base v l hs hown vk vv p hk hv nb hb hx hl hbase h
end Go.Proofs.Ytpmfbfflacbmjac

/-
  append of one pair, at a step of a region that draws its order: the list has a base of its own.
-/
namespace Go.Proofs.Ytpmfbfflacbmjac
open Go.RowKit
theorem wp_append_pairQ {w : World} {o : Oper} {a : Act} {K : Act → World → Prop} {Q : Exit → Act → World → Prop} (s x : Operand)
    (ho : o.op = .call { callee := .builtin .append, args := #[s, x], argTypes := #[41, 41] }) (rb base : Nat) (hrb : base ≤ rb) (v : Value) (l : PL) (hs : a.eval s = v) (hown : OwnQ rb base w v l)
    (vk vv : Value) (p : Pr) (hk : PartIs base w vk p.1) (hv : PartIs base w vv p.2) (nb : Nat) (hb : w.heap[nb]? = some (.cells #[vk, vv] 80))
    (hx : a.eval x = .slice (some ⟨nb, 0, none⟩) 1 1) (hl : (l.length + 1) * 48 ≤ 140737488355328) (hbase : rb ≤ w.heap.size)
    (h : ∀ v' w', OwnQ rb base w' v' (l ++ [p]) → w.grownBy w' v.ownBlock → K (a.put o.dst v') w') : o.wp Try.prog a w K Q := by
  obtain ⟨i0, hi, hz0, hz1, hz2⟩ := info_parts infoPair
  have hrow := hown.row hrb
  obtain ⟨vs, hvl, hr, hp⟩ := hown
  refine wp_append_lies w s x 41 ho rb 80 i0 (.agg #[.slice none 0 0, .slice none 0 0]) 2 48 Try.underlying41 hi hz0 hz1 hz2 rfl (by decide) v l.length (flat vs) hs hr ⟨nb, 0, none⟩ 1 1 (flat [(vk, vv)]) hx rfl (World.news_of_block (cs := #[vk, vv]) hb) ?_ (by omega) (by unfold maxLen; omega) hl hbase _ rfl ?_
  · intro u hu
    simp only [flat, List.flatMap_cons, List.flatMap_nil, List.append_nil, List.mem_cons, List.not_mem_nil, or_false] at hu
    rcases hu with rfl | rfl
    · exact part_oneCell hk
    · exact part_oneCell hv
  · intro g cap w' h1 h2 _ _
    refine h _ w' ⟨vs ++ [(vk, vv)], by simp [hvl], ?_, ?_⟩ h2
    · rw [flat_append, List.length_append]; exact h1
    · intro i hi
      rw [getD_append, getD_append, hvl]
      by_cases hil : i < l.length
      · rw [if_pos hil, if_pos hil]
        exact ⟨(hp i hil).1.kept h2 hrow, (hp i hil).2.kept h2 hrow⟩
      · rw [if_neg hil, if_neg hil]
        obtain rfl : i = l.length := by simp at hi; omega
        rw [Nat.sub_self]
        exact ⟨hk.kept h2 hrow, hv.kept h2 hrow⟩
theorem step_append_pairQ {w : World} {ops : Array Oper} {o : Oper} {a : Act} {K : Act → World → Prop} {Q : Exit → Act → World → Prop} {E : Prop} (hgd : o.guard = none) (s x : Operand)
    (ho : o.op = .call { callee := .builtin .append, args := #[s, x], argTypes := #[41, 41] }) (rb base : Nat) (hrb : base ≤ rb) (v : Value) (l : PL) (hs : a.eval s = v) (hown : OwnQ rb base w v l)
    (vk vv : Value) (p : Pr) (hk : PartIs base w vk p.1) (hv : PartIs base w vv p.2) (nb : Nat) (hb : w.heap[nb]? = some (.cells #[vk, vv] 80))
    (hx : a.eval x = .slice (some ⟨nb, 0, none⟩) 1 1) (hl : (l.length + 1) * 48 ≤ 140737488355328) (hbase : rb ≤ w.heap.size)
    (h : ∀ v' w', OwnQ rb base w' v' (l ++ [p]) → w.grownBy w' v.ownBlock → K (a.put o.dst v') w') : if Region.wanted o (yielded ops a.tmps) = true then Oper.wp Try.prog o a w K Q else E := by
  have hw : Region.wanted o (yielded ops a.tmps) = true := by simp [Region.wanted, hgd]
  rw [if_pos hw]
  exact wp_append_pairQ s x ho rb base hrb v l hs hown vk vv p hk hv nb hb hx hl hbase h

theorem OwnQ.list {rb : Nat} {w : World} {v : Value} {l : PL} (h : OwnQ rb 0 w v l) : PairsIs w v l := (h.p (Nat.zero_le _)).list
end Go.Proofs.Ytpmfbfflacbmjac
