/-
  A row of texts of the call's own.
-/
import Derived.Test.YtpefggkhjocanaaDoorStrM
import Derived.Deep.AppendLies
namespace Go.Proofs.YtpefggkhjocanaaDoor
open Go.RowKit
def OwnS10 (rb : Nat) (w : World) (v : Value) (ws : List (List UInt8)) : Prop := w.ownsRow rb 9 1 v ws.length (ws.map fun x => .string (textOf x))
theorem ownS10_nil (rb : Nat) (w : World) : OwnS10 rb w (.slice none 0 0) [] := World.ownsRow_nil _ _ _ _
theorem OwnS10.lt {rb : Nat} {w : World} {v : Value} {ws : List (List UInt8)} (h : OwnS10 rb w v ws) : ∀ k, v.ownBlock = some k → rb ≤ k ∧ k < w.heap.size := World.ownsRow.lt h
theorem OwnS10.alloc {rb : Nat} {w : World} {v : Value} {ws : List (List UInt8)} (h : OwnS10 rb w v ws) (o : Obj) : OwnS10 rb (w.alloc o) v ws := World.ownsRow.alloc h o
theorem OwnS10.shape {rb : Nat} {w : World} {v : Value} {ws : List (List UInt8)} (h : OwnS10 rb w v ws) : ∃ a cap, v = .slice a ws.length cap := by
  rcases h.2 with ⟨rfl, h0⟩ | ⟨g, cap, cur, rfl, _⟩
  · exact ⟨none, 0, by rw [h0]⟩
  · exact ⟨_, cap, rfl⟩
/-- The texts, as they are read. -/
def WordsIs (w : World) (v : Value) (ws : List (List UInt8)) : Prop := ∃ g cap, v = .slice (some ⟨g, 0, none⟩) ws.length cap ∧ ∀ i, i < ws.length → w.cell? ⟨g, i, none⟩ = some (.string (textOf (ws.getD i [])))
theorem WordsIs.grown {w w' : World} {v : Value} {ws : List (List UInt8)} (h : WordsIs w v ws) (hg : w.grownBy w' none) : WordsIs w' v ws := by
  obtain ⟨g, cap, rfl, h⟩ := h
  exact ⟨g, cap, rfl, fun i hi => hg.cell (h i hi) (by simp)⟩
theorem OwnS10.words {rb : Nat} {w : World} {v : Value} {ws : List (List UInt8)} (h : OwnS10 rb w v ws) (hne : ws ≠ []) : WordsIs w v ws := by
  have hl : 0 < ws.length := List.length_pos_iff.2 hne
  rcases h.2 with ⟨rfl, h0⟩ | ⟨g, cap, cur, rfl, hb, hg, hn, hm, hs, ht⟩
  · omega
  · refine ⟨g, cap, rfl, fun i hi => ?_⟩
    have e : (cur.toList.take (ws.length * 1))[i]? = (ws.map fun x => Value.string (textOf x))[i]? := by rw [ht]
    rw [List.getElem?_take, if_pos (by omega), List.getElem?_map, List.getElem?_eq_getElem hi] at e
    simp [World.cell?, hg]
    simpa [hi] using e
theorem infoTx : (Tryd.prog.info? 9).map (fun i => (i.zero, i.size, i.bytes)) = some (some (.string ⟨#[]⟩), 1, 16) := by kernel_rfl
theorem wpList_append_word {w : World} {ops : Array Oper} {rest : List Oper} {o : Oper} {a : Act} {Q : Exit → Act → World → Prop} (hgd : o.guard = none) (s x : Operand)
    (ho : o.op = .call { callee := .builtin .append, args := #[s, x], argTypes := #[40, 40] }) (rb : Nat) (v : Value) (ws : List (List UInt8)) (hs : a.eval s = v) (hown : OwnS10 rb w v ws)
    (x0 : List UInt8) (nb : Nat) (hb : w.heap[nb]? = some (.cells #[.string (textOf x0)] 9))
    (hx : a.eval x = .slice (some ⟨nb, 0, none⟩) 1 1) (hl : (ws.length + 1) * 16 ≤ 140737488355328) (hbase : rb ≤ w.heap.size)
    (h : ∀ v' w', OwnS10 rb w' v' (ws ++ [x0]) → w.grownBy w' v.ownBlock → wpList Tryd.prog ops Q rest (a.put o.dst v') w') : wpList Tryd.prog ops Q (o :: rest) a w := by
  obtain ⟨i0, hi, hz0, hz1, hz2⟩ := info_parts infoTx
  refine wpList_append_lies w hgd s x 40 ho rb 9 i0 (.string ⟨#[]⟩) 1 16 Tryd.underlying40 hi hz0 hz1 hz2 rfl (by decide) v ws.length (ws.map fun x => .string (textOf x)) hs hown ⟨nb, 0, none⟩ 1 1 [.string (textOf x0)] hx rfl (World.news_of_block (cs := #[.string (textOf x0)]) hb) ?_ (by omega) (by unfold maxLen; omega) hl hbase _ rfl ?_
  · intro u hu
    simp only [List.mem_cons, List.not_mem_nil, or_false] at hu
    rw [hu]; rfl
  · intro g cap w' q1 q2 _ _
    refine h _ w' ?_ q2
    unfold OwnS10
    rw [List.map_append, List.length_append]
    exact q1
theorem grown_ownS10 {w W w1 : World} {v : Value} {ws : List (List UInt8)} (h : w.grownBy W none) (ho : OwnS10 w.heap.size W v ws) (hg : W.grownBy w1 v.ownBlock) : w.grownBy w1 none :=
  ⟨hg.os.trans h.os, hg.tape.trans h.tape, hg.output.trans h.output, Nat.le_trans h.size hg.size, fun i hi hn => (hg.block i (Nat.lt_of_lt_of_le hi h.size) (fun e => by have := (ho.lt i e.symm).1; omega)).trans (h.block i hi hn)⟩
end Go.Proofs.YtpefggkhjocanaaDoor
