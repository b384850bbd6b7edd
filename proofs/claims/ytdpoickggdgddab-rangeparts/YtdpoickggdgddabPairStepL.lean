/-
  append of a list of pairs, at an operation that a guard may let by.
-/
import Derived.Test.YtdpoickggdgddabPairMem
import Derived.Deep.AppendLies
import Derived.BigFrame
namespace Go.Proofs.Ytdpoickggdgddab
open Go.RowKit
theorem wp_append_plist {w : World} {o : Oper} {a : Act} {K : Act → World → Prop} {Q : Exit → Act → World → Prop} (s x : Operand)
    (ho : o.op = .call { callee := .builtin .append, args := #[s, x], argTypes := #[24, 24] }) (base : Nat) (v : Value) (l : PL) (hs : a.eval s = v) (hown : OwnP base w v l)
    (xa : Option Addr) (n cap : Nat) (m : PL) (hx : a.eval x = .slice xa n cap) (hsrc : PartsIs base w (.slice xa n cap) m) (hl : (l.length + m.length) * 48 ≤ 140737488355328) (hbase : base ≤ w.heap.size)
    (h : ∀ v' w', OwnP base w' v' (l ++ m) → w.grownBy w' v.ownBlock → K (a.put o.dst v') w') : o.wp Try.prog a w K Q := by
  obtain ⟨us, a', cap', e, hul, hu, hc⟩ := hsrc
  simp only [Value.slice.injEq] at e
  obtain ⟨rfl, rfl, rfl⟩ := e
  obtain ⟨i0, hi, hz0, hz1, hz2⟩ := info_parts infoPair
  have hrow := hown.row
  have hown' := hown
  obtain ⟨vs, hvl, hr, hp⟩ := hown
  cases xa with
  | some ad =>
    have hcells : ∀ j u, (flat us)[j]? = some u → w.cell? (ad.add j) = some u := by
      rcases hc with hc | ⟨ad', e, hc⟩
      · cases hc.1
      · cases e; exact hc
    have hone : ∀ u ∈ flat us, u.oneCell' = true := by
      intro u hu'
      obtain ⟨p, hp1, hp2⟩ := List.mem_flatMap.1 hu'
      obtain ⟨i, hi, rfl⟩ := List.mem_iff_getElem.1 hp1
      have := hu i (by omega)
      rw [show us.getD i (undef, undef) = us[i] by simp [hi]] at this
      simp only [List.mem_cons, List.not_mem_nil, or_false] at hp2
      rcases hp2 with rfl | rfl
      · exact part_oneCell this.1
      · exact part_oneCell this.2
    obtain ⟨v', w', hrun, h1, h2, _, _⟩ := run_append_own_at (P := Try.prog) w base 24 o.type 32 i0 (.agg #[.slice none 0 0, .slice none 0 0]) 2 48 Try.underlying24 hi hz0 hz1 hz2 rfl (by decide) v l.length (flat vs) hr ad m.length cap (flat us) (by rw [flat_len, hul]) hcells hone (by unfold maxLen; omega) hl hbase
    unfold Oper.wp execOp
    simp only [ho, resolve, invoke, builtin, Sem.run_bind, Sem.run_pure, Result.andThen_ok, List.map_toArray, List.map_cons, List.map_nil, hs, hx, hrun]
    refine h v' w' ⟨vs ++ us, by simp [hvl, hul], ?_, ?_⟩ h2
    · rw [flat_append, List.length_append]; exact h1
    · intro i hi
      rw [getD_append, getD_append, hvl]
      by_cases hil : i < l.length
      · rw [if_pos hil, if_pos hil]
        exact ⟨(hp i hil).1.kept h2 hrow, (hp i hil).2.kept h2 hrow⟩
      · rw [if_neg hil, if_neg hil]
        have := hu (i - l.length) (by simp at hi; omega)
        exact ⟨this.1.kept h2 hrow, this.2.kept h2 hrow⟩
  | none =>
    have hm : m = [] := by
      rcases hc with hc | ⟨ad', e, _⟩
      · exact hc.2.1
      · cases e
    have hcap : cap = 0 := by
      rcases hc with hc | ⟨ad', e, _⟩
      · exact hc.2.2
      · cases e
    subst hm hcap
    rw [List.append_nil] at h
    have hrun := run_append_owned_none (P := Try.prog) (w := w) base 24 o.type 32 i0 2 Try.underlying24 hi v l.length (flat vs) hr
    unfold Oper.wp
    simp [execOp, ho, resolve, invoke, builtin, hs, hx, Result.andThen] at hrun ⊢
    rw [hrun]
    exact h v w hown' (grown_refl _ _)
theorem wpList_append_plistG {w : World} {ops : Array Oper} {rest : List Oper} {o : Oper} {a : Act} {Q : Exit → Act → World → Prop} (hw : Region.wanted o (yielded ops a.tmps) = true) (s x : Operand)
    (ho : o.op = .call { callee := .builtin .append, args := #[s, x], argTypes := #[24, 24] }) (base : Nat) (v : Value) (l : PL) (hs : a.eval s = v) (hown : OwnP base w v l)
    (xa : Option Addr) (n cap : Nat) (m : PL) (hx : a.eval x = .slice xa n cap) (hsrc : PartsIs base w (.slice xa n cap) m) (hl : (l.length + m.length) * 48 ≤ 140737488355328) (hbase : base ≤ w.heap.size)
    (h : ∀ v' w', OwnP base w' v' (l ++ m) → w.grownBy w' v.ownBlock → wpList Try.prog ops Q rest (a.put o.dst v') w') : wpList Try.prog ops Q (o :: rest) a w :=
  BigFrame.wpList_want hw fun _ hK => wp_append_plist s x ho base v l hs hown xa n cap m hx hsrc hl hbase fun v' w' h1 h2 => hK _ _ (h v' w' h1 h2)
end Go.Proofs.Ytdpoickggdgddab
