/-
  Lists of writes: two of them, many that are nothing, lists put together.
-/
import Derived.Test.YtkkcjnhfbblgiacDoorWrMem
import Derived.Lib.SmallJoins
namespace Go.Proofs.YtkkcjnhfbblgiacDoor
open Go.RowKit
theorem writes_two (w : World) (an ak av bn bk bv : Value) (p q : Plc) (h1 : SliceIs w an p.name) (h2 : SliceIs w ak p.key) (h3 : SliceIs w av p.value) (g1 : SliceIs w bn q.name) (g2 : SliceIs w bk q.key) (g3 : SliceIs w bv q.value) (t : TypeId) : WritesIs (w.alloc (.cells #[an, ak, .bool p.gone, av, bn, bk, .bool q.gone, bv] t)) (.slice (some ⟨w.heap.size, 0, none⟩) 2 2) [p, q] := by
  refine ⟨_, 2, rfl, by simp, .inr ⟨w.heap.size, 0, rfl, fun i hi => ?_⟩⟩
  match i, hi with
  | 0, _ => exact ⟨an, ak, av, by simp, by simp, by simp, by simp, h1.alloc _, h2.alloc _, h3.alloc _⟩
  | 1, _ => exact ⟨bn, bk, bv, by simp, by simp, by simp, by simp, g1.alloc _, g2.alloc _, g3.alloc _⟩
def noWrites : Array Value := #[.slice none 0 0, .slice none 0 0, .bool false, .slice none 0 0, .slice none 0 0, .slice none 0 0, .bool false, .slice none 0 0, .slice none 0 0, .slice none 0 0, .bool false, .slice none 0 0, .slice none 0 0, .slice none 0 0, .bool false, .slice none 0 0, .slice none 0 0, .slice none 0 0, .bool false, .slice none 0 0, .slice none 0 0, .slice none 0 0, .bool false, .slice none 0 0, .slice none 0 0, .slice none 0 0, .bool false, .slice none 0 0, .slice none 0 0, .slice none 0 0, .bool false, .slice none 0 0, .slice none 0 0, .slice none 0 0, .bool false, .slice none 0 0, .slice none 0 0, .slice none 0 0, .bool false, .slice none 0 0, .slice none 0 0, .slice none 0 0, .bool false, .slice none 0 0]
theorem writes_none (W : World) (t : TypeId) : WritesIs (W.alloc (.cells noWrites t)) (.slice (some ⟨W.heap.size, 0, none⟩) 11 11) (List.replicate 11 noPlc) := by
  refine ⟨_, 11, rfl, by simp, .inr ⟨W.heap.size, 0, rfl, fun i hi => ?_⟩⟩
  have hi' : i < 11 := by simpa using hi
  unfold noWrites
  match i, hi' with
  | 0, _ => exact ⟨.slice none 0 0, .slice none 0 0, .slice none 0 0, by simp, by simp, by simp [noPlc], by simp, sliceIs_nil _, sliceIs_nil _, sliceIs_nil _⟩
  | 1, _ => exact ⟨.slice none 0 0, .slice none 0 0, .slice none 0 0, by simp, by simp, by simp [noPlc], by simp, sliceIs_nil _, sliceIs_nil _, sliceIs_nil _⟩
  | 2, _ => exact ⟨.slice none 0 0, .slice none 0 0, .slice none 0 0, by simp, by simp, by simp [noPlc], by simp, sliceIs_nil _, sliceIs_nil _, sliceIs_nil _⟩
  | 3, _ => exact ⟨.slice none 0 0, .slice none 0 0, .slice none 0 0, by simp, by simp, by simp [noPlc], by simp, sliceIs_nil _, sliceIs_nil _, sliceIs_nil _⟩
  | 4, _ => exact ⟨.slice none 0 0, .slice none 0 0, .slice none 0 0, by simp, by simp, by simp [noPlc], by simp, sliceIs_nil _, sliceIs_nil _, sliceIs_nil _⟩
  | 5, _ => exact ⟨.slice none 0 0, .slice none 0 0, .slice none 0 0, by simp, by simp, by simp [noPlc], by simp, sliceIs_nil _, sliceIs_nil _, sliceIs_nil _⟩
  | 6, _ => exact ⟨.slice none 0 0, .slice none 0 0, .slice none 0 0, by simp, by simp, by simp [noPlc], by simp, sliceIs_nil _, sliceIs_nil _, sliceIs_nil _⟩
  | 7, _ => exact ⟨.slice none 0 0, .slice none 0 0, .slice none 0 0, by simp, by simp, by simp [noPlc], by simp, sliceIs_nil _, sliceIs_nil _, sliceIs_nil _⟩
  | 8, _ => exact ⟨.slice none 0 0, .slice none 0 0, .slice none 0 0, by simp, by simp, by simp [noPlc], by simp, sliceIs_nil _, sliceIs_nil _, sliceIs_nil _⟩
  | 9, _ => exact ⟨.slice none 0 0, .slice none 0 0, .slice none 0 0, by simp, by simp, by simp [noPlc], by simp, sliceIs_nil _, sliceIs_nil _, sliceIs_nil _⟩
  | 10, _ => exact ⟨.slice none 0 0, .slice none 0 0, .slice none 0 0, by simp, by simp, by simp [noPlc], by simp, sliceIs_nil _, sliceIs_nil _, sliceIs_nil _⟩
/-- make([]api.Write, 11). -/
theorem make_wr (W : World) : (Instr.makeSlice 50 (.int .i64 11) (.int .i64 11)).run Tryd.prog W = .ok (.slice (some ⟨W.heap.size, 0, none⟩) 11 11) (W.alloc (.cells noWrites 29)) := by
  obtain ⟨i0, hi, hz0, hz1, hz2⟩ := info_parts infoWr
  have h := run_make (P := Tryd.prog) W 50 29 i0 _ Tryd.underlying50 hi hz0 .i64 .i64 11 11 (by omega) (Int.le_refl _) (by rw [hz2]; decide) (by decide)
  rw [hz1] at h
  have e : madeCells (Value.agg #[Value.slice none 0 0, Value.slice none 0 0, Value.bool false, Value.slice none 0 0]).cells (Int.toNat 11 * 4) = noWrites := by kernel_rfl
  rw [e] at h
  exact h
/-- Writes that are handed over, by their cells. -/
theorem WritesIs.parts {w : World} {a : Option Addr} {n cap : Nat} {m : List Plc} (h : WritesIs w (.slice a n cap) m) : n = m.length ∧ ∃ us : List WV, us.map (·.1) = m ∧ (∀ x ∈ us, SliceIs w x.2.1 x.1.name ∧ SliceIs w x.2.2.1 x.1.key ∧ SliceIs w x.2.2.2 x.1.value) ∧ ((a = none ∧ m = [] ∧ cap = 0) ∨ ∃ ad, a = some ad ∧ ∀ j u, (flatW us)[j]? = some u → w.cell? (ad.add j) = some u) := by
  obtain ⟨a', cap', e, hc, h⟩ := h
  simp only [Value.slice.injEq] at e
  obtain ⟨rfl, rfl, rfl⟩ := e
  refine ⟨rfl, ?_⟩
  rcases h with ⟨rfl, h⟩ | ⟨b, o, rfl, h⟩
  · refine ⟨[], rfl, by simp, ?_⟩
    cases a with
    | none => exact .inl ⟨rfl, rfl, h rfl⟩
    | some ad => exact .inr ⟨ad, rfl, fun j u hj => by simp [flatW] at hj⟩
  · have each : ∀ i : Nat, ∃ q : WV, i < m.length → q.1 = m.getD i noPlc ∧ w.cell? ⟨b, o + i * 4, none⟩ = some q.2.1 ∧ w.cell? ⟨b, o + i * 4 + 1, none⟩ = some q.2.2.1 ∧ w.cell? ⟨b, o + i * 4 + 2, none⟩ = some (.bool q.1.gone) ∧ w.cell? ⟨b, o + i * 4 + 3, none⟩ = some q.2.2.2 ∧ SliceIs w q.2.1 q.1.name ∧ SliceIs w q.2.2.1 q.1.key ∧ SliceIs w q.2.2.2 q.1.value := by
      intro i
      by_cases hi : i < m.length
      · obtain ⟨vn, vk, vv, c1, c2, c3, c4, s1, s2, s3⟩ := h i hi
        exact ⟨(m.getD i noPlc, vn, vk, vv), fun _ => ⟨rfl, c1, c2, c3, c4, s1, s2, s3⟩⟩
      · exact ⟨noWV, fun h => absurd h hi⟩
    obtain ⟨q, hq'⟩ : ∃ q : Nat → WV, ∀ i, i < m.length → (q i).1 = m.getD i noPlc ∧ w.cell? ⟨b, o + i * 4, none⟩ = some (q i).2.1 ∧ w.cell? ⟨b, o + i * 4 + 1, none⟩ = some (q i).2.2.1 ∧ w.cell? ⟨b, o + i * 4 + 2, none⟩ = some (.bool (q i).1.gone) ∧ w.cell? ⟨b, o + i * 4 + 3, none⟩ = some (q i).2.2.2 ∧ SliceIs w (q i).2.1 (q i).1.name ∧ SliceIs w (q i).2.2.1 (q i).1.key ∧ SliceIs w (q i).2.2.2 (q i).1.value := ⟨fun i => Classical.choose (each i), fun i hi => Classical.choose_spec (each i) hi⟩
    refine ⟨(List.range m.length).map q, ?_, fun x hx => ?_, .inr ⟨_, rfl, fun j u hj => ?_⟩⟩
    · apply List.ext_getElem
      · simp
      · intro i h1 h2
        simp only [List.getElem_map, List.getElem_range]
        rw [(hq' i h2).1]; simp [h2]
    · obtain ⟨i, hi, rfl⟩ := List.mem_map.1 hx
      have := hq' i (List.mem_range.1 hi)
      exact ⟨this.2.2.2.2.2.1, this.2.2.2.2.2.2.1, this.2.2.2.2.2.2.2⟩
    · have hlt : j < m.length * 4 := by
        have := (List.getElem?_eq_some_iff.1 hj).1
        rw [flatW_len] at this
        simpa using this
      obtain ⟨i, k, rfl, hk⟩ : ∃ i k, j = i * 4 + k ∧ k < 4 := ⟨j / 4, j % 4, by omega, by omega⟩
      have hi : i < m.length := by omega
      have hg := flatW_get ((List.range m.length).map q) i (by simpa using hi)
      have he : ((List.range m.length).map q).getD i noWV = q i := by simp [hi]
      rw [he] at hg
      obtain ⟨_, c1, c2, c3, c4, _⟩ := hq' i hi
      rw [addr_add]
      match k, hk with
      | 0, _ => rw [Nat.add_zero] at hj ⊢; rw [hg.1] at hj; cases hj; exact c1
      | 1, _ => rw [hg.2.1] at hj; cases hj; exact c2
      | 2, _ => rw [hg.2.2.1] at hj; cases hj; exact c3
      | 3, _ => rw [hg.2.2.2] at hj; cases hj; exact c4
/-- append(v, x..) of writes that were handed over. -/
theorem wpList_append_wrs {w : World} {ops : Array Oper} {rest : List Oper} {o : Oper} {a : Act} {Q : Exit → Act → World → Prop} (hgd : o.guard = none) (s x : Operand)
    (ho : o.op = .call { callee := .builtin .append, args := #[s, x], argTypes := #[50, 50] }) (base : Nat) (v : Value) (l : List Plc) (hs : a.eval s = v) (hown : OwnW base w v l)
    (w0 : World) (hg0 : w0.grownBy w none) (hb0 : w0.heap.size ≤ base) (xa : Option Addr) (n cap : Nat) (m : List Plc) (hx : a.eval x = .slice xa n cap) (hsrc : WritesIs w0 (.slice xa n cap) m) (hl : (l.length + m.length) * 80 ≤ 140737488355328) (hbase : base ≤ w.heap.size)
    (h : ∀ v' w', OwnW base w' v' (l ++ m) → w.grownBy w' v.ownBlock → wpList Tryd.prog ops Q rest (a.put o.dst v') w') : wpList Tryd.prog ops Q (o :: rest) a w := by
  obtain ⟨rfl, us, hul, hu, hc⟩ := hsrc.parts
  obtain ⟨i0, hi, hz0, hz1, hz2⟩ := info_parts infoWr
  have hlen : us.length = m.length := by rw [← hul]; simp
  rcases hc with ⟨rfl, rfl, rfl⟩ | ⟨ad, rfl, hc⟩
  · rw [List.append_nil] at h
    have hown' := hown
    obtain ⟨vs, hvl, hr, hp⟩ := hown
    have hrun := run_append_owned_none (P := Tryd.prog) (w := w) base 50 o.type 29 i0 4 Tryd.underlying50 hi v l.length (flatW vs) hr
    refine wpList_plain hgd fun K hK => ?_
    unfold Oper.wp
    simp [execOp, ho, resolve, invoke, builtin, hs, hx, Result.andThen] at hrun ⊢
    rw [hrun]
    exact hK _ _ (h v w hown' (grown_refl _ _))
  · have hrow := hown.row
    obtain ⟨vs, hvl, hr, hp⟩ := hown
    refine wpList_append_own _ hgd s x 50 ho base 29 i0 (.agg #[.slice none 0 0, .slice none 0 0, .bool false, .slice none 0 0]) 4 80 Tryd.underlying50 hi hz0 hz1 hz2 rfl (by decide) v l.length (flatW vs) hs hr ad m.length cap (flatW us) hx (by rw [flatW_len, hlen]) (fun j u hj => hg0.cell (hc j u hj) (by simp)) ?_ (by unfold maxLen; omega) hl hbase ?_
    · intro u hu'
      obtain ⟨p, hp1, hp2⟩ := List.mem_flatMap.1 hu'
      have := hu p hp1
      simp only [List.mem_cons, List.not_mem_nil, or_false] at hp2
      rcases hp2 with rfl | rfl | rfl | rfl
      · exact part_oneCell (this.1.part hg0 base hb0)
      · exact part_oneCell (this.2.1.part hg0 base hb0)
      · rfl
      · exact part_oneCell (this.2.2.part hg0 base hb0)
    · intro v' w' h1 h2 _
      refine h v' w' ⟨vs ++ us, by simp [hvl, hul], ?_, ?_⟩ h2
      · rw [flatW_append, List.length_append]; exact h1
      · intro y hy
        rcases List.mem_append.1 hy with hy | hy
        · exact ⟨(hp y hy).1.keptT h2 hrow, (hp y hy).2.1.keptT h2 hrow, (hp y hy).2.2.keptT h2 hrow⟩
        · have := hu y hy
          exact ⟨(this.1.part hg0 base hb0).keptT h2 hrow, (this.2.1.part hg0 base hb0).keptT h2 hrow, (this.2.2.part hg0 base hb0).keptT h2 hrow⟩
end Go.Proofs.YtkkcjnhfbblgiacDoor
