/-
  A list of pairs of names and digests: the names as they came in, the digests in blocks of bytes.
-/
import Derived.Test.YtljdconhplgipabDoorPairMem
import Derived.Test.YtljdconhplgipabDoorPart2
import Derived.Deep.AppendLies
namespace Go.Proofs.YtljdconhplgipabDoor
open Go.RowKit
/-- A block of bytes; a block of something else. -/
def BlkBR (w : World) (b : Nat) : Prop := ∃ cur t fz, w.heap[b]? = some (.cells cur t fz) ∧ (t = 5 ∨ ∃ q, cur[0]? = some (.int .u8 q))
def NotBR (w : World) (b : Nat) : Prop := ∃ cur t fz, w.heap[b]? = some (.cells cur t fz) ∧ t ≠ 5 ∧ ∀ q, cur[0]? ≠ some (.int .u8 q)
theorem BlkBR.ne {w : World} {a b : Nat} (h : BlkBR w a) (h' : NotBR w b) : a ≠ b := by
  rintro rfl
  obtain ⟨cur, t, fz, h1, h2⟩ := h
  obtain ⟨cur', t', fz', h3, h4, h5⟩ := h'
  rw [h1] at h3
  simp only [Option.some.injEq, Obj.cells.injEq] at h3
  obtain ⟨rfl, rfl, _⟩ := h3
  rcases h2 with h2 | ⟨q, h2⟩
  · exact h4 h2
  · exact h5 q h2
theorem NotBR.grown {w w' : World} {b : Nat} (h : NotBR w b) (hg : w.grownBy w' none) : NotBR w' b := by
  obtain ⟨cur, t, fz, h1, h2⟩ := h
  exact ⟨cur, t, fz, by rw [hg.block b (Array.getElem?_eq_some_iff.1 h1).1 (by simp)]; exact h1, h2⟩
/-- Bytes in a block of bytes. -/
def PartSR (w : World) (v : Value) (bs : List UInt8) : Prop :=
  SliceIs w v bs ∧ (bs = [] ∨ ∃ b, v.ownBlock = some b ∧ b < w.heap.size ∧ BlkBR w b)
theorem partSR_nil (w : World) : PartSR w (.slice none 0 0) [] := ⟨sliceIs_nil _, .inl rfl⟩
theorem Own.partSR {base' : Nat} {w : World} {v : Value} {bs : List UInt8} (h : Own base' w v bs) : PartSR w v bs := by
  refine ⟨h.slice, ?_⟩
  rcases h.2 with ⟨rfl, h0⟩ | ⟨g, cap, cur, rfl, hb, hg, _⟩
  · exact .inl (List.eq_nil_of_length_eq_zero h0)
  · exact .inr ⟨g, rfl, (Array.getElem?_eq_some_iff.1 hg).1, cur, _, _, hg, .inl rfl⟩
theorem Bytes.partSR {w : World} {nb : Nat} {bs : List UInt8} (h : Bytes w nb bs) (hl : bs.length = 32) : PartSR w (.slice (some ⟨nb, 0, none⟩) 32 32) bs := by
  refine ⟨h.slice32 hl, .inr ⟨nb, rfl, cell_lt (h.cell 0 (by omega)), ?_⟩⟩
  have hc := h.cell 0 (by omega)
  obtain ⟨t, hb⟩ := h
  refine ⟨_, t, _, hb, .inr ⟨((bs.getD 0 0).toNat : Int), ?_⟩⟩
  · simpa [World.cell?, hb] using hc
theorem partSR_oneCell {w : World} {v : Value} {bs : List UInt8} (h : PartSR w v bs) : v.oneCell' = true := by
  obtain ⟨⟨a, cap, rfl, _⟩, _⟩ := h
  rfl
/-- The row of a list that holds no bytes. -/
def RowSR (w : World) (row : Option Nat) : Prop := row = none ∨ ∃ g, row = some g ∧ NotBR w g
/-- A block that holds no bytes turns: the bytes stay. -/
theorem PartSR.kept {w w' : World} {v : Value} {bs : List UInt8} (h : PartSR w v bs) {row : Option Nat} (hg : w.grownBy w' row) (hrow : RowSR w row) : PartSR w' v bs := by
  obtain ⟨hs, ho⟩ := h
  rcases ho with rfl | ⟨b, hb, hlt, hc⟩
  · obtain ⟨a, cap, rfl, hc, h⟩ := hs
    refine ⟨⟨a, cap, rfl, hc, ?_⟩, .inl rfl⟩
    rcases h with h | ⟨b, o, rfl, h⟩
    · exact .inl h
    · exact .inr ⟨b, o, rfl, fun i hi => by simp at hi⟩
  · have hne : some b ≠ row := by
      intro e
      rcases hrow with rfl | ⟨g, rfl, hg'⟩
      · cases e
      · cases e; exact hc.ne hg' rfl
    have hblk := hg.block b hlt hne
    refine ⟨?_, .inr ⟨b, hb, Nat.lt_of_lt_of_le hlt hg.size, ?_⟩⟩
    · obtain ⟨a, cap, rfl, hcp, h⟩ := hs
      refine ⟨a, cap, rfl, hcp, ?_⟩
      rcases h with h | ⟨b', o, rfl, h⟩
      · exact .inl h
      · refine .inr ⟨b', o, rfl, fun i hi => ?_⟩
        simp [Value.ownBlock] at hb
        subst hb
        exact hg.cell (h i hi) (by simpa using hne)
    · obtain ⟨cur, t, fz, hc, hc2⟩ := hc
      exact ⟨cur, t, fz, by rw [hblk]; exact hc, hc2⟩
theorem PartSR.grown {w w' : World} {v : Value} {bs : List UInt8} (h : PartSR w v bs) (hg : w.grownBy w' none) : PartSR w' v bs := h.kept hg (.inl rfl)
theorem pairT5 : (73 : Nat) ≠ 5 := by decide
/-- Pairs of the call's own, from block 'base' on: keys that came in, values in blocks of bytes. -/
def OwnR (base : Nat) (w : World) (v : Value) (l : PL) : Prop :=
  ∃ vs : List (Value × Value), vs.length = l.length ∧ w.ownsRow base 73 2 v l.length (flat vs) ∧ RowSR w v.ownBlock ∧ (∀ k, v.ownBlock = some k → ∃ cur fz, w.heap[k]? = some (.cells cur 73 fz)) ∧ ∀ i, i < l.length → PartIs base w (vs.getD i (undef, undef)).1 (l.getD i ([], [])).1 ∧ PartSR w (vs.getD i (undef, undef)).2 (l.getD i ([], [])).2
theorem ownR_nil (base : Nat) (w : World) : OwnR base w (.slice none 0 0) [] := ⟨[], rfl, World.ownsRow_nil _ _ _ _, .inl rfl, fun k hk => by simp [Value.ownBlock] at hk, fun i hi => by simp at hi⟩
theorem OwnR.lt {base : Nat} {w : World} {v : Value} {l : PL} (h : OwnR base w v l) : ∀ k, v.ownBlock = some k → base ≤ k ∧ k < w.heap.size := by
  obtain ⟨vs, _, h, _⟩ := h
  exact World.ownsRow.lt h
theorem OwnR.shape {base : Nat} {w : World} {v : Value} {l : PL} (h : OwnR base w v l) : ∃ a cap, v = .slice a l.length cap := by
  obtain ⟨vs, _, h, _⟩ := h
  rcases h.2 with ⟨rfl, h0⟩ | ⟨g, cap, cur, rfl, _⟩
  · exact ⟨none, 0, by rw [h0]⟩
  · exact ⟨_, cap, rfl⟩
theorem RowSR.grownN {w w' : World} {r : Option Nat} (h : RowSR w r) (hg : w.grownBy w' none) : RowSR w' r := by
  rcases h with h | ⟨g, h, h2⟩
  · exact .inl h
  · exact .inr ⟨g, h, h2.grown hg⟩
theorem OwnR.grownNone {base : Nat} {w w' : World} {v : Value} {l : PL} (h : OwnR base w v l) (hg : w.grownBy w' none) : OwnR base w' v l := by
  obtain ⟨vs, h1, h2, h3, h4, h5⟩ := h
  refine ⟨vs, h1, World.ownsRow.kept h2 hg ?_, h3.grownN hg, fun k hk => ?_, fun i hi => ⟨(h5 i hi).1.kept hg (.inl rfl), (h5 i hi).2.grown hg⟩⟩
  · cases hv : v.ownBlock with
    | none => exact .inl rfl
    | some k => exact .inr (by simp)
  · obtain ⟨cur, fz, hb⟩ := h4 k hk
    exact ⟨cur, fz, by rw [hg.block k (Array.getElem?_eq_some_iff.1 hb).1 (by simp)]; exact hb⟩
theorem OwnR.list {base : Nat} {w : World} {v : Value} {l : PL} (h : OwnR base w v l) : PairsIs w v l := by
  obtain ⟨vs, hl, hr, _, _, h3⟩ := h
  have hr' := hr
  rcases hr.2 with ⟨rfl, h0⟩ | ⟨g, cap, cur, rfl, hb, hg, hn, hm, hs, ht⟩
  · have : l = [] := List.eq_nil_of_length_eq_zero h0
    subst this
    exact pairsIs_nil w
  · refine ⟨_, cap, rfl, hn, .inr ⟨g, 0, rfl, fun i hi => ?_⟩⟩
    have hf := flat_get vs i (by omega)
    refine ⟨(vs.getD i (undef, undef)).1, (vs.getD i (undef, undef)).2, ?_, ?_, (h3 i hi).1.1, (h3 i hi).2.1⟩
    · have := OwnP.cells hr' _ _ hf.1
      rw [Nat.zero_add]; exact this
    · have := OwnP.cells hr' _ _ hf.2
      rw [Nat.zero_add]; exact this
theorem grown_ownR {base : Nat} {w W w1 : World} {v : Value} {l : PL} (h : w.grownBy W none) (ho : OwnR base W v l) (hb : w.heap.size ≤ base) (hg : W.grownBy w1 v.ownBlock) : w.grownBy w1 none :=
  ⟨hg.os.trans h.os, hg.tape.trans h.tape, hg.output.trans h.output, Nat.le_trans h.size hg.size, fun i hi hn => (hg.block i (Nat.lt_of_lt_of_le hi h.size) (fun e => by have := (ho.lt i e.symm).1; omega)).trans (h.block i hi hn)⟩
theorem wpList_append_root {w : World} {ops : Array Oper} {rest : List Oper} {o : Oper} {a : Act} {Q : Exit → Act → World → Prop} (hgd : o.guard = none) (s x : Operand)
    (ho : o.op = .call { callee := .builtin .append, args := #[s, x], argTypes := #[51, 51] }) (base : Nat) (v : Value) (l : PL) (hs : a.eval s = v) (hown : OwnR base w v l)
    (vk vv : Value) (p : Pr) (hk : PartIs base w vk p.1) (hv : PartSR w vv p.2) (nb : Nat) (hb : w.heap[nb]? = some (.cells #[vk, vv] 73))
    (hx : a.eval x = .slice (some ⟨nb, 0, none⟩) 1 1) (hl : (l.length + 1) * 48 ≤ 140737488355328) (hbase : base ≤ w.heap.size)
    (h : ∀ v' w', OwnR base w' v' (l ++ [p]) → w.grownBy w' v.ownBlock → wpList Tryd.prog ops Q rest (a.put o.dst v') w') : wpList Tryd.prog ops Q (o :: rest) a w := by
  obtain ⟨i0, hi, hz0, hz1, hz2⟩ := info_parts infoPair
  obtain ⟨vs, hvl, hr, hrow, hty, hp⟩ := hown
  have hrow5 : v.ownBlock = none ∨ ∃ g cur fz, v.ownBlock = some g ∧ base ≤ g ∧ w.heap[g]? = some (.cells cur 73 fz) := by
    cases hv' : v.ownBlock with
    | none => exact .inl rfl
    | some k =>
      obtain ⟨cur, fz, hb'⟩ := hty k hv'
      exact .inr ⟨k, cur, fz, rfl, (World.ownsRow.lt hr k hv').1, hb'⟩
  refine wpList_plain hgd fun K hK => ?_
  refine wp_append_lies w s x 51 ho base 73 i0 (.agg #[.slice none 0 0, .slice none 0 0]) 2 48 Tryd.underlying51 hi hz0 hz1 hz2 rfl (by decide) v l.length (flat vs) hs hr ⟨nb, 0, none⟩ 1 1 (flat [(vk, vv)]) hx rfl (World.news_of_block (cs := #[vk, vv]) hb) ?_ (by omega) (by unfold maxLen; omega) hl hbase _ rfl ?_
  · intro u hu
    simp only [flat, List.flatMap_cons, List.flatMap_nil, List.append_nil, List.mem_cons, List.not_mem_nil, or_false] at hu
    rcases hu with rfl | rfl
    · exact part_oneCell hk
    · exact partSR_oneCell hv
  · intro g cap w' h1 h2 _ _
    have hparts : ∀ i, i < (l ++ [p]).length → PartIs base w' ((vs ++ [(vk, vv)]).getD i (undef, undef)).1 ((l ++ [p]).getD i ([], [])).1 ∧ PartSR w' ((vs ++ [(vk, vv)]).getD i (undef, undef)).2 ((l ++ [p]).getD i ([], [])).2 := by
      intro i hi
      rw [getD_append, getD_append, hvl]
      by_cases hil : i < l.length
      · rw [if_pos hil, if_pos hil]
        exact ⟨(hp i hil).1.kept h2 hrow5, (hp i hil).2.kept h2 hrow⟩
      · rw [if_neg hil, if_neg hil]
        obtain rfl : i = l.length := by simp at hi; omega
        rw [Nat.sub_self]
        exact ⟨hk.kept h2 hrow5, hv.kept h2 hrow⟩
    have hblk : ∃ cur, w'.heap[g]? = some (.cells cur 73 (0, 0)) ∧ cur.toList.take ((l.length + 1) * 2) = flat vs ++ flat [(vk, vv)] := by
      rcases h1.2 with ⟨e, _⟩ | ⟨g', cap', cur, e, _, hg', _, _, _, ht⟩
      · cases e
      · simp only [Value.slice.injEq, Option.some.injEq, Addr.mk.injEq] at e
        obtain ⟨⟨rfl, _⟩, _, _⟩ := e
        exact ⟨cur, hg', ht⟩
    obtain ⟨cur, hcur, htk⟩ := hblk
    have hfirst : ∀ q, cur[0]? ≠ some (.int .u8 q) := by
      intro q hq
      have e0 := (flat_get (vs ++ [(vk, vv)]) 0 (by simp)).1
      rw [flat_append, ← htk, List.getElem?_take, if_pos (by omega)] at e0
      have hp0 := (hparts 0 (by simp)).1
      obtain ⟨a0, c0, e1⟩ := hp0.1.shape
      rw [e1] at e0
      have : cur.toList[0]? = cur[0]? := by simp
      rw [Nat.zero_mul, this, hq] at e0
      cases e0
    refine hK _ _ (h _ w' ⟨vs ++ [(vk, vv)], by simp [hvl], ?_, .inr ⟨g, rfl, cur, _, _, hcur, pairT5, hfirst⟩, fun k hk' => ?_, hparts⟩ h2)
    · rw [flat_append, List.length_append]; exact h1
    · simp [Value.ownBlock] at hk'
      subst hk'
      exact ⟨cur, _, hcur⟩
end Go.Proofs.YtljdconhplgipabDoor
