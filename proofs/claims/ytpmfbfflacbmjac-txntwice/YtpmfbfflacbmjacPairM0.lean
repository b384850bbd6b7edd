/-
  Lists of pairs in memory: as they are handed over, and as the call's own; no append.
-/
import Derived.Test.YtpmfbfflacbmjacBase
import Derived.Test.YtpmfbfflacbmjacPart1
import Derived.Maps.AppendAt
namespace Go.Proofs.Ytpmfbfflacbmjac
open Go.RowKit
theorem SliceIs.shape {w : World} {v : Value} {bs : List UInt8} (h : SliceIs w v bs) : ∃ a cap, v = .slice a bs.length cap := by
  obtain ⟨a, cap, rfl, _⟩ := h
  exact ⟨a, cap, rfl⟩
/-- A pair, as a value. -/
def PairIs (w : World) (v : Value) (p : Pr) : Prop := ∃ vk vv, v = .agg #[vk, vv] ∧ SliceIs w vk p.1 ∧ SliceIs w vv p.2
theorem PairIs.grown {w w' : World} {v : Value} {p : Pr} (h : PairIs w v p) (hg : w.grownBy w' none) : PairIs w' v p := by
  obtain ⟨vk, vv, rfl, h1, h2⟩ := h
  exact ⟨vk, vv, rfl, h1.grown hg, h2.grown hg⟩
/-- The pair that lies at a place. -/
def PairAt (w : World) (b o : Nat) (p : Pr) : Prop := ∃ vk vv, w.cell? ⟨b, o, none⟩ = some vk ∧ w.cell? ⟨b, o + 1, none⟩ = some vv ∧ SliceIs w vk p.1 ∧ SliceIs w vv p.2
theorem PairAt.grown {w w' : World} {b o : Nat} {p : Pr} (h : PairAt w b o p) (hg : w.grownBy w' none) : PairAt w' b o p := by
  obtain ⟨vk, vv, c1, c2, h1, h2⟩ := h
  exact ⟨vk, vv, hg.cell c1 (by simp), hg.cell c2 (by simp), h1.grown hg, h2.grown hg⟩
/-- A list of pairs, as it is handed over. -/
def PairsIs (w : World) (v : Value) (l : PL) : Prop :=
  ∃ a cap, v = .slice a l.length cap ∧ l.length ≤ cap ∧ ((l = [] ∧ (a = none → cap = 0)) ∨ ∃ b o, a = some ⟨b, o, none⟩ ∧ ∀ i, i < l.length → PairAt w b (o + i * 2) (l.getD i ([], [])))
theorem pairsIs_nil (w : World) : PairsIs w (.slice none 0 0) [] := ⟨none, 0, rfl, Nat.le_refl _, .inl ⟨rfl, fun _ => rfl⟩⟩
theorem PairsIs.grown {w w' : World} {v : Value} {l : PL} (h : PairsIs w v l) (hg : w.grownBy w' none) : PairsIs w' v l := by
  obtain ⟨a, cap, rfl, hc, h⟩ := h
  refine ⟨a, cap, rfl, hc, ?_⟩
  rcases h with h | ⟨b, o, rfl, h⟩
  · exact .inl h
  · exact .inr ⟨b, o, rfl, fun i hi => (h i hi).grown hg⟩
theorem PairsIs.shape {w : World} {v : Value} {l : PL} (h : PairsIs w v l) : ∃ a cap, v = .slice a l.length cap := by
  obtain ⟨a, cap, rfl, _⟩ := h
  exact ⟨a, cap, rfl⟩
theorem PairsIs.at {w : World} {a : Option Addr} {n cap : Nat} {l : PL} (h : PairsIs w (.slice a n cap) l) (i : Nat) (hi : i < l.length) : ∃ b o, a = some ⟨b, o, none⟩ ∧ PairAt w b (o + i * 2) (l.getD i ([], [])) := by
  obtain ⟨a', cap', e, hc, h⟩ := h
  simp only [Value.slice.injEq] at e
  obtain ⟨rfl, rfl, rfl⟩ := e
  rcases h with ⟨rfl, _⟩ | ⟨b, o, rfl, h⟩
  · simp at hi
  · exact ⟨b, o, rfl, h i hi⟩
/-- Bytes that a list of pairs of the call's own may hold: they lie ahead of it, or in a block of bytes. -/
def PartIs (base : Nat) (w : World) (v : Value) (bs : List UInt8) : Prop :=
  SliceIs w v bs ∧ (bs = [] ∨ ∃ b, v.ownBlock = some b ∧ b < w.heap.size ∧ (b < base ∨ ∃ cur fz, w.heap[b]? = some (.cells cur 5 fz)))
theorem PartIs.slice {base : Nat} {w : World} {v : Value} {bs : List UInt8} (h : PartIs base w v bs) : SliceIs w v bs := h.1
theorem Own.part {base base' : Nat} {w : World} {v : Value} {bs : List UInt8} (h : Own base' w v bs) : PartIs base w v bs := by
  refine ⟨h.slice, ?_⟩
  rcases h.2 with ⟨rfl, h0⟩ | ⟨g, cap, cur, rfl, hb, hg, _⟩
  · exact .inl (List.eq_nil_of_length_eq_zero h0)
  · exact .inr ⟨g, rfl, (Array.getElem?_eq_some_iff.1 hg).1, .inr ⟨cur, _, hg⟩⟩
theorem cell_lt {w : World} {b o : Nat} {v : Value} (h : w.cell? ⟨b, o, none⟩ = some v) : b < w.heap.size := by
  by_cases hb : b < w.heap.size
  · exact hb
  · simp [World.cell?, Array.getElem?_eq_none (Nat.le_of_not_lt hb)] at h
theorem SliceIs.part {w w' : World} {v : Value} {bs : List UInt8} (h : SliceIs w v bs) (hg : w.grownBy w' none) (base : Nat) (hb : w.heap.size ≤ base) : PartIs base w' v bs := by
  refine ⟨h.grown hg, ?_⟩
  obtain ⟨a, cap, rfl, hc, h⟩ := h
  rcases h with ⟨rfl, _⟩ | ⟨b, o, rfl, h⟩
  · exact .inl rfl
  · by_cases h0 : bs = []
    · exact .inl h0
    · have hl : 0 < bs.length := List.length_pos_iff.2 h0
      have := cell_lt (h 0 hl)
      exact .inr ⟨b, rfl, Nat.lt_of_lt_of_le this hg.size, .inl (by omega)⟩
theorem PartIs.mono {base base' : Nat} {w : World} {v : Value} {bs : List UInt8} (h : PartIs base w v bs) (hb : base ≤ base') : PartIs base' w v bs := by
  refine ⟨h.1, ?_⟩
  rcases h.2 with h | ⟨b, h1, h2, h3⟩
  · exact .inl h
  · refine .inr ⟨b, h1, h2, ?_⟩
    rcases h3 with h3 | h3
    · exact .inl (by omega)
    · exact .inr h3
/-- A block of pairs of the call's own turns: the bytes stay. -/
theorem PartIs.kept {base : Nat} {w w' : World} {v : Value} {bs : List UInt8} (h : PartIs base w v bs) {row : Option Nat} (hg : w.grownBy w' row) (hrow : row = none ∨ ∃ g cur fz, row = some g ∧ base ≤ g ∧ w.heap[g]? = some (.cells cur 80 fz)) : PartIs base w' v bs := by
  obtain ⟨hs, ho⟩ := h
  rcases ho with rfl | ⟨b, hb, hlt, hc⟩
  · obtain ⟨a, cap, rfl, hc, h⟩ := hs
    refine ⟨⟨a, cap, rfl, hc, ?_⟩, .inl rfl⟩
    rcases h with h | ⟨b, o, rfl, h⟩
    · exact .inl h
    · exact .inr ⟨b, o, rfl, fun i hi => by simp at hi⟩
  · have hne : some b ≠ row := by
      intro e
      rcases hrow with rfl | ⟨g, cur, fz, rfl, hbg, hgc⟩
      · cases e
      · cases e
        rcases hc with hc | ⟨cur2, fz2, hc⟩
        · omega
        · rw [hc] at hgc; simp at hgc
    have hblk := hg.block b hlt hne
    refine ⟨?_, .inr ⟨b, hb, Nat.lt_of_lt_of_le hlt hg.size, ?_⟩⟩
    · obtain ⟨a, cap, rfl, hcp, h⟩ := hs
      refine ⟨a, cap, rfl, hcp, ?_⟩
      rcases h with h | ⟨b', o, rfl, h⟩
      · exact .inl h
      · refine .inr ⟨b', o, rfl, fun i hi => ?_⟩
        simp [Value.ownBlock] at hb
        subst hb
        exact hg.cell (h i hi) (by simpa using hne)
    · rcases hc with hc | ⟨cur, fz, hc⟩
      · exact .inl hc
      · exact .inr ⟨cur, fz, by rw [hblk]; exact hc⟩
/-- The cells of pairs. -/
def flat (vs : List (Value × Value)) : List Value := vs.flatMap fun x => [x.1, x.2]
theorem flat_len (vs : List (Value × Value)) : (flat vs).length = vs.length * 2 := by
  induction vs with
  | nil => rfl
  | cons x r ih => simp only [flat, List.flatMap_cons, List.length_append, List.length_cons, List.length_nil] at ih ⊢; omega
theorem flat_append (a b : List (Value × Value)) : flat (a ++ b) = flat a ++ flat b := by simp [flat]
theorem flat_get : ∀ (vs : List (Value × Value)) (i : Nat), i < vs.length → (flat vs)[i * 2]? = some (vs.getD i (undef, undef)).1 ∧ (flat vs)[i * 2 + 1]? = some (vs.getD i (undef, undef)).2
  | [], i, h => by simp at h
  | x :: r, 0, _ => by simp [flat]
  | x :: r, i + 1, h => by
    have := flat_get r i (by simpa using h)
    rw [show (i + 1) * 2 = i * 2 + 2 by omega, show i * 2 + 2 + 1 = (i * 2 + 1) + 2 by omega]
    simpa [flat] using this
/-- The list v of pairs is the call's own, from block 'base' on. -/
def OwnP (base : Nat) (w : World) (v : Value) (l : PL) : Prop :=
  ∃ vs : List (Value × Value), vs.length = l.length ∧ w.ownsRow base 80 2 v l.length (flat vs) ∧ ∀ i, i < l.length → PartIs base w (vs.getD i (undef, undef)).1 (l.getD i ([], [])).1 ∧ PartIs base w (vs.getD i (undef, undef)).2 (l.getD i ([], [])).2
theorem ownP_nil (base : Nat) (w : World) : OwnP base w (.slice none 0 0) [] := ⟨[], rfl, World.ownsRow_nil _ _ _ _, fun i hi => by simp at hi⟩
theorem OwnP.row {base : Nat} {w : World} {v : Value} {l : PL} (h : OwnP base w v l) : v.ownBlock = none ∨ ∃ g cur fz, v.ownBlock = some g ∧ base ≤ g ∧ w.heap[g]? = some (.cells cur 80 fz) := by
  obtain ⟨vs, _, h, _⟩ := h
  rcases h.2 with ⟨rfl, _⟩ | ⟨g, cap, cur, rfl, hb, hg, _⟩
  · exact .inl rfl
  · exact .inr ⟨g, cur, _, rfl, hb, hg⟩
theorem OwnP.lt {base : Nat} {w : World} {v : Value} {l : PL} (h : OwnP base w v l) : ∀ k, v.ownBlock = some k → base ≤ k ∧ k < w.heap.size := by
  obtain ⟨vs, _, h, _⟩ := h
  exact World.ownsRow.lt h
theorem OwnP.grownNone {base : Nat} {w w' : World} {v : Value} {l : PL} (h : OwnP base w v l) (hg : w.grownBy w' none) : OwnP base w' v l := by
  obtain ⟨vs, h1, h2, h3⟩ := h
  refine ⟨vs, h1, World.ownsRow.kept h2 hg ?_, fun i hi => ⟨((h3 i hi).1).kept hg (.inl rfl), ((h3 i hi).2).kept hg (.inl rfl)⟩⟩
  cases hv : v.ownBlock with
  | none => exact .inl rfl
  | some k => exact .inr (by simp)
theorem OwnP.alloc {base : Nat} {w : World} {v : Value} {l : PL} (h : OwnP base w v l) (o : Obj) : OwnP base (w.alloc o) v l := h.grownNone (World.grownBy_alloc _ _ _)
theorem OwnP.drew {base : Nat} {w : World} {v : Value} {l : PL} (h : OwnP base w v l) : OwnP base w.drew v l := h.grownNone (grown_drew (grown_refl _ _))
theorem OwnP.shape {base : Nat} {w : World} {v : Value} {l : PL} (h : OwnP base w v l) : ∃ a cap, v = .slice a l.length cap := by
  obtain ⟨vs, _, h, _⟩ := h
  rcases h.2 with ⟨rfl, h0⟩ | ⟨g, cap, cur, rfl, _⟩
  · exact ⟨none, 0, by rw [h0]⟩
  · exact ⟨_, cap, rfl⟩
theorem OwnP.list {base : Nat} {w : World} {v : Value} {l : PL} (h : OwnP base w v l) : PairsIs w v l := by
  obtain ⟨vs, hl, ⟨h1, h2⟩, h3⟩ := h
  rcases h2 with ⟨rfl, h0⟩ | ⟨g, cap, cur, rfl, hb, hg, hn, hm, hs, ht⟩
  · have : l = [] := List.eq_nil_of_length_eq_zero h0
    subst this
    exact pairsIs_nil w
  · refine ⟨_, cap, rfl, hn, .inr ⟨g, 0, rfl, fun i hi => ⟨(vs.getD i (undef, undef)).1, (vs.getD i (undef, undef)).2, ?_, ?_, (h3 i hi).1.1, (h3 i hi).2.1⟩⟩⟩
    · have hc : cur.toList[i * 2]? = some (vs.getD i (undef, undef)).1 := by
        have e : (cur.toList.take (l.length * 2))[i * 2]? = (flat vs)[i * 2]? := by rw [ht]
        rw [List.getElem?_take, if_pos (by omega)] at e
        rw [e, (flat_get vs i (by omega)).1]
      simp [World.cell?, hg]
      simpa using hc
    · have hc : cur.toList[i * 2 + 1]? = some (vs.getD i (undef, undef)).2 := by
        have e : (cur.toList.take (l.length * 2))[i * 2 + 1]? = (flat vs)[i * 2 + 1]? := by rw [ht]
        rw [List.getElem?_take, if_pos (by omega)] at e
        rw [e, (flat_get vs i (by omega)).2]
      simp [World.cell?, hg]
      simpa using hc
/-- Behind an append onto pairs that are the call's own nothing older has turned. -/
theorem grown_ownP {w W w1 : World} {v : Value} {l : PL} (h : w.grownBy W none) (ho : OwnP w.heap.size W v l) (hg : W.grownBy w1 v.ownBlock) : w.grownBy w1 none :=
  ⟨hg.os.trans h.os, hg.tape.trans h.tape, hg.output.trans h.output, Nat.le_trans h.size hg.size, fun i hi hn => (hg.block i (Nat.lt_of_lt_of_le hi h.size) (fun e => by have := (ho.lt i e.symm).1; omega)).trans (h.block i hi hn)⟩
/-- What stands ahead of it stays. -/
theorem grown_ownP' {base : Nat} {w W w1 : World} {v : Value} {l : PL} (h : w.grownBy W none) (ho : OwnP base W v l) (hb : w.heap.size ≤ base) (hg : W.grownBy w1 v.ownBlock) : w.grownBy w1 none :=
  ⟨hg.os.trans h.os, hg.tape.trans h.tape, hg.output.trans h.output, Nat.le_trans h.size hg.size, fun i hi hn => (hg.block i (Nat.lt_of_lt_of_le hi h.size) (fun e => by have := (ho.lt i e.symm).1; omega)).trans (h.block i hi hn)⟩
theorem infoPair : (Try.prog.info? 80).map (fun i => (i.zero, i.size, i.bytes)) = some (some (.agg #[.slice none 0 0, .slice none 0 0]), 2, 48) := by kernel_rfl
theorem part_oneCell {base : Nat} {w : World} {v : Value} {bs : List UInt8} (h : PartIs base w v bs) : v.oneCell' = true := by
  obtain ⟨⟨a, cap, rfl, _⟩, _⟩ := h
  rfl
theorem getD_append {α : Type} (a b : List α) (i : Nat) (d : α) : (a ++ b).getD i d = if i < a.length then a.getD i d else b.getD (i - a.length) d := by
  by_cases h : i < a.length
  · rw [if_pos h]; simp [List.getElem?_append, h]
  · rw [if_neg h]; simp [List.getElem?_append, h]
/-- Pairs that may be put into a list of the call's own. -/
def PartsIs (base : Nat) (w : World) (v : Value) (m : PL) : Prop :=
  ∃ (us : List (Value × Value)) (a : Option Addr) (cap : Nat), v = .slice a m.length cap ∧ us.length = m.length ∧ (∀ i, i < m.length → PartIs base w (us.getD i (undef, undef)).1 (m.getD i ([], [])).1 ∧ PartIs base w (us.getD i (undef, undef)).2 (m.getD i ([], [])).2) ∧
    ((a = none ∧ m = [] ∧ cap = 0) ∨ ∃ ad, a = some ad ∧ ∀ j u, (flat us)[j]? = some u → w.cell? (ad.add j) = some u)
theorem flat_take (vs : List (Value × Value)) (k : Nat) : flat (vs.take k) = (flat vs).take (k * 2) := by
  induction vs generalizing k with
  | nil => simp [flat]
  | cons x r ih =>
    cases k with
    | zero => simp [flat]
    | succ k =>
      rw [List.take_succ_cons, show (k + 1) * 2 = k * 2 + 2 by omega]
      have := ih k
      simp only [flat, List.flatMap_cons, List.cons_append, List.nil_append, List.take_succ_cons] at this ⊢
      rw [this]
theorem flat_drop (vs : List (Value × Value)) (k : Nat) : flat (vs.drop k) = (flat vs).drop (k * 2) := by
  induction vs generalizing k with
  | nil => simp [flat]
  | cons x r ih =>
    cases k with
    | zero => simp [flat]
    | succ k =>
      rw [List.drop_succ_cons, show (k + 1) * 2 = k * 2 + 2 by omega]
      have := ih k
      simp only [flat, List.flatMap_cons, List.cons_append, List.nil_append, List.drop_succ_cons] at this ⊢
      rw [this]
theorem OwnP.cells {base : Nat} {w : World} {g n cap : Nat} {vs : List (Value × Value)} {l : PL} (hr : w.ownsRow base 80 2 (.slice (some ⟨g, 0, none⟩) n cap) l.length (flat vs)) : ∀ j u, (flat vs)[j]? = some u → w.cell? ⟨g, j, none⟩ = some u := by
  intro j u hj
  rcases hr.2 with ⟨e, _⟩ | ⟨g', cap', cur, e, hb, hg, hn, hm, hs, ht⟩
  · cases e
  · simp only [Value.slice.injEq, Option.some.injEq, Addr.mk.injEq] at e
    obtain ⟨⟨rfl, _⟩, _, _⟩ := e
    have hlt : j < l.length * 2 := by
      have := (List.getElem?_eq_some_iff.1 hj).1
      rw [hr.1] at this
      exact this
    have e2 : (cur.toList.take (l.length * 2))[j]? = (flat vs)[j]? := by rw [ht]
    rw [List.getElem?_take, if_pos hlt, hj] at e2
    simp [World.cell?, hg]
    simpa using e2
/-- A beginning of a list of the call's own. -/
theorem OwnP.takes {base : Nat} {w : World} {a : Option Addr} {n cap : Nat} {l : PL} (h : OwnP base w (.slice a n cap) l) (k : Nat) (hk : k ≤ l.length) : PartsIs base w (.slice a k cap) (l.take k) := by
  obtain ⟨vs, hvl, hr, hp⟩ := h
  have hlk : (l.take k).length = k := by simp; omega
  refine ⟨vs.take k, a, cap, by rw [hlk], by simp [hvl], ?_, ?_⟩
  · intro i hi
    rw [hlk] at hi
    have := hp i (by omega)
    simpa [hi, show i < vs.length by omega, show i < l.length by omega] using this
  · rcases hr.2 with ⟨e, h0⟩ | ⟨g, cap', cur, e, hrest⟩
    · simp only [Value.slice.injEq] at e
      obtain ⟨rfl, _, rfl⟩ := e
      exact .inl ⟨rfl, by rw [List.eq_nil_of_length_eq_zero h0]; simp, rfl⟩
    · simp only [Value.slice.injEq] at e
      obtain ⟨rfl, rfl, rfl⟩ := e
      refine .inr ⟨_, rfl, fun j u hj => ?_⟩
      rw [flat_take, List.getElem?_take] at hj
      by_cases hjk : j < k * 2
      · rw [if_pos hjk] at hj
        rw [addr_add, Nat.zero_add]
        exact OwnP.cells hr j u hj
      · rw [if_neg hjk] at hj; cases hj
/-- An end of a list of the call's own. -/
theorem OwnP.drops {base : Nat} {w : World} {g n cap : Nat} {l : PL} (h : OwnP base w (.slice (some ⟨g, 0, none⟩) n cap) l) (k : Nat) (hk : k ≤ l.length) (o c : Nat) (ho : o = k * 2) : PartsIs base w (.slice (some ⟨g, o, none⟩) (l.length - k) c) (l.drop k) := by
  subst ho
  obtain ⟨vs, hvl, hr, hp⟩ := h
  refine ⟨vs.drop k, some ⟨g, k * 2, none⟩, c, by simp, by simp [hvl], ?_, .inr ⟨⟨g, k * 2, none⟩, rfl, fun j u hj => ?_⟩⟩
  · intro i hi
    have hi' : i < l.length - k := by simpa using hi
    have := hp (k + i) (by omega)
    simpa using this
  · rw [flat_drop, List.getElem?_drop] at hj
    rw [addr_add]
    exact OwnP.cells hr _ u hj
theorem flat_set : ∀ (vs : List (Value × Value)) (i : Nat) (x : Value × Value), flat (vs.set i x) = ((flat vs).set (i * 2) x.1).set (i * 2 + 1) x.2
  | [], i, x => by simp [flat]
  | y :: r, 0, x => by simp [flat]
  | y :: r, i + 1, x => by
    have := flat_set r i x
    rw [show (i + 1) * 2 = i * 2 + 2 by omega, show i * 2 + 2 + 1 = (i * 2 + 1) + 2 by omega]
    simp only [List.set_cons_succ, flat, List.flatMap_cons, List.cons_append, List.nil_append] at this ⊢
    rw [this]
/-- A pair of a list of the call's own is written anew. -/
theorem OwnP.set {base : Nat} {w : World} {g n cap : Nat} {l : PL} (h : OwnP base w (.slice (some ⟨g, 0, none⟩) n cap) l) (i : Nat) (hi : i < l.length) (vk vv : Value) (p : Pr) (hk : PartIs base w vk p.1) (hv : PartIs base w vv p.2) :
    OwnP base ((w.setCell ⟨g, i * 2, none⟩ vk).setCell ⟨g, i * 2 + 1, none⟩ vv) (.slice (some ⟨g, 0, none⟩) n cap) (l.set i p) := by
  have hrow := h.row
  obtain ⟨vs, hvl, hr, hp⟩ := h
  have hgr : w.grownBy ((w.setCell ⟨g, i * 2, none⟩ vk).setCell ⟨g, i * 2 + 1, none⟩ vv) (some g) := grown_set (grown_set (grown_refl _ _) _ _) _ _
  have hkept : (some g : Option Nat) = none ∨ ∃ g' cur fz, (some g : Option Nat) = some g' ∧ base ≤ g' ∧ w.heap[g']? = some (.cells cur 80 fz) := hrow
  refine ⟨vs.set i (vk, vv), by simp [hvl], ?_, ?_⟩
  · refine ⟨by rw [flat_len]; simp [hvl], ?_⟩
    rcases hr.2 with ⟨e, _⟩ | ⟨g', cap', cur, e, hb, hg, hn, hm, hs, ht⟩
    · cases e
    · simp only [Value.slice.injEq, Option.some.injEq, Addr.mk.injEq] at e
      obtain ⟨⟨rfl, _⟩, rfl, rfl⟩ := e
      refine .inr ⟨g, cap, (cur.setIfInBounds (i * 2) vk).setIfInBounds (i * 2 + 1) vv, by simp, hb, ?_, by simpa using hn, hm, by simpa using hs, ?_⟩
      · simp only [World.setCell, Array.getElem?_modify, if_true, hg, Option.map_some]
        first | rfl | simp
      · rw [flat_set]
        simp only [Array.toList_setIfInBounds, List.length_set]
        rw [List.take_set, List.take_set, ht]
  · intro j hj
    rw [List.length_set] at hj
    by_cases e : j = i
    · subst e
      have e1 : (vs.set j (vk, vv)).getD j (undef, undef) = (vk, vv) := by simp [show j < vs.length by omega]
      have e2 : (l.set j p).getD j ([], []) = p := by simp [hj]
      rw [e1, e2]
      exact ⟨hk.kept hgr hkept, hv.kept hgr hkept⟩
    · have e1 : (vs.set i (vk, vv)).getD j (undef, undef) = vs.getD j (undef, undef) := by simp [Ne.symm e]
      have e2 : (l.set i p).getD j ([], []) = l.getD j ([], []) := by simp [Ne.symm e]
      rw [e1, e2]
      exact ⟨(hp j hj).1.kept hgr hkept, (hp j hj).2.kept hgr hkept⟩
theorem Own.setOther {base : Nat} {w : World} {v : Value} {bs : List UInt8} (h : Own base w v bs) (c i : Nat) (x : Value) (hc : c < base) : Own base (w.setCell ⟨c, i, none⟩ x) v bs := by
  refine h.grown (row := some c) (grown_set (grown_refl _ _) i x) ?_
  cases hv : v.ownBlock with
  | none => exact .inl rfl
  | some k =>
    have := (h.lt k hv).1
    exact .inr (by simp; omega)
theorem pair_room {W w : World} {b : Nat} {x y : Value} {t : TypeId} (hg : W.grownBy w none) (h : W.heap[b]? = some (.cells #[x, y] t)) :
    w.cell? ⟨b, 0, none⟩ = some x ∧ w.cell? ⟨b, 1, none⟩ = some y ∧ w.frozen? ⟨b, 0, none⟩ = false ∧ w.frozen? ⟨b, 1, none⟩ = false := by
  have hb : w.heap[b]? = some (.cells #[x, y] t) := by rw [hg.block b (Array.getElem?_eq_some_iff.1 h).1 (by simp)]; exact h
  refine ⟨by simp [World.cell?, hb], by simp [World.cell?, hb], by simp [World.frozen?, hb], by simp [World.frozen?, hb]⟩
theorem pair_room_elim {W w : World} {b : Nat} {x y : Value} {t : TypeId} (hg : W.grownBy w none) (h : W.heap[b]? = some (.cells #[x, y] t)) {G : Prop}
    (k : w.heap[b]? = some (.cells #[x, y] t) → w.cell? ⟨b, 0, none⟩ = some x → w.cell? ⟨b, 1, none⟩ = some y → w.frozen? ⟨b, 0, none⟩ = false → w.frozen? ⟨b, 1, none⟩ = false → G) : G := by
  obtain ⟨h1, h2, h3, h4⟩ := pair_room hg h
  exact k (by rw [hg.block b (Array.getElem?_eq_some_iff.1 h).1 (by simp)]; exact h) h1 h2 h3 h4
theorem pair_set {W w : World} {b : Nat} {x y : Value} {t : TypeId} (hg : W.grownBy w none) (h : W.heap[b]? = some (.cells #[x, y] t)) (u v : Value) :
    (w.setCell ⟨b, 0, none⟩ u).cell? ⟨b, 0, none⟩ = some u ∧ ((w.setCell ⟨b, 0, none⟩ u).setCell ⟨b, 1, none⟩ v).cell? ⟨b, 1, none⟩ = some v := by
  have hb : w.heap[b]? = some (.cells #[x, y] t) := by rw [hg.block b (Array.getElem?_eq_some_iff.1 h).1 (by simp)]; exact h
  have c0 : w.cell? ⟨b, 0, none⟩ = some x := by simp [World.cell?, hb]
  have c1 : w.cell? ⟨b, 1, none⟩ = some y := by simp [World.cell?, hb]
  refine ⟨World.cell?_setCell_same' _ _ _ (by rw [c0]; rfl), World.cell?_setCell_same' _ _ _ ?_⟩
  rw [World.cell?_setCell_other _ _ _ _ (by simp), c1]
  rfl
theorem pair_old {W w : World} {b : Nat} {o : Obj} (hg : W.grownBy w none) (h : W.heap[b]? = some o) : w.heap[b]? = some o := by
  rw [hg.block b (Array.getElem?_eq_some_iff.1 h).1 (by simp)]; exact h
/-- A pair is stored into a place of its own. -/
theorem pair_stored {base : Nat} {W : World} {pb : Nat} {x y : Value} (h : W.heap[pb]? = some (.cells #[x, y] 80)) (hb : base ≤ pb) (u v : Value) :
    ((W.setCell ⟨pb, 0, none⟩ u).setCell ⟨pb, 1, none⟩ v).heap[pb]? = some (.cells #[u, v] 80) ∧ (∀ z bs, PartIs base W z bs → PartIs base ((W.setCell ⟨pb, 0, none⟩ u).setCell ⟨pb, 1, none⟩ v) z bs) ∧
    ∀ w0 : World, w0.heap.size ≤ pb → w0.grownBy W none → w0.grownBy ((W.setCell ⟨pb, 0, none⟩ u).setCell ⟨pb, 1, none⟩ v) none := by
  refine ⟨?_, fun z bs hz => ?_, fun w0 h0 hg => grown_setNew (grown_setNew hg _ h0 _ _) _ h0 _ _⟩
  · simp only [World.setCell, Array.getElem?_modify, if_true, h, Option.map_some]
    first | rfl | simp
  · exact hz.kept (grown_set (grown_set (grown_refl _ _) _ _) _ _) (.inr ⟨pb, _, _, rfl, hb, h⟩)
theorem OwnP.cases {base : Nat} {w : World} {v : Value} {l : PL} (h : OwnP base w v l) : (v = .slice none 0 0 ∧ l = []) ∨ ∃ g cap, v = .slice (some ⟨g, 0, none⟩) l.length cap ∧ base ≤ g ∧ g < w.heap.size ∧ l.length ≤ cap ∧ cap ≤ maxLen ∧ (∀ i, i < l.length * 2 → w.frozen? ⟨g, i, none⟩ = false) := by
  obtain ⟨vs, _, h, _⟩ := h
  rcases h.2 with ⟨rfl, h0⟩ | ⟨g, cap, cur, rfl, hb, hg, hn, hm, hs, _⟩
  · exact .inl ⟨rfl, List.eq_nil_of_length_eq_zero h0⟩
  · exact .inr ⟨g, cap, rfl, hb, (Array.getElem?_eq_some_iff.1 hg).1, hn, hm, fun i _ => by simp [World.frozen?, hg]⟩
/-- The list v of pairs is the call's own, from block 'rb' on; what it holds may lie from block 'pb' on. -/
def OwnQ (rb pb : Nat) (w : World) (v : Value) (l : PL) : Prop :=
  ∃ vs : List (Value × Value), vs.length = l.length ∧ w.ownsRow rb 80 2 v l.length (flat vs) ∧ ∀ i, i < l.length → PartIs pb w (vs.getD i (undef, undef)).1 (l.getD i ([], [])).1 ∧ PartIs pb w (vs.getD i (undef, undef)).2 (l.getD i ([], [])).2
theorem ownQ_nil (rb pb : Nat) (w : World) : OwnQ rb pb w (.slice none 0 0) [] := ⟨[], rfl, World.ownsRow_nil _ _ _ _, fun i hi => by simp at hi⟩
theorem OwnQ.p {rb pb : Nat} {w : World} {v : Value} {l : PL} (h : OwnQ rb pb w v l) (hb : pb ≤ rb) : OwnP pb w v l := by
  obtain ⟨vs, h1, h2, h3⟩ := h
  refine ⟨vs, h1, ⟨h2.1, ?_⟩, h3⟩
  rcases h2.2 with h | ⟨g, cap, cur, h1, h2, h3⟩
  · exact .inl h
  · exact .inr ⟨g, cap, cur, h1, Nat.le_trans hb h2, h3⟩
theorem OwnQ.row {rb base : Nat} {w : World} {v : Value} {l : PL} (h : OwnQ rb base w v l) (hb : base ≤ rb) : v.ownBlock = none ∨ ∃ g cur fz, v.ownBlock = some g ∧ base ≤ g ∧ w.heap[g]? = some (.cells cur 80 fz) := (h.p hb).row
theorem OwnQ.lt {rb pb : Nat} {w : World} {v : Value} {l : PL} (h : OwnQ rb pb w v l) : ∀ k, v.ownBlock = some k → rb ≤ k ∧ k < w.heap.size := by
  obtain ⟨vs, _, h, _⟩ := h
  exact World.ownsRow.lt h
theorem OwnQ.grownNone {rb pb : Nat} {w w' : World} {v : Value} {l : PL} (h : OwnQ rb pb w v l) (hg : w.grownBy w' none) : OwnQ rb pb w' v l := by
  obtain ⟨vs, h1, h2, h3⟩ := h
  refine ⟨vs, h1, World.ownsRow.kept h2 hg ?_, fun i hi => ⟨((h3 i hi).1).kept hg (.inl rfl), ((h3 i hi).2).kept hg (.inl rfl)⟩⟩
  cases hv : v.ownBlock with
  | none => exact .inl rfl
  | some k => exact .inr (by simp)
theorem OwnQ.alloc {rb pb : Nat} {w : World} {v : Value} {l : PL} (h : OwnQ rb pb w v l) (o : Obj) : OwnQ rb pb (w.alloc o) v l := h.grownNone (World.grownBy_alloc _ _ _)
theorem OwnQ.shape {rb pb : Nat} {w : World} {v : Value} {l : PL} (h : OwnQ rb pb w v l) : ∃ a cap, v = .slice a l.length cap := by
  obtain ⟨vs, _, h, _⟩ := h
  rcases h.2 with ⟨rfl, h0⟩ | ⟨g, cap, cur, rfl, _⟩
  · exact ⟨none, 0, by rw [h0]⟩
  · exact ⟨_, cap, rfl⟩
theorem grown_ownQ {rb pb : Nat} {w W w1 : World} {v : Value} {l : PL} (h : w.grownBy W none) (ho : OwnQ rb pb W v l) (hb : w.heap.size ≤ rb) (hg : W.grownBy w1 v.ownBlock) : w.grownBy w1 none :=
  ⟨hg.os.trans h.os, hg.tape.trans h.tape, hg.output.trans h.output, Nat.le_trans h.size hg.size, fun i hi hn => (hg.block i (Nat.lt_of_lt_of_le hi h.size) (fun e => by have := (ho.lt i e.symm).1; omega)).trans (h.block i hi hn)⟩
/-- Another list of the call's own turns. -/
theorem OwnP.other {base : Nat} {w w' : World} {v u : Value} {l m : PL} (h : OwnP base w v l) (hu : OwnP base w u m) (hg : w.grownBy w' u.ownBlock) (hne : ∀ k, v.ownBlock = some k → u.ownBlock ≠ some k) : OwnP base w' v l := by
  have hrow := hu.row
  obtain ⟨vs, h1, h2, h3⟩ := h
  refine ⟨vs, h1, World.ownsRow.kept h2 hg ?_, fun i hi => ⟨((h3 i hi).1).kept hg hrow, ((h3 i hi).2).kept hg hrow⟩⟩
  cases hv : v.ownBlock with
  | none => exact .inl rfl
  | some k => exact .inr fun e => hne k hv e.symm
end Go.Proofs.Ytpmfbfflacbmjac
