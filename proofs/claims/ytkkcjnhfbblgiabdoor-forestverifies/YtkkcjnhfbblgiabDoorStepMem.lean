/-
  Steps and proofs in memory: as they are handed over, and as the call's own.
-/
import Derived.Test.YtkkcjnhfbblgiabDoorPairMem
import Derived.Test.YtkkcjnhfbblgiabDoorPart2
import Derived.Deep.AppendLies
namespace Go.Proofs.YtkkcjnhfbblgiabDoor
open Go.RowKit
/-- A step, as a value. -/
def StepIs (w : World) (v : Value) (s : Stp) : Prop := ∃ vo, v = .agg #[.int .i64 s.bit, .bool s.right, vo] ∧ SliceIs w vo s.other
/-- The step that lies at a place. -/
def StepAt (w : World) (b o : Nat) (s : Stp) : Prop := ∃ vo, w.cell? ⟨b, o, none⟩ = some (.int .i64 s.bit) ∧ w.cell? ⟨b, o + 1, none⟩ = some (.bool s.right) ∧ w.cell? ⟨b, o + 2, none⟩ = some vo ∧ SliceIs w vo s.other
theorem StepAt.grown {w w' : World} {b o : Nat} {s : Stp} (h : StepAt w b o s) (hg : w.grownBy w' none) : StepAt w' b o s := by
  obtain ⟨vo, c1, c2, c3, h1⟩ := h
  exact ⟨vo, hg.cell c1 (by simp), hg.cell c2 (by simp), hg.cell c3 (by simp), h1.grown hg⟩
/-- A list of steps, as it is handed over. -/
def StepsIs (w : World) (v : Value) (l : List Stp) : Prop :=
  ∃ a cap, v = .slice a l.length cap ∧ l.length ≤ cap ∧ ((l = [] ∧ (a = none → cap = 0)) ∨ ∃ b o, a = some ⟨b, o, none⟩ ∧ ∀ i, i < l.length → StepAt w b (o + i * 3) (l.getD i noStp))
theorem stepsIs_nil (w : World) : StepsIs w (.slice none 0 0) [] := ⟨none, 0, rfl, Nat.le_refl _, .inl ⟨rfl, fun _ => rfl⟩⟩
theorem StepsIs.grown {w w' : World} {v : Value} {l : List Stp} (h : StepsIs w v l) (hg : w.grownBy w' none) : StepsIs w' v l := by
  obtain ⟨a, cap, rfl, hc, h⟩ := h
  refine ⟨a, cap, rfl, hc, ?_⟩
  rcases h with h | ⟨b, o, rfl, h⟩
  · exact .inl h
  · exact .inr ⟨b, o, rfl, fun i hi => (h i hi).grown hg⟩
theorem StepsIs.shape {w : World} {v : Value} {l : List Stp} (h : StepsIs w v l) : ∃ a cap, v = .slice a l.length cap := by
  obtain ⟨a, cap, rfl, _⟩ := h
  exact ⟨a, cap, rfl⟩
theorem StepsIs.at {w : World} {a : Option Addr} {n cap : Nat} {l : List Stp} (h : StepsIs w (.slice a n cap) l) (i : Nat) (hi : i < l.length) : ∃ b o, a = some ⟨b, o, none⟩ ∧ StepAt w b (o + i * 3) (l.getD i noStp) := by
  obtain ⟨a', cap', e, hc, h⟩ := h
  simp only [Value.slice.injEq] at e
  obtain ⟨rfl, rfl, rfl⟩ := e
  rcases h with ⟨rfl, _⟩ | ⟨b, o, rfl, h⟩
  · simp at hi
  · exact ⟨b, o, rfl, h i hi⟩
/-- A proof, as a value. -/
def ProofIs (w : World) (v : Value) (p : Prf) : Prop := ∃ vs vk vv, v = .agg #[.bool p.empty, vs, vk, vv] ∧ StepsIs w vs p.steps ∧ SliceIs w vk p.pair.1 ∧ SliceIs w vv p.pair.2
theorem ProofIs.grown {w w' : World} {v : Value} {p : Prf} (h : ProofIs w v p) (hg : w.grownBy w' none) : ProofIs w' v p := by
  obtain ⟨vs, vk, vv, rfl, h0, h1, h2⟩ := h
  exact ⟨vs, vk, vv, rfl, h0.grown hg, h1.grown hg, h2.grown hg⟩
/-- What fits into memory. -/
def PrfFits (p : Prf) : Prop := p.steps.length * 40 ≤ 140737488355328 ∧ (∀ i, i < p.steps.length → (-9223372036854775808 ≤ (p.steps.getD i noStp).bit ∧ (p.steps.getD i noStp).bit ≤ 9223372036854775807) ∧ (p.steps.getD i noStp).other.length ≤ 140737488355328) ∧ p.pair.1.length ≤ 140737488355328 ∧ p.pair.2.length ≤ 140737488355328
theorem two_cells {w : World} {b : Nat} {x y : Value} {t : TypeId} (h : w.heap[b]? = some (.cells #[x, y] t)) : w.cell? ⟨b, 0, none⟩ = some x ∧ w.cell? ⟨b, 1, none⟩ = some y ∧ w.frozen? ⟨b, 0, none⟩ = false ∧ w.frozen? ⟨b, 1, none⟩ = false := by
  refine ⟨?_, ?_, ?_, ?_⟩ <;> simp [World.cell?, World.frozen?, h]
theorem two_set {w : World} {b : Nat} {x y : Value} {t : TypeId} (h : w.heap[b]? = some (.cells #[x, y] t)) (u v : Value) : ((w.setCell ⟨b, 0, none⟩ u).setCell ⟨b, 1, none⟩ v).heap[b]? = some (.cells #[u, v] t) := by
  have h0 : (w.setCell ⟨b, 0, none⟩ u).heap[b]? = some (.cells #[u, y] t) := by
    simp only [World.setCell, Array.getElem?_modify, if_true, h, Option.map_some]; first | rfl | simp
  rw [World.setCell, Array.getElem?_modify, if_pos rfl, h0]; first | rfl | simp
theorem three_cells {w : World} {b : Nat} {x y z : Value} {t : TypeId} (h : w.heap[b]? = some (.cells #[x, y, z] t)) : (w.cell? ⟨b, 0, none⟩ = some x ∧ w.cell? ⟨b, 1, none⟩ = some y ∧ w.cell? ⟨b, 2, none⟩ = some z) ∧ w.frozen? ⟨b, 0, none⟩ = false ∧ w.frozen? ⟨b, 1, none⟩ = false ∧ w.frozen? ⟨b, 2, none⟩ = false := by
  refine ⟨⟨?_, ?_, ?_⟩, ?_, ?_, ?_⟩ <;> simp [World.cell?, World.frozen?, h]
theorem three_set {w : World} {b : Nat} {x y z : Value} {t : TypeId} (h : w.heap[b]? = some (.cells #[x, y, z] t)) (x' y' z' : Value) : (((w.setCell ⟨b, 0, none⟩ x').setCell ⟨b, 1, none⟩ y').setCell ⟨b, 2, none⟩ z').heap[b]? = some (.cells #[x', y', z'] t) := by
  have h0 : (w.setCell ⟨b, 0, none⟩ x').heap[b]? = some (.cells #[x', y, z] t) := by
    simp only [World.setCell, Array.getElem?_modify, if_true, h, Option.map_some]; first | rfl | simp
  have h1 : ((w.setCell ⟨b, 0, none⟩ x').setCell ⟨b, 1, none⟩ y').heap[b]? = some (.cells #[x', y', z] t) := by
    rw [World.setCell, Array.getElem?_modify, if_pos rfl, h0]; first | rfl | simp
  rw [World.setCell, Array.getElem?_modify, if_pos rfl, h1]; first | rfl | simp
theorem grown_three {w w1 : World} (h : w.grownBy w1 none) (b : Nat) (hb : w.heap.size ≤ b) (x y z : Value) : w.grownBy (((w1.setCell ⟨b, 0, none⟩ x).setCell ⟨b, 1, none⟩ y).setCell ⟨b, 2, none⟩ z) none :=
  grown_setNew (grown_setNew (grown_setNew h _ hb _ _) _ hb _ _) _ hb _ _
theorem grown_two {w w1 : World} (h : w.grownBy w1 none) (b : Nat) (hb : w.heap.size ≤ b) (x y : Value) : w.grownBy ((w1.setCell ⟨b, 0, none⟩ x).setCell ⟨b, 1, none⟩ y) none :=
  grown_setNew (grown_setNew h _ hb _ _) _ hb _ _
/-- A block of bytes; a block of something else. -/
def BlkB (w : World) (b : Nat) : Prop := ∃ cur t fz, w.heap[b]? = some (.cells cur t fz) ∧ (t = 5 ∨ ∃ q, cur[0]? = some (.int .u8 q))
def NotB (w : World) (b : Nat) : Prop := ∃ cur t fz, w.heap[b]? = some (.cells cur t fz) ∧ t ≠ 5 ∧ ∀ q, cur[0]? ≠ some (.int .u8 q)
theorem BlkB.ne {w : World} {a b : Nat} (h : BlkB w a) (h' : NotB w b) : a ≠ b := by
  rintro rfl
  obtain ⟨cur, t, fz, h1, h2⟩ := h
  obtain ⟨cur', t', fz', h3, h4, h5⟩ := h'
  rw [h1] at h3
  simp only [Option.some.injEq, Obj.cells.injEq] at h3
  obtain ⟨rfl, rfl, _⟩ := h3
  rcases h2 with h2 | ⟨q, h2⟩
  · exact h4 h2
  · exact h5 q h2
theorem NotB.grown {w w' : World} {b : Nat} (h : NotB w b) (hg : w.grownBy w' none) : NotB w' b := by
  obtain ⟨cur, t, fz, h1, h2⟩ := h
  exact ⟨cur, t, fz, by rw [hg.block b (Array.getElem?_eq_some_iff.1 h1).1 (by simp)]; exact h1, h2⟩
theorem NotB.set {w : World} {c : Nat} (h : NotB w c) (i : Nat) (u : Value) (hu : ∀ q, u ≠ .int .u8 q) : NotB (w.setCell ⟨c, i, none⟩ u) c := by
  obtain ⟨cur, t, fz, h1, h2, h3⟩ := h
  refine ⟨cur.setIfInBounds i u, t, fz, ?_, h2, fun q hq => ?_⟩
  · simp only [World.setCell, Array.getElem?_modify, if_true, h1, Option.map_some]; first | rfl | simp
  · rw [Array.getElem?_setIfInBounds] at hq
    split at hq
    · split at hq
      · simp at hq; exact hu q hq
      · cases hq
    · exact h3 q hq
theorem notB_of {w : World} {c : Nat} {x : Value} {xs : List Value} {t : TypeId} {fz : Nat × Nat} (h : w.heap[c]? = some (.cells ⟨x :: xs⟩ t fz)) (ht : t ≠ 5) (hx : ∀ q, x ≠ .int .u8 q) : NotB w c :=
  ⟨_, t, fz, h, ht, fun q hq => by simp at hq; exact hx q hq⟩
/-- Bytes in a block of bytes. -/
def PartS (w : World) (v : Value) (bs : List UInt8) : Prop :=
  SliceIs w v bs ∧ (bs = [] ∨ ∃ b, v.ownBlock = some b ∧ b < w.heap.size ∧ BlkB w b)
theorem stepT : (71 : Nat) ≠ 5 := by decide
theorem partS_nil (w : World) : PartS w (.slice none 0 0) [] := ⟨sliceIs_nil _, .inl rfl⟩
theorem Own.partS {base' : Nat} {w : World} {v : Value} {bs : List UInt8} (h : Own base' w v bs) : PartS w v bs := by
  refine ⟨h.slice, ?_⟩
  rcases h.2 with ⟨rfl, h0⟩ | ⟨g, cap, cur, rfl, hb, hg, _⟩
  · exact .inl (List.eq_nil_of_length_eq_zero h0)
  · exact .inr ⟨g, rfl, (Array.getElem?_eq_some_iff.1 hg).1, cur, _, _, hg, .inl rfl⟩
theorem Bytes.partS {w : World} {nb : Nat} {bs : List UInt8} (h : Bytes w nb bs) (hl : bs.length = 32) : PartS w (.slice (some ⟨nb, 0, none⟩) 32 32) bs := by
  refine ⟨h.slice32 hl, .inr ⟨nb, rfl, cell_lt (h.cell 0 (by omega)), ?_⟩⟩
  have hc := h.cell 0 (by omega)
  obtain ⟨t, hb⟩ := h
  refine ⟨_, t, _, hb, .inr ⟨((bs.getD 0 0).toNat : Int), ?_⟩⟩
  · simpa [World.cell?, hb] using hc
theorem partS_oneCell {w : World} {v : Value} {bs : List UInt8} (h : PartS w v bs) : v.oneCell' = true := by
  obtain ⟨⟨a, cap, rfl, _⟩, _⟩ := h
  rfl
/-- The row of a list that holds no bytes. -/
def RowS (w : World) (row : Option Nat) : Prop := row = none ∨ ∃ g, row = some g ∧ NotB w g
/-- A block that holds no bytes turns: the bytes stay. -/
theorem PartS.kept {w w' : World} {v : Value} {bs : List UInt8} (h : PartS w v bs) {row : Option Nat} (hg : w.grownBy w' row) (hrow : RowS w row) : PartS w' v bs := by
  obtain ⟨hs, ho⟩ := h
  rcases ho with rfl | ⟨b, hb, hlt, hc⟩
  · obtain ⟨a, cap, rfl, hc, h⟩ := hs
    refine ⟨⟨a, cap, rfl, hc, ?_⟩, .inl rfl⟩
    rcases h with h | ⟨b, o, rfl, h⟩
    · exact .inl h
    · exact .inr ⟨b, o, rfl, fun i hi => by simp at hi⟩
  · have hne : some b ≠ row := by
      intro e
      rcases hrow with rfl | ⟨g, rfl, hg'⟩
      · cases e
      · cases e; exact hc.ne hg' rfl
    have hblk := hg.block b hlt hne
    refine ⟨?_, .inr ⟨b, hb, Nat.lt_of_lt_of_le hlt hg.size, ?_⟩⟩
    · obtain ⟨a, cap, rfl, hcp, h⟩ := hs
      refine ⟨a, cap, rfl, hcp, ?_⟩
      rcases h with h | ⟨b', o, rfl, h⟩
      · exact .inl h
      · refine .inr ⟨b', o, rfl, fun i hi => ?_⟩
        simp [Value.ownBlock] at hb
        subst hb
        exact hg.cell (h i hi) (by simpa using hne)
    · obtain ⟨cur, t, fz, hc, hc2⟩ := hc
      exact ⟨cur, t, fz, by rw [hblk]; exact hc, hc2⟩
theorem PartS.grown {w w' : World} {v : Value} {bs : List UInt8} (h : PartS w v bs) (hg : w.grownBy w' none) : PartS w' v bs := h.kept hg (.inl rfl)
theorem PartS.set {w : World} {v : Value} {bs : List UInt8} (h : PartS w v bs) {c : Nat} (hc : NotB w c) (i : Nat) (u : Value) : PartS (w.setCell ⟨c, i, none⟩ u) v bs := h.kept (grown_set (grown_refl _ (some c)) i u) (.inr ⟨c, rfl, hc⟩)
/-- The cells of steps. -/
abbrev SV := Stp × Value
def noSV : SV := (noStp, undef)
def flatS (us : List SV) : List Value := us.flatMap fun x => [.int .i64 x.1.bit, .bool x.1.right, x.2]
theorem flatS_len (us : List SV) : (flatS us).length = us.length * 3 := by
  induction us with
  | nil => rfl
  | cons x r ih => simp only [flatS, List.flatMap_cons, List.length_append, List.length_cons, List.length_nil] at ih ⊢; omega
theorem flatS_append (a b : List SV) : flatS (a ++ b) = flatS a ++ flatS b := by simp [flatS]
theorem flatS_get : ∀ (us : List SV) (i : Nat), i < us.length → (flatS us)[i * 3]? = some (.int .i64 (us.getD i noSV).1.bit) ∧ (flatS us)[i * 3 + 1]? = some (.bool (us.getD i noSV).1.right) ∧ (flatS us)[i * 3 + 2]? = some (us.getD i noSV).2
  | [], i, h => by simp at h
  | x :: r, 0, _ => by simp [flatS]
  | x :: r, i + 1, h => by
    have := flatS_get r i (by simpa using h)
    rw [show (i + 1) * 3 = i * 3 + 3 by omega, show i * 3 + 3 + 1 = (i * 3 + 1) + 3 by omega, show i * 3 + 3 + 2 = (i * 3 + 2) + 3 by omega]
    simpa [flatS] using this
theorem flatS_one (us : List SV) : ∀ u ∈ flatS us, (∀ x ∈ us, x.2.oneCell' = true) → u.oneCell' = true := by
  intro u hu h
  obtain ⟨x, hx, hu⟩ := List.mem_flatMap.1 hu
  simp only [List.mem_cons, List.not_mem_nil, or_false] at hu
  rcases hu with rfl | rfl | rfl
  · rfl
  · rfl
  · exact h x hx
/-- The list v of steps is the call's own, from block 'base' on. -/
def OwnS (base : Nat) (w : World) (v : Value) (l : List Stp) : Prop :=
  ∃ us : List SV, us.map (·.1) = l ∧ w.ownsRow base 71 3 v l.length (flatS us) ∧ (∀ x ∈ us, PartS w x.2 x.1.other) ∧ (l = [] → v = .slice none 0 0)
theorem ownS_nil (base : Nat) (w : World) : OwnS base w (.slice none 0 0) [] := ⟨[], rfl, World.ownsRow_nil _ _ _ _, fun x hx => by simp at hx, fun _ => rfl⟩
theorem OwnS.row {base : Nat} {w : World} {v : Value} {l : List Stp} (h : OwnS base w v l) : RowS w v.ownBlock := by
  obtain ⟨us, hm, h, _, h0⟩ := h
  cases l with
  | nil => rw [h0 rfl]; exact .inl rfl
  | cons x r =>
    rcases h.2 with ⟨rfl, _⟩ | ⟨g, cap, cur, rfl, hb, hg, hn, _, _, ht⟩
    · exact .inl rfl
    · refine .inr ⟨g, rfl, cur, _, _, hg, stepT, fun q => ?_⟩
      cases us with
      | nil => simp at hm
      | cons u us =>
        simp only [List.map_cons, List.cons.injEq] at hm
        have e : (cur.toList.take ((x :: r).length * 3))[0]? = (flatS (u :: us))[0]? := by rw [ht]
        rw [List.getElem?_take, if_pos (by simp)] at e
        rw [← Array.getElem?_toList, e]
        simp [flatS]
theorem OwnS.lt {base : Nat} {w : World} {v : Value} {l : List Stp} (h : OwnS base w v l) : ∀ k, v.ownBlock = some k → base ≤ k ∧ k < w.heap.size := by
  obtain ⟨us, _, h, _⟩ := h
  exact World.ownsRow.lt h
theorem OwnS.grownNone {base : Nat} {w w' : World} {v : Value} {l : List Stp} (h : OwnS base w v l) (hg : w.grownBy w' none) : OwnS base w' v l := by
  obtain ⟨us, h1, h2, h3, h4⟩ := h
  refine ⟨us, h1, World.ownsRow.kept h2 hg ?_, fun x hx => (h3 x hx).grown hg, h4⟩
  cases hv : v.ownBlock with
  | none => exact .inl rfl
  | some k => exact .inr (by simp)
theorem OwnS.alloc {base : Nat} {w : World} {v : Value} {l : List Stp} (h : OwnS base w v l) (o : Obj) : OwnS base (w.alloc o) v l := h.grownNone (World.grownBy_alloc _ _ _)
theorem OwnS.shape {base : Nat} {w : World} {v : Value} {l : List Stp} (h : OwnS base w v l) : ∃ a cap, v = .slice a l.length cap := by
  obtain ⟨us, _, h, _⟩ := h
  rcases h.2 with ⟨rfl, h0⟩ | ⟨g, cap, cur, rfl, _⟩
  · exact ⟨none, 0, by rw [h0]⟩
  · exact ⟨_, cap, rfl⟩
theorem OwnS.cells {base : Nat} {w : World} {g n cap : Nat} {us : List SV} {k : Nat} (hr : w.ownsRow base 71 3 (.slice (some ⟨g, 0, none⟩) n cap) k (flatS us)) : ∀ j u, (flatS us)[j]? = some u → w.cell? ⟨g, j, none⟩ = some u := by
  intro j u hj
  rcases hr.2 with ⟨e, _⟩ | ⟨g', cap', cur, e, hb, hg, hn, hm, hs, ht⟩
  · cases e
  · simp only [Value.slice.injEq, Option.some.injEq, Addr.mk.injEq] at e
    obtain ⟨⟨rfl, _⟩, _, _⟩ := e
    have hlt : j < k * 3 := by
      have := (List.getElem?_eq_some_iff.1 hj).1
      rw [hr.1] at this
      exact this
    have e2 : (cur.toList.take (k * 3))[j]? = (flatS us)[j]? := by rw [ht]
    rw [List.getElem?_take, if_pos hlt, hj] at e2
    simp [World.cell?, hg]
    simpa using e2
theorem map_getD {us : List SV} {l : List Stp} (h : us.map (·.1) = l) (i : Nat) (hi : i < l.length) : (us.getD i noSV).1 = l.getD i noStp ∧ us.getD i noSV ∈ us := by
  subst h
  have hi' : i < us.length := by simpa using hi
  constructor
  · simp [hi']
  · rw [show us.getD i noSV = us[i] by simp [hi']]; exact List.getElem_mem _
theorem OwnS.list {base : Nat} {w : World} {v : Value} {l : List Stp} (h : OwnS base w v l) : StepsIs w v l := by
  obtain ⟨us, hl, hr, h3, _⟩ := h
  have hul : us.length = l.length := by rw [← hl]; simp
  rcases hr.2 with ⟨rfl, h0⟩ | ⟨g, cap, cur, rfl, hb, hg, hn, hm, hs, ht⟩
  · have : l = [] := List.eq_nil_of_length_eq_zero h0
    subst this
    exact stepsIs_nil w
  · refine ⟨_, cap, rfl, hn, .inr ⟨g, 0, rfl, fun i hi => ?_⟩⟩
    obtain ⟨e1, e2⟩ := map_getD hl i hi
    obtain ⟨c1, c2, c3⟩ := flatS_get us i (by omega)
    have hp := h3 _ e2
    rw [e1] at c1 c2 hp
    rw [Nat.zero_add]
    exact ⟨_, OwnS.cells hr _ _ c1, OwnS.cells hr _ _ c2, OwnS.cells hr _ _ c3, hp.1⟩
/-- Another block, that holds no bytes, turns. -/
theorem OwnS.set {base : Nat} {w : World} {v : Value} {l : List Stp} (h : OwnS base w v l) {c : Nat} (hc : NotB w c) (hne : c < base) (i : Nat) (u : Value) : OwnS base (w.setCell ⟨c, i, none⟩ u) v l := by
  have hlt := h.lt
  obtain ⟨us, h1, h2, h3, h4⟩ := h
  refine ⟨us, h1, World.ownsRow.kept h2 (grown_set (grown_refl _ (some c)) i u) ?_, fun x hx => (h3 x hx).set hc i u, h4⟩
  cases hv : v.ownBlock with
  | none => exact .inl rfl
  | some k => exact .inr (by have := (hlt k hv).1; simp; omega)
theorem OwnS.setNe {base : Nat} {w : World} {v : Value} {l : List Stp} (h : OwnS base w v l) {c : Nat} (hc : NotB w c) (hne : v.ownBlock ≠ some c) (i : Nat) (u : Value) : OwnS base (w.setCell ⟨c, i, none⟩ u) v l := by
  obtain ⟨us, h1, h2, h3, h4⟩ := h
  refine ⟨us, h1, World.ownsRow.kept h2 (grown_set (grown_refl _ (some c)) i u) ?_, fun x hx => (h3 x hx).set hc i u, h4⟩
  cases hv : v.ownBlock with
  | none => exact .inl rfl
  | some k => exact .inr (by rw [hv] at hne; simpa using hne)
theorem three_last {w : World} {b : Nat} {x y z : Value} {t : TypeId} (h : w.heap[b]? = some (.cells #[x, y, z] t)) (z' : Value) : (w.setCell ⟨b, 2, none⟩ z').heap[b]? = some (.cells #[x, y, z'] t) := by
  simp only [World.setCell, Array.getElem?_modify, if_true, h, Option.map_some]; first | rfl | simp
theorem quad_second {w : World} {b : Nat} {x y z u : Value} {t : TypeId} (h : w.heap[b]? = some (.cells #[x, y, z, u] t)) (y' : Value) : (w.setCell ⟨b, 1, none⟩ y').heap[b]? = some (.cells #[x, y', z, u] t) := by
  simp only [World.setCell, Array.getElem?_modify, if_true, h, Option.map_some]; first | rfl | simp
theorem set_other_block {w : World} {b c i : Nat} {o : Obj} {u : Value} (h : w.heap[b]? = some o) (hne : b ≠ c) : (w.setCell ⟨c, i, none⟩ u).heap[b]? = some o := by
  rw [(grown_set (grown_refl w (some c)) i u).block b (Array.getElem?_eq_some_iff.1 h).1 (by simpa using hne)]; exact h
theorem row_block {w w' : World} {row : Option Nat} {b : Nat} {o : Obj} (hg : w.grownBy w' row) (h : w.heap[b]? = some o) (hne : row ≠ some b) : w'.heap[b]? = some o := by
  rw [hg.block b (Array.getElem?_eq_some_iff.1 h).1 (fun e => hne e.symm)]; exact h
theorem OwnS.notRow {base : Nat} {w : World} {v : Value} {l : List Stp} (h : OwnS base w v l) {b : Nat} (hb : b < base ∨ w.heap.size ≤ b) : v.ownBlock ≠ some b := by
  intro e
  have := h.lt b e
  omega
theorem proofT : (29 : Nat) ≠ 5 := by decide
theorem pairT : (27 : Nat) ≠ 5 := by decide
theorem pairS_stored {W : World} {pb : Nat} {x y : Value} (h : W.heap[pb]? = some (.cells #[x, y] 27)) (hx : ∀ q, x ≠ .int .u8 q) (ua va : Option Addr) (un uc vn vc : Nat) {z : Value} {bs : List UInt8} (hz : PartS W z bs) :
    PartS ((W.setCell ⟨pb, 0, none⟩ (.slice ua un uc)).setCell ⟨pb, 1, none⟩ (.slice va vn vc)) z bs :=
  have h0 : NotB W pb := notB_of (xs := [y]) h pairT hx
  have h1 := h0.set 0 (.slice ua un uc) (fun q => by simp)
  (hz.set h0 0 _).set h1 1 _
/-- The four cells of a proof are written: what lies elsewhere stays. -/
theorem PartS.quad {w : World} {v : Value} {bs : List UInt8} (h : PartS w v bs) {c : Nat} (hc : NotB w c) {e : Bool} {sa : Option Addr} {sn sc : Nat} {ka va : Option Addr} {kn kc vn vc : Nat} :
    PartS ((((w.setCell ⟨c, 0, none⟩ (.bool e)).setCell ⟨c, 1, none⟩ (.slice sa sn sc)).setCell ⟨c, 2, none⟩ (.slice ka kn kc)).setCell ⟨c, 3, none⟩ (.slice va vn vc)) v bs :=
  have h1 := hc.set 0 (.bool e) (fun q => by simp)
  have h2 := h1.set 1 (.slice sa sn sc) (fun q => by simp)
  have h3 := h2.set 2 (.slice ka kn kc) (fun q => by simp)
  (((h.set hc 0 _).set h1 1 _).set h2 2 _).set h3 3 _
theorem OwnS.quad {base : Nat} {w : World} {v : Value} {l : List Stp} (h : OwnS base w v l) {c : Nat} (hc : NotB w c) (hne : c < base) {e : Bool} {sa : Option Addr} {sn sc : Nat} {ka va : Option Addr} {kn kc vn vc : Nat} :
    OwnS base ((((w.setCell ⟨c, 0, none⟩ (.bool e)).setCell ⟨c, 1, none⟩ (.slice sa sn sc)).setCell ⟨c, 2, none⟩ (.slice ka kn kc)).setCell ⟨c, 3, none⟩ (.slice va vn vc)) v l :=
  have h1 := hc.set 0 (.bool e) (fun q => by simp)
  have h2 := h1.set 1 (.slice sa sn sc) (fun q => by simp)
  have h3 := h2.set 2 (.slice ka kn kc) (fun q => by simp)
  (((h.set hc hne 0 _).set h1 hne 1 _).set h2 hne 2 _).set h3 hne 3 _
/-- A proof that a call has made. -/
def ProofNew (n : Nat) (w : World) (v : Value) (p : Prf) : Prop :=
  ∃ base vs vk vv, v = .agg #[.bool p.empty, vs, vk, vv] ∧ n ≤ base ∧ base ≤ w.heap.size ∧ OwnS base w vs p.steps ∧ PartS w vk p.pair.1 ∧ PartS w vv p.pair.2
theorem ProofNew.is {n : Nat} {w : World} {v : Value} {p : Prf} (h : ProofNew n w v p) : ProofIs w v p := by
  obtain ⟨base, vs, vk, vv, rfl, _, _, h1, h2, h3⟩ := h
  exact ⟨vs, vk, vv, rfl, h1.list, h2.1, h3.1⟩
/-- Behind an append onto steps that are the call's own nothing older has turned. -/
theorem grown_ownS {base : Nat} {w W w1 : World} {v : Value} {l : List Stp} (h : w.grownBy W none) (ho : OwnS base W v l) (hb : w.heap.size ≤ base) (hg : W.grownBy w1 v.ownBlock) : w.grownBy w1 none :=
  ⟨hg.os.trans h.os, hg.tape.trans h.tape, hg.output.trans h.output, Nat.le_trans h.size hg.size, fun i hi hn => (hg.block i (Nat.lt_of_lt_of_le hi h.size) (fun e => by have := (ho.lt i e.symm).1; omega)).trans (h.block i hi hn)⟩
theorem infoStep : (Tryd.prog.info? 71).map (fun i => (i.zero, i.size, i.bytes)) = some (some (.agg #[.int .i64 0, .bool false, .slice none 0 0]), 3, 40) := by kernel_rfl
/-- append(v, x) of one step. -/
theorem wp_append_step {w : World} {o : Oper} {a : Act} {K : Act → World → Prop} {Q : Exit → Act → World → Prop} (s x : Operand)
    (ho : o.op = .call { callee := .builtin .append, args := #[s, x], argTypes := #[25, 25] }) (base : Nat) (v : Value) (l : List Stp) (hs : a.eval s = v) (hown : OwnS base w v l)
    (vo : Value) (p : Stp) (hk : PartS w vo p.other) (nb : Nat) (hb : ∀ j u, [Value.int .i64 p.bit, Value.bool p.right, vo][j]? = some u → w.cell? ⟨nb, j, none⟩ = some u)
    (hx : a.eval x = .slice (some ⟨nb, 0, none⟩) 1 1) (hl : (l.length + 1) * 40 ≤ 140737488355328) (hbase : base ≤ w.heap.size)
    (h : ∀ v' w', OwnS base w' v' (l ++ [p]) → w.grownBy w' v.ownBlock → K (a.put o.dst v') w') : o.wp Tryd.prog a w K Q := by
  obtain ⟨i0, hi, hz0, hz1, hz2⟩ := info_parts infoStep
  have hrow := hown.row
  obtain ⟨us, hul, hr, hp, _⟩ := hown
  refine wp_append_own w s x 25 ho base 71 i0 (.agg #[.int .i64 0, .bool false, .slice none 0 0]) 3 40 Tryd.underlying25 hi hz0 hz1 hz2 rfl (by decide) v l.length (flatS us) hs hr ⟨nb, 0, none⟩ 1 1 (flatS [(p, vo)]) hx rfl ?_ ?_ (by unfold maxLen; omega) hl hbase ?_
  · intro j u hj
    rw [addr_add, Nat.zero_add]
    exact hb j u (by simpa [flatS] using hj)
  · intro u hu
    exact flatS_one _ u hu fun y hy => by simp at hy; subst hy; exact partS_oneCell hk
  · intro v' w' h1 h2 _
    refine h _ w' ⟨us ++ [(p, vo)], by simp [hul], ?_, ?_, fun e => by simp at e⟩ h2
    · rw [flatS_append, List.length_append]; exact h1
    · intro y hy
      rcases List.mem_append.1 hy with hy | hy
      · exact (hp y hy).kept h2 hrow
      · simp at hy; subst hy; exact hk.kept h2 hrow
theorem wpList_append_step {w : World} {ops : Array Oper} {rest : List Oper} {o : Oper} {a : Act} {Q : Exit → Act → World → Prop} (hgd : o.guard = none) (s x : Operand)
    (ho : o.op = .call { callee := .builtin .append, args := #[s, x], argTypes := #[25, 25] }) (base : Nat) (v : Value) (l : List Stp) (hs : a.eval s = v) (hown : OwnS base w v l)
    (vo : Value) (p : Stp) (hk : PartS w vo p.other) (nb : Nat) (hb : ∀ j u, [Value.int .i64 p.bit, Value.bool p.right, vo][j]? = some u → w.cell? ⟨nb, j, none⟩ = some u)
    (hx : a.eval x = .slice (some ⟨nb, 0, none⟩) 1 1) (hl : (l.length + 1) * 40 ≤ 140737488355328) (hbase : base ≤ w.heap.size)
    (h : ∀ v' w', OwnS base w' v' (l ++ [p]) → w.grownBy w' v.ownBlock → wpList Tryd.prog ops Q rest (a.put o.dst v') w') : wpList Tryd.prog ops Q (o :: rest) a w :=
  wpList_plain hgd fun _ hK => wp_append_step s x ho base v l hs hown vo p hk nb hb hx hl hbase fun v' w' h1 h2 => hK _ _ (h v' w' h1 h2)
theorem step_news {w : World} {nb : Nat} {p : Stp} {vo : Value} {t : TypeId} (h : w.heap[nb]? = some (.cells #[.int .i64 p.bit, .bool p.right, vo] t)) : ∀ j u, [Value.int .i64 p.bit, Value.bool p.right, vo][j]? = some u → w.cell? ⟨nb, j, none⟩ = some u := by
  intro j u hj
  simp [World.cell?, h]
  simpa using hj
/-- How long a slice is. -/
def lenOf : Value → Nat
  | .slice _ n _ => n
  | _ => 0
end Go.Proofs.YtkkcjnhfbblgiabDoor
