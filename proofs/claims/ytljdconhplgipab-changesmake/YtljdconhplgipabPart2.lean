/-
  Texts of this proof, joined: CmtMem, CmtRow, TapeA, TapeB, TapeK, HistF, HistC, HistM, HistB, BehF, CmtSet, TpCheck, CmtRowS, HistG, CmtFit.
-/
import Derived.Test.YtljdconhplgipabWrMem
import Derived.Test.YtljdconhplgipabPart1
/-
  Commits and tapes in memory.
-/
namespace Go.Proofs.Ytljdconhplgipab
open Go.RowKit
def WrPartAt (base : Nat) (w : World) (b o : Nat) (p : Plc) : Prop := ∃ vn vk vv, w.cell? ⟨b, o, none⟩ = some vn ∧ w.cell? ⟨b, o + 1, none⟩ = some vk ∧ w.cell? ⟨b, o + 2, none⟩ = some (.bool p.gone) ∧ w.cell? ⟨b, o + 3, none⟩ = some vv ∧ PartIs base w vn p.name ∧ PartIs base w vk p.key ∧ PartIs base w vv p.value
/-- A list of writes that stands where blocks of the call's own, of no writes and no bytes, turn. -/
def WritesB (base : Nat) (w : World) (v : Value) (l : List Plc) : Prop :=
  ∃ a cap, v = .slice a l.length cap ∧ l.length ≤ cap ∧ ((l = [] ∧ (a = none → cap = 0)) ∨ ∃ b o, a = some ⟨b, o, none⟩ ∧ (b < base ∨ ∃ cur fz, w.heap[b]? = some (.cells cur 35 fz)) ∧ ∀ i, i < l.length → WrPartAt base w b (o + i * 4) (l.getD i noPlc))
theorem writesB_nil (base : Nat) (w : World) : WritesB base w (.slice none 0 0) [] := ⟨none, 0, rfl, Nat.le_refl _, .inl ⟨rfl, fun _ => rfl⟩⟩
theorem WritesB.shape {base : Nat} {w : World} {v : Value} {l : List Plc} (h : WritesB base w v l) : ∃ a cap, v = .slice a l.length cap := by
  obtain ⟨a, cap, rfl, _⟩ := h
  exact ⟨a, cap, rfl⟩
theorem WritesB.oneCell {base : Nat} {w : World} {v : Value} {l : List Plc} (h : WritesB base w v l) : v.oneCell' = true := by
  obtain ⟨a, cap, rfl, _⟩ := h
  rfl
theorem WritesB.list {base : Nat} {w : World} {v : Value} {l : List Plc} (h : WritesB base w v l) : WritesIs w v l := by
  obtain ⟨a, cap, rfl, hc, h⟩ := h
  refine ⟨a, cap, rfl, hc, ?_⟩
  rcases h with h | ⟨b, o, rfl, _, h⟩
  · exact .inl h
  · refine .inr ⟨b, o, rfl, fun i hi => ?_⟩
    obtain ⟨vn, vk, vv, c1, c2, c3, c4, h1, h2, h3⟩ := h i hi
    exact ⟨vn, vk, vv, c1, c2, c3, c4, h1.1, h2.1, h3.1⟩
theorem WritesIs.writesB {w w' : World} {v : Value} {l : List Plc} (h : WritesIs w v l) (hg : w.grownBy w' none) (base : Nat) (hb : w.heap.size ≤ base) : WritesB base w' v l := by
  obtain ⟨a, cap, rfl, hc, h⟩ := h
  refine ⟨a, cap, rfl, hc, ?_⟩
  rcases h with h | ⟨b, o, rfl, h⟩
  · exact .inl h
  · by_cases h0 : l = []
    · exact .inl ⟨h0, fun e => by cases e⟩
    · have hl : 0 < l.length := List.length_pos_iff.2 h0
      refine .inr ⟨b, o, rfl, .inl ?_, fun i hi => ?_⟩
      · obtain ⟨vn, vk, vv, c1, _⟩ := h 0 hl
        exact Nat.lt_of_lt_of_le (cell_lt c1) hb
      · obtain ⟨vn, vk, vv, c1, c2, c3, c4, h1, h2, h3⟩ := h i hi
        exact ⟨vn, vk, vv, hg.cell c1 (by simp), hg.cell c2 (by simp), hg.cell c3 (by simp), hg.cell c4 (by simp), h1.part hg base hb, h2.part hg base hb, h3.part hg base hb⟩
theorem OwnW.writesB {base : Nat} {w : World} {v : Value} {l : List Plc} (h : OwnW base w v l) : WritesB base w v l := by
  obtain ⟨us, hl, hr, h3⟩ := h
  rcases hr.2 with ⟨rfl, h0⟩ | ⟨g, cap, cur, rfl, hb, hg, hn, hm, hs, ht⟩
  · have : l = [] := List.eq_nil_of_length_eq_zero h0
    rw [this]
    exact writesB_nil base w
  · have hcell : ∀ j u, (flatW us)[j]? = some u → w.cell? ⟨g, j, none⟩ = some u := by
      intro j u hj
      have hlt : j < l.length * 4 := by
        have := (List.getElem?_eq_some_iff.1 hj).1
        rw [hr.1] at this
        exact this
      have e2 : (cur.toList.take (l.length * 4))[j]? = (flatW us)[j]? := by rw [ht]
      rw [List.getElem?_take, if_pos hlt, hj] at e2
      simp [World.cell?, hg]
      simpa using e2
    refine ⟨_, cap, rfl, hn, .inr ⟨g, 0, rfl, .inr ⟨_, _, hg⟩, fun i hi => ?_⟩⟩
    obtain ⟨e1, e2⟩ := mapW_getD hl i hi
    have hlen : us.length = l.length := by rw [← hl]; simp
    obtain ⟨c1, c2, c3, c4⟩ := flatW_get us i (by omega)
    have hp := h3 _ e2
    rw [e1] at c3 hp
    rw [Nat.zero_add]
    exact ⟨_, _, _, hcell _ _ c1, hcell _ _ c2, hcell _ _ c3, hcell _ _ c4, hp.1, hp.2.1, hp.2.2⟩
theorem WritesB.kept {base : Nat} {w w' : World} {v : Value} {l : List Plc} (h : WritesB base w v l) {row : Option Nat} (hg : w.grownBy w' row) (hrow : row = none ∨ ∃ g cur t fz, row = some g ∧ base ≤ g ∧ w.heap[g]? = some (.cells cur t fz) ∧ t ≠ 5 ∧ t ≠ 35) : WritesB base w' v l := by
  obtain ⟨a, cap, rfl, hc, h⟩ := h
  refine ⟨a, cap, rfl, hc, ?_⟩
  rcases h with h | ⟨b, o, rfl, hb, h⟩
  · exact .inl h
  · by_cases h0 : l = []
    · exact .inl ⟨h0, fun e => by cases e⟩
    · have hl : 0 < l.length := List.length_pos_iff.2 h0
      have hlt : b < w.heap.size := by
        obtain ⟨vn, vk, vv, c1, _⟩ := h 0 hl
        exact cell_lt c1
      have hne : some b ≠ row := by
        intro e
        rcases hrow with rfl | ⟨g, cur, t, fz, rfl, hbg, hgc, ht, ht2⟩
        · cases e
        · cases e
          rcases hb with hb | ⟨cur2, fz2, hb⟩
          · omega
          · rw [hb] at hgc
            simp only [Option.some.injEq, Obj.cells.injEq] at hgc
            exact ht2 hgc.2.1.symm
      have hrow' : row = none ∨ ∃ g cur t fz, row = some g ∧ base ≤ g ∧ w.heap[g]? = some (.cells cur t fz) ∧ t ≠ 5 := by
        rcases hrow with h | ⟨g, cur, t, fz, h1, h2, h3, h4, _⟩
        · exact .inl h
        · exact .inr ⟨g, cur, t, fz, h1, h2, h3, h4⟩
      refine .inr ⟨b, o, rfl, ?_, fun i hi => ?_⟩
      · rcases hb with hb | ⟨cur, fz, hb⟩
        · exact .inl hb
        · exact .inr ⟨cur, fz, by rw [hg.block b hlt hne]; exact hb⟩
      · obtain ⟨vn, vk, vv, c1, c2, c3, c4, h1, h2, h3⟩ := h i hi
        exact ⟨vn, vk, vv, hg.cell c1 (by simpa using hne), hg.cell c2 (by simpa using hne), hg.cell c3 (by simpa using hne), hg.cell c4 (by simpa using hne), h1.keptT hg hrow', h2.keptT hg hrow', h3.keptT hg hrow'⟩
theorem WritesB.grown {base : Nat} {w w' : World} {v : Value} {l : List Plc} (h : WritesB base w v l) (hg : w.grownBy w' none) : WritesB base w' v l := h.kept hg (.inl rfl)
theorem WritesB.mono {base base' : Nat} {w : World} {v : Value} {l : List Plc} (h : WritesB base w v l) (hb : base ≤ base') : WritesB base' w v l := by
  obtain ⟨a, cap, rfl, hc, h⟩ := h
  refine ⟨a, cap, rfl, hc, ?_⟩
  rcases h with h | ⟨b, o, rfl, h1, h2⟩
  · exact .inl h
  · refine .inr ⟨b, o, rfl, ?_, fun i hi => ?_⟩
    · rcases h1 with h1 | h1
      · exact .inl (by omega)
      · exact .inr h1
    · obtain ⟨vn, vk, vv, c1, c2, c3, c4, p1, p2, p3⟩ := h2 i hi
      exact ⟨vn, vk, vv, c1, c2, c3, c4, p1.mono hb, p2.mono hb, p3.mono hb⟩
/-- A commit. -/
def CommitIs (w : World) (v : Value) (c : Cmt) : Prop := ∃ vs, v = .agg #[.int .i64 c.turn, vs] ∧ WritesIs w vs c.writes
theorem CommitIs.grown {w w' : World} {v : Value} {c : Cmt} (h : CommitIs w v c) (hg : w.grownBy w' none) : CommitIs w' v c := by
  obtain ⟨vs, rfl, h⟩ := h
  exact ⟨vs, rfl, h.grown hg⟩
theorem CommitIs.agg {w : World} {v : Value} {c : Cmt} (h : CommitIs w v c) : ∃ a cap, v = .agg #[.int .i64 c.turn, .slice a c.writes.length cap] := by
  obtain ⟨vs, rfl, h⟩ := h
  obtain ⟨a, cap, rfl⟩ := h.shape
  exact ⟨a, cap, rfl⟩
theorem CommitIs.writes {w : World} {c : Cmt} {x y : Value} (h : CommitIs w (.agg #[x, y]) c) : x = .int .i64 c.turn ∧ WritesIs w y c.writes := by
  obtain ⟨vs, e, h⟩ := h
  injection e with e
  injection e with e
  injection e with e1 e
  injection e with e2 e
  exact ⟨e1, e2 ▸ h⟩
theorem commitIs_no (w : World) : CommitIs w (.agg #[.int .i64 0, .slice none 0 0]) noCmt := ⟨_, rfl, writesIs_nil w⟩
structure FitsC (c : Cmt) : Prop where
  turn : -9223372036854775808 ≤ c.turn ∧ c.turn ≤ 9223372036854775807
  writes : FitsW c.writes
theorem cmtT5 : (48 : Nat) ≠ 5 := by decide
theorem cmtTW : (48 : Nat) ≠ 35 := by decide
/-- A tape. -/
structure Tap where
  data : List UInt8
  synced : Int
def noTap : Tap := ⟨[], 0⟩
def TapeIs (w : World) (v : Value) (t : Tap) : Prop := ∃ vd, v = .agg #[vd, .int .i64 t.synced] ∧ SliceIs w vd t.data
theorem TapeIs.grown {w w' : World} {v : Value} {t : Tap} (h : TapeIs w v t) (hg : w.grownBy w' none) : TapeIs w' v t := by
  obtain ⟨vd, rfl, h⟩ := h
  exact ⟨vd, rfl, h.grown hg⟩
theorem TapeIs.agg {w : World} {v : Value} {t : Tap} (h : TapeIs w v t) : ∃ a cap, v = .agg #[.slice a t.data.length cap, .int .i64 t.synced] := by
  obtain ⟨vd, rfl, h⟩ := h
  obtain ⟨a, cap, rfl⟩ := h.shape
  exact ⟨a, cap, rfl⟩
theorem TapeIs.data {w : World} {t : Tap} {x y : Value} (h : TapeIs w (.agg #[x, y]) t) : SliceIs w x t.data ∧ y = .int .i64 t.synced := by
  obtain ⟨vd, e, h⟩ := h
  injection e with e
  injection e with e
  injection e with e1 e
  injection e with e2 e
  exact ⟨e1 ▸ h, e2⟩
theorem tapeIs_no (w : World) : TapeIs w (.agg #[.slice none 0 0, .int .i64 0]) noTap := ⟨_, rfl, sliceIs_nil w⟩
structure FitsTp (t : Tap) : Prop where
  data : t.data.length ≤ 140737488355328
  synced : -9223372036854775808 ≤ t.synced ∧ t.synced ≤ 9223372036854775807
end Go.Proofs.Ytljdconhplgipab

/-
  Lists of commits in memory.
-/
namespace Go.Proofs.Ytljdconhplgipab
open Go.RowKit
def CmtAt (w : World) (b o : Nat) (c : Cmt) : Prop := ∃ vs, w.cell? ⟨b, o, none⟩ = some (.int .i64 c.turn) ∧ w.cell? ⟨b, o + 1, none⟩ = some vs ∧ WritesIs w vs c.writes
theorem CmtAt.grown {w w' : World} {b o : Nat} {c : Cmt} (h : CmtAt w b o c) (hg : w.grownBy w' none) : CmtAt w' b o c := by
  obtain ⟨vs, c1, c2, h⟩ := h
  exact ⟨vs, hg.cell c1 (by simp), hg.cell c2 (by simp), h.grown hg⟩
def CommitsIs (w : World) (v : Value) (l : List Cmt) : Prop :=
  ∃ a cap, v = .slice a l.length cap ∧ l.length ≤ cap ∧ ((l = [] ∧ (a = none → cap = 0)) ∨ ∃ b o, a = some ⟨b, o, none⟩ ∧ ∀ i, i < l.length → CmtAt w b (o + i * 2) (l.getD i noCmt))
theorem commitsIs_nil (w : World) : CommitsIs w (.slice none 0 0) [] := ⟨none, 0, rfl, Nat.le_refl _, .inl ⟨rfl, fun _ => rfl⟩⟩
theorem CommitsIs.shape {w : World} {v : Value} {l : List Cmt} (h : CommitsIs w v l) : ∃ a cap, v = .slice a l.length cap := by
  obtain ⟨a, cap, rfl, _⟩ := h
  exact ⟨a, cap, rfl⟩
theorem CommitsIs.grown {w w' : World} {v : Value} {l : List Cmt} (h : CommitsIs w v l) (hg : w.grownBy w' none) : CommitsIs w' v l := by
  obtain ⟨a, cap, rfl, hc, h⟩ := h
  refine ⟨a, cap, rfl, hc, ?_⟩
  rcases h with h | ⟨b, o, rfl, h⟩
  · exact .inl h
  · exact .inr ⟨b, o, rfl, fun i hi => (h i hi).grown hg⟩
theorem CommitsIs.at {w : World} {a : Option Addr} {n cap : Nat} {l : List Cmt} (h : CommitsIs w (.slice a n cap) l) (i : Nat) (hi : i < l.length) : ∃ b o, a = some ⟨b, o, none⟩ ∧ CmtAt w b (o + i * 2) (l.getD i noCmt) := by
  obtain ⟨a', cap', e, hc, h⟩ := h
  simp only [Value.slice.injEq] at e
  obtain ⟨rfl, rfl, rfl⟩ := e
  rcases h with ⟨rfl, _⟩ | ⟨b, o, rfl, h⟩
  · simp at hi
  · exact ⟨b, o, rfl, h i hi⟩
structure FitsCs (l : List Cmt) : Prop where
  many : l.length * 32 ≤ 140737488355328
  each : ∀ i, i < l.length → FitsC (l.getD i noCmt)
abbrev CV := Cmt × Value
def noCV : CV := (noCmt, undef)
def flatC (us : List CV) : List Value := us.flatMap fun x => [.int .i64 x.1.turn, x.2]
theorem flatC_append (a b : List CV) : flatC (a ++ b) = flatC a ++ flatC b := by simp [flatC]
theorem flatC_get : ∀ (us : List CV) (i : Nat), i < us.length → (flatC us)[i * 2]? = some (.int .i64 (us.getD i noCV).1.turn) ∧ (flatC us)[i * 2 + 1]? = some (us.getD i noCV).2
  | [], i, h => by simp at h
  | x :: us, 0, _ => ⟨rfl, rfl⟩
  | x :: us, i + 1, h => by
    have := flatC_get us i (by simpa using h)
    rw [show (i + 1) * 2 = i * 2 + 2 by omega]
    exact this
/-- The list v of commits is the call's own, from block 'base' on. -/
def OwnC (base : Nat) (w : World) (v : Value) (l : List Cmt) : Prop :=
  ∃ us : List CV, us.map (·.1) = l ∧ w.ownsRow base 48 2 v l.length (flatC us) ∧ ∀ x ∈ us, WritesB base w x.2 x.1.writes
theorem ownC_nil (base : Nat) (w : World) : OwnC base w (.slice none 0 0) [] := ⟨[], rfl, World.ownsRow_nil _ _ _ _, fun x hx => by simp at hx⟩
theorem OwnC.row {base : Nat} {w : World} {v : Value} {l : List Cmt} (h : OwnC base w v l) : v.ownBlock = none ∨ ∃ g cur t fz, v.ownBlock = some g ∧ base ≤ g ∧ w.heap[g]? = some (.cells cur t fz) ∧ t ≠ 5 ∧ t ≠ 35 := by
  obtain ⟨us, _, h, _⟩ := h
  rcases h.2 with ⟨rfl, _⟩ | ⟨g, cap, cur, rfl, hb, hg, _⟩
  · exact .inl rfl
  · exact .inr ⟨g, cur, _, _, rfl, hb, hg, cmtT5, cmtTW⟩
theorem OwnC.lt {base : Nat} {w : World} {v : Value} {l : List Cmt} (h : OwnC base w v l) : ∀ k, v.ownBlock = some k → base ≤ k ∧ k < w.heap.size := by
  obtain ⟨us, _, h, _⟩ := h
  exact World.ownsRow.lt h
theorem OwnC.grownNone {base : Nat} {w w' : World} {v : Value} {l : List Cmt} (h : OwnC base w v l) (hg : w.grownBy w' none) : OwnC base w' v l := by
  obtain ⟨us, h1, h2, h3⟩ := h
  refine ⟨us, h1, World.ownsRow.kept h2 hg ?_, fun x hx => (h3 x hx).kept hg (.inl rfl)⟩
  cases hv : v.ownBlock with
  | none => exact .inl rfl
  | some k => exact .inr (by simp)
theorem OwnC.shape {base : Nat} {w : World} {v : Value} {l : List Cmt} (h : OwnC base w v l) : ∃ a cap, v = .slice a l.length cap := by
  obtain ⟨us, _, h, _⟩ := h
  rcases h.2 with ⟨rfl, h0⟩ | ⟨g, cap, cur, rfl, _⟩
  · exact ⟨none, 0, by rw [h0]⟩
  · exact ⟨_, cap, rfl⟩
theorem mapC_getD {us : List CV} {l : List Cmt} (h : us.map (·.1) = l) (i : Nat) (hi : i < l.length) : (us.getD i noCV).1 = l.getD i noCmt ∧ us.getD i noCV ∈ us := by
  subst h
  have hi' : i < us.length := by simpa using hi
  refine ⟨by simp [hi'], ?_⟩
  rw [show us.getD i noCV = us[i] by simp [hi']]
  exact List.getElem_mem hi'
theorem OwnC.list {base : Nat} {w : World} {v : Value} {l : List Cmt} (h : OwnC base w v l) : CommitsIs w v l := by
  obtain ⟨us, hl, hr, h3⟩ := h
  rcases hr.2 with ⟨rfl, h0⟩ | ⟨g, cap, cur, rfl, hb, hg, hn, hm, hs, ht⟩
  · have : l = [] := List.eq_nil_of_length_eq_zero h0
    rw [this]
    exact commitsIs_nil w
  · have hcell : ∀ j u, (flatC us)[j]? = some u → w.cell? ⟨g, j, none⟩ = some u := by
      intro j u hj
      have hlt : j < l.length * 2 := by
        have := (List.getElem?_eq_some_iff.1 hj).1
        rw [hr.1] at this
        exact this
      have e2 : (cur.toList.take (l.length * 2))[j]? = (flatC us)[j]? := by rw [ht]
      rw [List.getElem?_take, if_pos hlt, hj] at e2
      simp [World.cell?, hg]
      simpa using e2
    refine ⟨_, cap, rfl, hn, .inr ⟨g, 0, rfl, fun i hi => ?_⟩⟩
    obtain ⟨e1, e2⟩ := mapC_getD hl i hi
    have hlen : us.length = l.length := by rw [← hl]; simp
    obtain ⟨c1, c2⟩ := flatC_get us i (by omega)
    have hp := h3 _ e2
    rw [e1] at c1 hp
    rw [Nat.zero_add]
    exact ⟨_, hcell _ _ c1, hcell _ _ c2, hp.list⟩
theorem grown_ownC {base : Nat} {w W w1 : World} {v : Value} {l : List Cmt} (h : w.grownBy W none) (ho : OwnC base W v l) (hb : w.heap.size ≤ base) (hg : W.grownBy w1 v.ownBlock) : w.grownBy w1 none :=
  ⟨hg.os.trans h.os, hg.tape.trans h.tape, hg.output.trans h.output, Nat.le_trans h.size hg.size, fun i hi hn => (hg.block i (Nat.lt_of_lt_of_le hi h.size) (fun e => by have := (ho.lt i e.symm).1; omega)).trans (h.block i hi hn)⟩
theorem infoCmt : (Try.prog.info? 48).map (fun i => (i.zero, i.size, i.bytes)) = some (some (.agg #[.int .i64 0, .slice none 0 0]), 2, 32) := by kernel_rfl
/-- append(v, x) of one commit. -/
theorem wp_append_cmt {w : World} {o : Oper} {a : Act} {K : Act → World → Prop} {Q : Exit → Act → World → Prop} (s x : Operand)
    (ho : o.op = .call { callee := .builtin .append, args := #[s, x], argTypes := #[23, 23] }) (base : Nat) (v : Value) (l : List Cmt) (hs : a.eval s = v) (hown : OwnC base w v l)
    (vw : Value) (c : Cmt) (hw : WritesB base w vw c.writes) (nb : Nat) (hb : w.heap[nb]? = some (.cells #[.int .i64 c.turn, vw] 48))
    (hx : a.eval x = .slice (some ⟨nb, 0, none⟩) 1 1) (hl : (l.length + 1) * 32 ≤ 140737488355328) (hbase : base ≤ w.heap.size)
    (h : ∀ v' w', OwnC base w' v' (l ++ [c]) → w.grownBy w' v.ownBlock → K (a.put o.dst v') w') : o.wp Try.prog a w K Q := by
  obtain ⟨i0, hi, hz0, hz1, hz2⟩ := info_parts infoCmt
  have hrow := hown.row
  obtain ⟨us, hul, hr, hp⟩ := hown
  refine wp_append_lies w s x 23 ho base 48 i0 (.agg #[.int .i64 0, .slice none 0 0]) 2 32 Try.underlying23 hi hz0 hz1 hz2 rfl (by decide) v l.length (flatC us) hs hr ⟨nb, 0, none⟩ 1 1 (flatC [(c, vw)]) hx rfl (World.news_of_block (cs := #[.int .i64 c.turn, vw]) hb) ?_ (by omega) (by unfold maxLen; omega) hl hbase _ rfl ?_
  · intro u hu
    simp only [flatC, List.flatMap_cons, List.flatMap_nil, List.append_nil, List.mem_cons, List.not_mem_nil, or_false] at hu
    rcases hu with rfl | rfl
    · rfl
    · exact hw.oneCell
  · intro g cap w' q1 q2 _ _
    refine h _ w' ⟨us ++ [(c, vw)], by simp [hul], ?_, ?_⟩ q2
    · rw [flatC_append, List.length_append]; exact q1
    · intro y hy
      rcases List.mem_append.1 hy with hy | hy
      · exact (hp y hy).kept q2 hrow
      · simp only [List.mem_cons, List.not_mem_nil, or_false] at hy
        subst hy
        exact hw.kept q2 hrow
theorem wpList_append_cmt {w : World} {ops : Array Oper} {rest : List Oper} {o : Oper} {a : Act} {Q : Exit → Act → World → Prop} (hgd : o.guard = none) (s x : Operand)
    (ho : o.op = .call { callee := .builtin .append, args := #[s, x], argTypes := #[23, 23] }) (base : Nat) (v : Value) (l : List Cmt) (hs : a.eval s = v) (hown : OwnC base w v l)
    (vw : Value) (c : Cmt) (hw : WritesB base w vw c.writes) (nb : Nat) (hb : w.heap[nb]? = some (.cells #[.int .i64 c.turn, vw] 48))
    (hx : a.eval x = .slice (some ⟨nb, 0, none⟩) 1 1) (hl : (l.length + 1) * 32 ≤ 140737488355328) (hbase : base ≤ w.heap.size)
    (h : ∀ v' w', OwnC base w' v' (l ++ [c]) → w.grownBy w' v.ownBlock → wpList Try.prog ops Q rest (a.put o.dst v') w') : wpList Try.prog ops Q (o :: rest) a w :=
  wpList_plain hgd fun _ hK => wp_append_cmt s x ho base v l hs hown vw c hw nb hb hx hl hbase fun v' w' h1 h2 => hK _ _ (h v' w' h1 h2)
end Go.Proofs.Ytljdconhplgipab

/-
  What P6 answers, with no program: tapes that may be, Encode, Sync, Crash.
-/
namespace Go.Proofs.Ytljdconhplgipab
open Go.RowKit
/-- P6.1. -/
def mayT (t : Tap) : Bool := decide (t.data.length ≤ 200000) && decide (0 ≤ t.synced ∧ t.synced ≤ (t.data.length : Int))
theorem mayT_iff (t : Tap) : mayT t = true ↔ t.data.length ≤ 200000 ∧ 0 ≤ t.synced ∧ t.synced ≤ (t.data.length : Int) := by
  unfold mayT
  rw [Bool.and_eq_true, decide_eq_true_iff, decide_eq_true_iff]
/-- What P6.3 answers. -/
def encF (c : Cmt) : List UInt8 := if commitE c = 0 then commitB c else []
/-- What P6.6 answers. -/
def syncE (t : Tap) : Int := if mayT t = true then 0 else 6
def syncT (t : Tap) : Tap := if mayT t = true then ⟨t.data, (t.data.length : Int)⟩ else noTap
/-- What P6.7 answers. -/
def crashE (t : Tap) (keep : Int) : Int := if mayT t = true then (if keep < 0 then 2 else 0) else 6
def crashN (t : Tap) (keep : Int) : Nat := if keep < (t.data.length : Int) - t.synced then (t.synced + keep).toNat else t.data.length
def crashT (t : Tap) (keep : Int) : Tap := if crashE t keep = 0 then ⟨t.data.take (crashN t keep), (crashN t keep : Int)⟩ else noTap
end Go.Proofs.Ytljdconhplgipab

/-
  What P6.5 and P6.8 answer, with no program. D: the four bytes that stand behind a commit's.
-/
namespace Go.Proofs.Ytljdconhplgipab
open Go.RowKit
def appE (D : List UInt8 → List UInt8) (t : Tap) (c : Cmt) : Int := if mayT t = true then (if commitE c = 0 then (if 200000 < t.data.length + (frameB D c).length then 11 else 0) else commitE c) else 6
def appT (D : List UInt8 → List UInt8) (t : Tap) (c : Cmt) : Tap := if appE D t c = 0 then ⟨t.data ++ frameB D c, t.synced⟩ else noTap
def recE (t : Tap) : Int := if mayT t = true then 0 else 6
def recC (D : List UInt8 → List UInt8) (t : Tap) : List Cmt := if mayT t = true then (recL D 1 t.data).1 else []
def recT (D : List UInt8 → List UInt8) (t : Tap) : Tap := if mayT t = true then ⟨t.data.take (recN D t.data), if t.synced > (recN D t.data : Int) then (recN D t.data : Int) else t.synced⟩ else noTap
end Go.Proofs.Ytljdconhplgipab

/-
  What the keeping statements of tapes rest on, with no program.
-/
namespace Go.Proofs.Ytljdconhplgipab
open Go.RowKit
/-- Commits done one behind the other: the tenants behind them. -/
def foldC : FL → List Cmt → Option FL
  | f, [] => some f
  | f, c :: cs => if appliedE f c.writes = 0 then foldC (appliedF f c.writes) cs else none
theorem foldC_snoc : ∀ (cs : List Cmt) (f g : FL) (c : Cmt), foldC f cs = some g → appliedE g c.writes = 0 → foldC f (cs ++ [c]) = some (appliedF g c.writes)
  | [], f, g, c, h, he => by
    simp only [foldC, Option.some.injEq] at h
    subst h
    show (if appliedE f c.writes = 0 then foldC (appliedF f c.writes) [] else none) = _
    rw [if_pos he]; rfl
  | a :: cs, f, g, c, h, he => by
    rw [foldC] at h
    show (if appliedE f a.writes = 0 then foldC (appliedF f a.writes) (cs ++ [c]) else none) = _
    by_cases h0 : appliedE f a.writes = 0
    · rw [if_pos h0] at h ⊢
      exact foldC_snoc cs _ _ c h he
    · rw [if_neg h0] at h; cases h
/-- So few writes have room. -/
theorem apply_fits : ∀ (ws : List Plc) (l : FL) (m : Nat), Forest l → (∀ w ∈ ws, writeE w = 0) → Small m l → m + ws.length ≤ 60 → l.length + ws.length ≤ 8 → applyE l ws = 0
  | [], l, m, _, _, _, _, _ => rfl
  | w :: ws, l, m, h, hv, hs, hm, h8 => by
    have hw := hv w (by simp)
    have hl := written_len l w
    simp only [List.length_cons] at hm h8
    have h2 : writtenE l w = 0 := by
      rw [writtenE_small h hw hs (by omega), if_neg (by omega)]
    rw [applyE, if_pos hw, if_pos h2]
    exact apply_fits ws _ (m + 1) (written_forest h hw h2) (fun x hx => hv x (List.mem_cons_of_mem _ hx)) (small_written h.rises hs w) (by omega) (by omega)
/-- How many writes the next commit takes. -/
def cutN (ws : List Plc) (i : Nat) : Nat := min (1 + (ws.getD i noPlc).key.length % 3) (ws.length - i)
theorem cutN_le (ws : List Plc) (i : Nat) (h : i < ws.length) : 1 ≤ cutN ws i ∧ cutN ws i ≤ 3 ∧ i + cutN ws i ≤ ws.length := by
  unfold cutN
  omega
def cutW (ws : List Plc) (i : Nat) : List Plc := (ws.drop i).take (cutN ws i)
theorem cutW_len (ws : List Plc) (i : Nat) (h : i < ws.length) : (cutW ws i).length = cutN ws i := by
  have := cutN_le ws i h
  unfold cutW
  simp; omega
theorem cutW_ok {ws : List Plc} (hw : ∀ w ∈ ws, writeE w = 0) (i : Nat) : ∀ w ∈ cutW ws i, writeE w = 0 := fun w h => hw w (List.mem_of_mem_drop (List.mem_of_mem_take h))
theorem cut_commit {ws : List Plc} (hw : ∀ w ∈ ws, writeE w = 0) (i : Nat) (h : i < ws.length) (m : Nat) (hm : m < 1000) : commitE ⟨((m + 1 : Nat) : Int), cutW ws i⟩ = 0 := by
  have h1 := cutN_le ws i h
  have h2 := cutW_len ws i h
  refine (commit_iff _).2 ⟨by show (1 : Int) ≤ ((m + 1 : Nat) : Int) ∧ ((m + 1 : Nat) : Int) ≤ 1048576; omega, ?_, cutW_ok hw i⟩
  show 1 ≤ (cutW ws i).length ∧ (cutW ws i).length ≤ 10
  omega
/-- What is kept of commits that are made of writes. -/
structure CmtsOf (ws : List Plc) (i : Nat) (cs : List Cmt) (f : FL) : Prop where
  turn : InTurn 1 cs
  few : cs.length ≤ i
  fold : foldC [] cs = some f
  first : 0 < i → cs ≠ []
  none : i = 0 → cs = []
  forest : Forest f
  small : Small i f
  short : ∀ c ∈ cs, c.writes.length ≤ 3 ∧ ∀ w ∈ c.writes, writeE w = 0
theorem cmtsOf_nil (ws : List Plc) : CmtsOf ws 0 [] [] := ⟨trivial, by simp, rfl, fun h => by omega, fun _ => rfl, forest_nil, small_nil, fun c h => by simp at h⟩
theorem CmtsOf.go {ws : List Plc} {i : Nat} {cs : List Cmt} {f : FL} (h : CmtsOf ws i cs f) (hw : ∀ w ∈ ws, writeE w = 0) (hi : i < ws.length) (hl : ws.length ≤ 50) (he : appliedE f (cutW ws i) = 0) : CmtsOf ws (i + cutN ws i) (cs ++ [⟨((cs.length + 1 : Nat) : Int), cutW ws i⟩]) (appliedF f (cutW ws i)) := by
  have h1 := cutN_le ws i hi
  have h2 := cutW_len ws i hi
  have h3 := h.few
  have he' : applyE f (cutW ws i) = 0 := by rw [← applied_ok h.forest _ (by omega)]; exact he
  have hf : appliedF f (cutW ws i) = applyL f (cutW ws i) := by rw [appliedF, if_pos he]
  refine ⟨h.turn.snoc (by show ((cs.length + 1 : Nat) : Int) = _; omega) (cut_commit hw i hi cs.length (by omega)), by simp; omega, foldC_snoc _ _ _ ⟨_, cutW ws i⟩ h.fold he, fun _ => by simp, fun e => by omega, ?_, ?_, fun c hc => ?_⟩
  · rw [hf]; exact apply_forest _ _ h.forest he'
  · rw [hf, ← h2]; exact apply_small _ _ _ h.forest he' h.small
  · rcases List.mem_append.1 hc with hc | hc
    · exact h.short c hc
    · simp only [List.mem_cons, List.not_mem_nil, or_false] at hc
      subst hc
      exact ⟨by show (cutW ws i).length ≤ 3; omega, cutW_ok hw i⟩
theorem CmtsOf.skip {ws : List Plc} {i : Nat} {cs : List Cmt} {f : FL} (h : CmtsOf ws i cs f) (hw : ∀ w ∈ ws, writeE w = 0) (hi : i < ws.length) (he : appliedE f (cutW ws i) ≠ 0) : CmtsOf ws (i + cutN ws i) cs f := by
  have h1 := cutN_le ws i hi
  have h2 := cutW_len ws i hi
  have h3 := h.few
  have h0 : 0 < i := by
    rcases Nat.eq_zero_or_pos i with h0 | h0
    · exfalso
      have := h.none h0
      subst this
      have hf := h.fold
      simp only [foldC, Option.some.injEq] at hf
      subst hf
      apply he
      rw [applied_ok forest_nil _ (by omega)]
      exact apply_fits _ _ 0 forest_nil (cutW_ok hw i) small_nil (by omega) (by simp; omega)
    · exact h0
  exact ⟨h.turn, by omega, h.fold, fun _ => h.first h0, fun e => by omega, h.forest, h.small.mono (by omega), h.short⟩
/-- A tape with these commits. -/
theorem app_next {D : List UInt8 → List UInt8} (hD : ∀ x, (D x).length = 4) {t : Tap} {c : Cmt} (hc : commitE c = 0) (hs : 0 ≤ t.synced ∧ t.synced ≤ (t.data.length : Int)) (hl : t.data.length ≤ 190000) : appE D t c = 0 ∧ appT D t c = ⟨t.data ++ frameB D c, t.synced⟩ := by
  have h1 := frame_len hD c
  have h2 := commit_size hc
  have hm : mayT t = true := (mayT_iff t).2 ⟨by omega, hs⟩
  have he : appE D t c = 0 := by rw [appE, if_pos hm, if_pos hc, if_neg (by omega)]
  exact ⟨he, by rw [appT, if_pos he]⟩
theorem frame_grows {D : List UInt8 → List UInt8} (hD : ∀ x, (D x).length = 4) {c : Cmt} (hc : commitE c = 0) : 6 ≤ (frameB D c).length ∧ (frameB D c).length ≤ 600 := by
  have h1 := frame_len hD c
  have h2 := commit_size hc
  omega
theorem flatT_next (D : List UInt8 → List UInt8) (cs : List Cmt) (i : Nat) (h : i < cs.length) : flatT D (cs.take (i + 1)) = flatT D (cs.take i) ++ frameB D (cs.getD i noCmt) := by
  rw [List.take_succ_eq_append_getElem h, flatT_append, flatT_one, show cs[i] = cs.getD i noCmt by simp [h]]
/-- What Recover answers of a tape that may be. -/
theorem rec_of {D : List UInt8 → List UInt8} {t : Tap} (hm : mayT t = true) {cs : List Cmt} {r : List UInt8} {n : Nat} (h : recL D 1 t.data = (cs, r)) (hn : recN D t.data = n) : recE t = 0 ∧ recC D t = cs ∧ recT D t = ⟨t.data.take n, if t.synced > (n : Int) then (n : Int) else t.synced⟩ := by
  refine ⟨by rw [recE, if_pos hm], by rw [recC, if_pos hm, h], by rw [recT, if_pos hm, hn]⟩
/-- A whole tape is recovered whole. -/
theorem rec_whole {D : List UInt8 → List UInt8} (hD : ∀ x, (D x).length = 4) {cs : List Cmt} (h : InTurn 1 cs) (s : Int) (hs : 0 ≤ s ∧ s ≤ ((flatT D cs).length : Int)) (hl : (flatT D cs).length ≤ 200000) : recE ⟨flatT D cs, s⟩ = 0 ∧ recC D ⟨flatT D cs, s⟩ = cs ∧ recT D ⟨flatT D cs, s⟩ = ⟨flatT D cs, s⟩ := by
  have hm : mayT ⟨flatT D cs, s⟩ = true := (mayT_iff _).2 ⟨hl, hs⟩
  have h1 := rec_all hD h
  have hn : recN D (flatT D cs) = (flatT D cs).length := by rw [recN, h1]; simp
  obtain ⟨a, b, c⟩ := rec_of hm h1 hn
  refine ⟨a, b, ?_⟩
  rw [c]
  show (⟨(flatT D cs).take (flatT D cs).length, if s > ((flatT D cs).length : Int) then ((flatT D cs).length : Int) else s⟩ : Tap) = _
  rw [List.take_length, if_neg (by omega)]
/-- A torn tape: the commits that are whole. -/
theorem rec_part {D : List UInt8 → List UInt8} (hD : ∀ x, (D x).length = 4) {cs : List Cmt} (h : InTurn 1 cs) (k : Nat) (s : Int) (hk : k ≤ (flatT D cs).length) (hs : 0 ≤ s ∧ s ≤ (k : Int)) (hl : (flatT D cs).length ≤ 200000) :
    ∃ j, j ≤ cs.length ∧ (flatT D (cs.take j)).length ≤ k ∧ (j < cs.length → k < (flatT D (cs.take (j + 1))).length) ∧ recE ⟨(flatT D cs).take k, s⟩ = 0 ∧ recC D ⟨(flatT D cs).take k, s⟩ = cs.take j ∧ recT D ⟨(flatT D cs).take k, s⟩ = ⟨flatT D (cs.take j), if s > ((flatT D (cs.take j)).length : Int) then ((flatT D (cs.take j)).length : Int) else s⟩ := by
  obtain ⟨j, h1, h2, h3, h4, h5⟩ := rec_torn hD h k
  have hkl : ((flatT D cs).take k).length = k := by simp; omega
  have hm : mayT ⟨(flatT D cs).take k, s⟩ = true := (mayT_iff _).2 ⟨by show ((flatT D cs).take k).length ≤ _; omega, by show 0 ≤ s ∧ s ≤ (((flatT D cs).take k).length : Int); omega⟩
  have hn : recN D ((flatT D cs).take k) = (flatT D (cs.take j)).length := by
    rw [recN, h2, hkl]
    show k - (((flatT D cs).take k).drop _).length = _
    rw [List.length_drop, hkl]; omega
  obtain ⟨a, b, c⟩ := rec_of hm h2 hn
  refine ⟨j, h1, h3, h5, a, b, ?_⟩
  rw [c]
  have e : ((flatT D cs).take k).take (flatT D (cs.take j)).length = flatT D (cs.take j) := by
    rw [List.take_take, Nat.min_eq_left h3]
    conv => lhs; rw [← List.take_append_drop j cs, flatT_append]
    rw [show (cs.take j ++ cs.drop j).take j = cs.take j by rw [List.take_append_drop]]
    exact List.take_left' rfl
  show (⟨((flatT D cs).take k).take _, _⟩ : Tap) = _
  rw [e]
/-- One more commit behind commits: in its turn it is recovered, else not. -/
theorem rec_more {D : List UInt8 → List UInt8} (hD : ∀ x, (D x).length = 4) {cs : List Cmt} (h : InTurn 1 cs) {c : Cmt} (hc : commitE c = 0) (s : Int) (hs : 0 ≤ s ∧ s ≤ ((flatT D cs).length : Int)) (hl : (flatT D cs).length ≤ 190000) :
    recE ⟨flatT D cs ++ frameB D c, s⟩ = 0 ∧ recC D ⟨flatT D cs ++ frameB D c, s⟩ = if c.turn = ((cs.length + 1 : Nat) : Int) then cs ++ [c] else cs := by
  have h1 := frame_grows hD hc
  have hm : mayT ⟨flatT D cs ++ frameB D c, s⟩ = true := (mayT_iff _).2 ⟨by show (flatT D cs ++ frameB D c).length ≤ _; rw [List.length_append]; omega, by show 0 ≤ s ∧ s ≤ ((flatT D cs ++ frameB D c).length : Int); rw [List.length_append]; omega⟩
  refine ⟨by rw [recE, if_pos hm], ?_⟩
  rw [recC, if_pos hm]
  show (recL D 1 (flatT D cs ++ frameB D c)).1 = _
  rw [rec_frames hD h]
  have hf := frame_back hD hc []
  rw [List.append_nil] at hf
  by_cases ht : c.turn = ((cs.length + 1 : Nat) : Int)
  · rw [if_pos ht, rec_go hf (by rw [ht]; omega), rec_stop (frame_nil D)]
  · rw [if_neg ht, rec_other hf (by intro e; apply ht; rw [e]; omega)]
    simp
end Go.Proofs.Ytljdconhplgipab

/-
  Histories, with no program: what P7 asks of commits, and the forests behind them.
-/
namespace Go.Proofs.Ytljdconhplgipab
open Go.RowKit
/-- What P7.1 refuses of commits, from the i-th on, behind the tenants of those ahead. -/
def histFrom : FL → Nat → List Cmt → Int
  | _, _, [] => 0
  | f, i, c :: cs => if commitE c = 0 then (if c.turn = ((i + 1 : Nat) : Int) then (if appliedE f c.writes = 0 then histFrom (appliedF f c.writes) (i + 1) cs else appliedE f c.writes) else 3) else commitE c
def histE (l : List Cmt) : Int := if 300 < l.length then 1 else histFrom [] 0 l
/-- The tenants behind commits. -/
def foldH : FL → List Cmt → FL
  | f, [] => f
  | f, c :: cs => foldH (appliedF f c.writes) cs
theorem foldH_append : ∀ (a b : List Cmt) (f : FL), foldH f (a ++ b) = foldH (foldH f a) b
  | [], _, _ => rfl
  | _ :: a, b, _ => foldH_append a b _
theorem foldH_snoc (cs : List Cmt) (f : FL) (c : Cmt) : foldH f (cs ++ [c]) = appliedF (foldH f cs) c.writes := by rw [foldH_append]; rfl
theorem foldH_next (l : List Cmt) (i : Nat) (h : i < l.length) : foldH [] (l.take (i + 1)) = appliedF (foldH [] (l.take i)) (l.getD i noCmt).writes := by
  rw [List.take_succ_eq_append_getElem h, foldH_snoc, show l[i] = l.getD i noCmt by simp [h]]
/-- One commit of the walk. -/
theorem hist_step (l : List Cmt) (i : Nat) (h : i < l.length) : histFrom (foldH [] (l.take i)) i (l.drop i) = if commitE (l.getD i noCmt) = 0 then (if (l.getD i noCmt).turn = ((i + 1 : Nat) : Int) then (if appliedE (foldH [] (l.take i)) (l.getD i noCmt).writes = 0 then histFrom (foldH [] (l.take (i + 1))) (i + 1) (l.drop (i + 1)) else appliedE (foldH [] (l.take i)) (l.getD i noCmt).writes) else 3) else commitE (l.getD i noCmt) := by
  rw [List.drop_eq_getElem_cons h, histFrom, show l[i] = l.getD i noCmt by simp [h], foldH_next l i h]
theorem hist_end (l : List Cmt) : histFrom (foldH [] (l.take l.length)) l.length (l.drop l.length) = 0 := by rw [List.drop_length, histFrom]
/-- Commits, from the i-th on, that are refused nothing. -/
def Goes : FL → Nat → List Cmt → Prop
  | _, _, [] => True
  | f, i, c :: cs => commitE c = 0 ∧ c.turn = ((i + 1 : Nat) : Int) ∧ appliedE f c.writes = 0 ∧ Goes (appliedF f c.writes) (i + 1) cs
theorem histFrom_iff : ∀ (cs : List Cmt) (f : FL) (i : Nat), (∀ c ∈ cs, True) → (histFrom f i cs = 0 ↔ Goes f i cs)
  | [], _, _, _ => ⟨fun _ => trivial, fun _ => rfl⟩
  | c :: cs, f, i, h => by
    rw [histFrom, Goes]
    by_cases h1 : commitE c = 0
    · rw [if_pos h1]
      by_cases h2 : c.turn = ((i + 1 : Nat) : Int)
      · rw [if_pos h2]
        by_cases h3 : appliedE f c.writes = 0
        · rw [if_pos h3, histFrom_iff cs _ _ (fun x _ => trivial)]
          exact ⟨fun h => ⟨h1, h2, h3, h⟩, fun h => h.2.2.2⟩
        · rw [if_neg h3]
          exact ⟨fun h => absurd h h3, fun h => absurd h.2.2.1 h3⟩
      · rw [if_neg h2]
        exact ⟨fun h => by omega, fun h => absurd h.2.1 h2⟩
    · rw [if_neg h1]
      exact ⟨fun h => absurd h h1, fun h => absurd h.1 h1⟩
theorem hist_iff (l : List Cmt) : histE l = 0 ↔ l.length ≤ 300 ∧ Goes [] 0 l := by
  unfold histE
  by_cases h : 300 < l.length
  · rw [if_pos h]
    exact ⟨fun e => by omega, fun e => by omega⟩
  · rw [if_neg h, histFrom_iff _ _ _ (fun _ _ => trivial)]
    exact ⟨fun e => ⟨by omega, e⟩, fun e => e.2⟩
theorem Goes.take : ∀ {cs : List Cmt} {f : FL} {i : Nat} (_ : Goes f i cs) (j : Nat), Goes f i (cs.take j)
  | [], _, _, _, j => by rw [List.take_nil]; trivial
  | _ :: _, _, _, _, 0 => trivial
  | _ :: _, _, _, h, j + 1 => ⟨h.1, h.2.1, h.2.2.1, Goes.take h.2.2.2 j⟩
theorem Goes.at : ∀ {cs : List Cmt} {f : FL} {i : Nat} (_ : Goes f i cs) (j : Nat) (_ : j < cs.length), commitE (cs.getD j noCmt) = 0 ∧ (cs.getD j noCmt).turn = ((i + j + 1 : Nat) : Int) ∧ appliedE (foldH f (cs.take j)) (cs.getD j noCmt).writes = 0
  | [], _, _, _, j, hj => by simp at hj
  | c :: cs, f, i, h, 0, _ => ⟨h.1, h.2.1, h.2.2.1⟩
  | c :: cs, f, i, h, j + 1, hj => by
    have := Goes.at h.2.2.2 j (by simpa using hj)
    rw [show i + (j + 1) + 1 = i + 1 + j + 1 by omega]
    simpa [foldH] using this
/-- A write that is taken leaves a forest. -/
theorem appliedF_forest {l : FL} (h : Forest l) (ws : List Plc) : Forest (appliedF l ws) := by
  unfold appliedF
  by_cases h0 : appliedE l ws = 0
  · rw [if_pos h0]
    unfold appliedE at h0
    rw [if_pos ((forest_iff l).2 h)] at h0
    by_cases h10 : 10 < ws.length
    · rw [if_pos h10] at h0; omega
    · rw [if_neg h10] at h0
      exact apply_forest ws l h h0
  · rw [if_neg h0]; exact forest_nil
theorem foldH_forest : ∀ (cs : List Cmt) (f : FL), Forest f → Forest (foldH f cs)
  | [], _, h => h
  | c :: cs, _, h => foldH_forest cs _ (appliedF_forest h c.writes)
/-- What P7.2 answers. -/
def foldE (l : List Cmt) (turn : Int) : Int := if histE l = 0 then (if 0 ≤ turn ∧ turn ≤ (l.length : Int) then 0 else 2) else histE l
def foldT (l : List Cmt) (turn : Int) : FL := if foldE l turn = 0 then foldH [] (l.take turn.toNat) else []
theorem foldT_forest (l : List Cmt) (turn : Int) : Forest (foldT l turn) := by
  unfold foldT
  split
  · exact foldH_forest _ _ forest_nil
  · exact forest_nil
/-- What P7.4 answers. -/
def keptF (n t : Int) : Bool := decide (0 ≤ t ∧ t ≤ n ∧ n - t < 6)
theorem fold_ok {l : List Cmt} (h : histE l = 0) (k : Nat) (hk : k ≤ l.length) : foldE l (k : Int) = 0 ∧ foldT l (k : Int) = foldH [] (l.take k) := by
  have e : foldE l (k : Int) = 0 := by rw [foldE, if_pos h, if_pos (by omega)]
  exact ⟨e, by rw [foldT, if_pos e, Int.toNat_natCast]⟩
/-- What canopykeep.Commits keeps is a history. -/
theorem foldC_goes : ∀ (cs : List Cmt) (f g : FL) (i : Nat), InTurn (i + 1) cs → foldC f cs = some g → Goes f i cs ∧ foldH f cs = g
  | [], f, g, i, _, h => by
    simp only [foldC, Option.some.injEq] at h
    exact ⟨trivial, h⟩
  | c :: cs, f, g, i, ht, h => by
    rw [foldC] at h
    by_cases h0 : appliedE f c.writes = 0
    · rw [if_pos h0] at h
      obtain ⟨h1, h2⟩ := foldC_goes cs _ g (i + 1) ht.2.2 h
      exact ⟨⟨ht.2.1, ht.1, h0, h1⟩, h2⟩
    · rw [if_neg h0] at h; cases h
end Go.Proofs.Ytljdconhplgipab

/-
  The changes from one forest to another, with no program: what P7.5 asks.
-/
namespace Go.Proofs.Ytljdconhplgipab
open Go.RowKit
/-- By names, then by keys. -/
def plt (a b : Plc) : Bool := klt a.name b.name || (decide (a.name = b.name) && klt a.key b.key)
theorem plt_iff (a b : Plc) : plt a b = true ↔ klt a.name b.name = true ∨ (a.name = b.name ∧ klt a.key b.key = true) := by
  unfold plt
  rw [Bool.or_eq_true, Bool.and_eq_true, decide_eq_true_iff]
theorem plt_irrefl (a : Plc) : plt a a = false := by
  cases h : plt a a with
  | false => rfl
  | true =>
    rcases (plt_iff a a).1 h with h | ⟨_, h⟩
    · rw [klt_irrefl] at h; cases h
    · rw [klt_irrefl] at h; cases h
theorem plt_trans {a b c : Plc} (h : plt a b = true) (k : plt b c = true) : plt a c = true := by
  rw [plt_iff] at h k ⊢
  rcases h with h | ⟨h1, h2⟩
  · rcases k with k | ⟨k1, _⟩
    · exact .inl (klt_trans _ _ _ h k)
    · exact .inl (k1 ▸ h)
  · rcases k with k | ⟨k1, k2⟩
    · exact .inl (h1 ▸ k)
    · exact .inr ⟨h1.trans k1, klt_trans _ _ _ h2 k2⟩
def pSame (a b : Plc) : Prop := a.name = b.name ∧ a.key = b.key
theorem plt_total {a b : Plc} (h : plt a b = false) (hn : ¬ pSame a b) : plt b a = true := by
  rw [plt_iff]
  by_cases he : a.name = b.name
  · right
    refine ⟨he.symm, ?_⟩
    refine klt_total _ _ ?_ (fun e => hn ⟨he, e⟩)
    cases hk : klt a.key b.key with
    | false => rfl
    | true => rw [(plt_iff a b).2 (.inr ⟨he, hk⟩)] at h; cases h
  · left
    refine klt_total _ _ ?_ he
    cases hk : klt a.name b.name with
    | false => rfl
    | true => rw [(plt_iff a b).2 (.inl hk)] at h; cases h
theorem plt_apart {a b : Plc} (h : plt a b = true) : ¬ pSame a b := by
  rintro ⟨h1, h2⟩
  rcases (plt_iff a b).1 h with k | ⟨_, k⟩
  · rw [h1, klt_irrefl] at k; cases k
  · rw [h2, klt_irrefl] at k; cases k
def PRises (l : List Plc) : Prop := l.Pairwise fun a b => plt a b = true
theorem prises_ext : ∀ (l m : List Plc), PRises l → PRises m → (∀ x, x ∈ l ↔ x ∈ m) → l = m
  | [], [], _, _, _ => rfl
  | [], y :: s, _, _, h => by have := (h y).2 (List.mem_cons_self ..); simp at this
  | x :: r, [], _, _, h => by have := (h x).1 (List.mem_cons_self ..); simp at this
  | x :: r, y :: s, hl, hm, h => by
    have h1 := List.pairwise_cons.1 hl
    have h2 := List.pairwise_cons.1 hm
    have hxy : x = y := by
      rcases List.mem_cons.1 ((h x).1 (List.mem_cons_self ..)) with e | e
      · exact e
      · rcases List.mem_cons.1 ((h y).2 (List.mem_cons_self ..)) with e2 | e2
        · exact e2.symm
        · have a := h2.1 x e
          have b := h1.1 y e2
          have := plt_trans a b
          rw [plt_irrefl] at this; cases this
    subst hxy
    congr 1
    refine prises_ext r s h1.2 h2.2 fun z => ?_
    constructor
    · intro hz
      rcases List.mem_cons.1 ((h z).1 (List.mem_cons_of_mem _ hz)) with e | e
      · have := h1.1 z hz; rw [e, plt_irrefl] at this; cases this
      · exact e
    · intro hz
      rcases List.mem_cons.1 ((h z).2 (List.mem_cons_of_mem _ hz)) with e | e
      · have := h2.1 z hz; rw [e, plt_irrefl] at this; cases this
      · exact e
/-- A write among others that rise. -/
def insW : List Plc → Plc → List Plc
  | [], w => [w]
  | x :: r, w => if plt w x = true then w :: x :: r else x :: insW r w
theorem mem_ins : ∀ (l : List Plc) (w x : Plc), x ∈ insW l w ↔ x = w ∨ x ∈ l
  | [], w, x => by simp [insW]
  | y :: r, w, x => by
    rw [insW]
    by_cases h : plt w y = true
    · rw [if_pos h, List.mem_cons]
    · rw [if_neg h, List.mem_cons, mem_ins r w x, List.mem_cons]
      constructor
      · rintro (h | h | h)
        · exact .inr (.inl h)
        · exact .inl h
        · exact .inr (.inr h)
      · rintro (h | h | h)
        · exact .inr (.inl h)
        · exact .inl h
        · exact .inr (.inr h)
theorem ins_rises : ∀ (l : List Plc) (w : Plc), PRises l → (∀ x ∈ l, ¬ pSame w x) → PRises (insW l w)
  | [], w, _, _ => by simp [insW, PRises]
  | y :: r, w, h, hn => by
    have h1 := List.pairwise_cons.1 h
    rw [insW]
    by_cases hy : plt w y = true
    · rw [if_pos hy]
      refine List.pairwise_cons.2 ⟨fun z hz => ?_, h⟩
      rcases List.mem_cons.1 hz with rfl | hz
      · exact hy
      · exact plt_trans hy (h1.1 z hz)
    · rw [if_neg hy]
      refine List.pairwise_cons.2 ⟨fun z hz => ?_, ins_rises r w h1.2 (fun x hx => hn x (List.mem_cons_of_mem _ hx))⟩
      rcases (mem_ins r w z).1 hz with rfl | hz
      · exact plt_total (by simpa using hy) (hn y (List.mem_cons_self ..))
      · exact h1.1 z hz
theorem ins_len : ∀ (l : List Plc) (w : Plc), (insW l w).length = l.length + 1
  | [], w => rfl
  | y :: r, w => by
    rw [insW]
    split
    · rfl
    · rw [List.length_cons, ins_len r w, List.length_cons]
theorem mem_insAll : ∀ (cs l : List Plc) (x : Plc), x ∈ cs.foldl insW l ↔ x ∈ l ∨ x ∈ cs
  | [], l, x => by simp
  | c :: cs, l, x => by
    rw [List.foldl_cons, mem_insAll cs, mem_ins, List.mem_cons]
    constructor
    · rintro ((h | h) | h)
      · exact .inr (.inl h)
      · exact .inl h
      · exact .inr (.inr h)
    · rintro (h | h | h)
      · exact .inl (.inr h)
      · exact .inl (.inl h)
      · exact .inr h
def Apart (l : List Plc) : Prop := l.Pairwise fun a b => ¬ pSame a b
theorem insAll_rises : ∀ (cs l : List Plc), PRises l → Apart cs → (∀ c ∈ cs, ∀ x ∈ l, ¬ pSame c x) → PRises (cs.foldl insW l)
  | [], _, h, _, _ => h
  | c :: cs, l, h, ha, hn => by
    have h1 := List.pairwise_cons.1 ha
    rw [List.foldl_cons]
    refine insAll_rises cs _ (ins_rises l c h (hn c (List.mem_cons_self ..))) h1.2 fun d hd x hx => ?_
    rcases (mem_ins l c x).1 hx with rfl | hx
    · exact fun e => h1.1 d hd ⟨e.1.symm, e.2.symm⟩
    · exact hn d (List.mem_cons_of_mem _ hd) x hx
/-- What must be written of a tenant's pairs; what must go. -/
def putsT (a : FL) (t : Tn) : List Plc := (t.2.filter fun p => !(decide (getF (ofF a t.1) p.1 = some p.2))).map fun p => (⟨t.1, p.1, p.2, false⟩ : Plc)
def gonesT (b : FL) (t : Tn) : List Plc := (t.2.filter fun p => (getF (ofF b t.1) p.1).isNone).map fun p => (⟨t.1, p.1, [], true⟩ : Plc)
def changesL (a b : FL) : List Plc := (a.flatMap (gonesT b)).foldl insW ((b.flatMap (putsT a)).foldl insW [])
theorem getF_in {l : PL} {k v : List UInt8} (h : getF l k = some v) : (k, v) ∈ l := by
  unfold getF at h
  cases hf : l.find? (fun p => p.1 == k) with
  | none => rw [hf] at h; cases h
  | some p =>
    rw [hf] at h
    have h1 := List.mem_of_find?_eq_some hf
    have h2 := List.find?_some hf
    simp only [Option.map_some, Option.some.injEq] at h
    simp only [beq_iff_eq] at h2
    rw [← h, ← h2]
    exact h1
theorem in_getF : ∀ {l : PL} (_ : Rises l) {p : Pr}, p ∈ l → getF l p.1 = some p.2
  | [], _, p, hp => by simp at hp
  | q :: l, h, p, hp => by
    have h1 := List.pairwise_cons.1 h
    rw [get_cons]
    rcases List.mem_cons.1 hp with rfl | hp
    · rw [if_pos rfl]
    · rw [if_neg (klt_ne (h1.1 p hp)), in_getF h1.2 hp]
theorem in_of {l : FL} (h : Forest l) {t : Tn} (ht : t ∈ l) : ofF l t.1 = t.2 := by
  obtain ⟨i, hi, rfl⟩ := List.getElem_of_mem ht
  have := of_at h i hi
  rw [show l.getD i ([], []) = l[i] by simp [hi]] at this
  exact this
theorem of_in {l : FL} {n : List UInt8} (h : ofF l n ≠ []) : (n, ofF l n) ∈ l := by
  unfold ofF t_getF at h ⊢
  cases hf : l.find? (fun p => p.1 == n) with
  | none => rw [hf] at h; exact absurd rfl h
  | some t =>
    have h1 := List.mem_of_find?_eq_some hf
    have h2 := List.find?_some hf
    simp only [beq_iff_eq] at h2
    show (n, t.2) ∈ l
    rw [← h2]; exact h1
theorem got_in {l : FL} {n k v : List UInt8} (h : getF (ofF l n) k = some v) : (n, ofF l n) ∈ l ∧ (k, v) ∈ ofF l n := by
  have h1 := getF_in h
  exact ⟨of_in (fun e => by rw [e] at h1; simp at h1), h1⟩
theorem puts_iff {a b : FL} (hb : Forest b) (x : Plc) : x ∈ b.flatMap (putsT a) ↔ x.gone = false ∧ getF (ofF b x.name) x.key = some x.value ∧ getF (ofF a x.name) x.key ≠ some x.value := by
  rw [List.mem_flatMap]
  constructor
  · rintro ⟨t, ht, hx⟩
    unfold putsT at hx
    obtain ⟨p, hp, rfl⟩ := List.mem_map.1 hx
    obtain ⟨hp1, hp2⟩ := List.mem_filter.1 hp
    have e := in_of hb ht
    refine ⟨rfl, ?_, by simpa using hp2⟩
    show getF (ofF b t.1) p.1 = some p.2
    rw [e]
    exact in_getF (e ▸ (of_tree hb t.1).rises) hp1
  · rintro ⟨h1, h2, h3⟩
    obtain ⟨m1, m2⟩ := got_in h2
    refine ⟨_, m1, ?_⟩
    unfold putsT
    refine List.mem_map.2 ⟨(x.key, x.value), List.mem_filter.2 ⟨m2, by simpa using h3⟩, ?_⟩
    rw [← h1]
theorem gones_iff {a b : FL} (ha : Forest a) (x : Plc) : x ∈ a.flatMap (gonesT b) ↔ x.gone = true ∧ x.value = [] ∧ (getF (ofF a x.name) x.key).isSome = true ∧ getF (ofF b x.name) x.key = none := by
  rw [List.mem_flatMap]
  constructor
  · rintro ⟨t, ht, hx⟩
    unfold gonesT at hx
    obtain ⟨p, hp, rfl⟩ := List.mem_map.1 hx
    obtain ⟨hp1, hp2⟩ := List.mem_filter.1 hp
    have e := in_of ha ht
    refine ⟨rfl, rfl, ?_, by simpa using hp2⟩
    show (getF (ofF a t.1) p.1).isSome = true
    rw [e, in_getF (e ▸ (of_tree ha t.1).rises) hp1]; rfl
  · rintro ⟨h1, h2, h3, h4⟩
    obtain ⟨v, hv⟩ := Option.isSome_iff_exists.1 h3
    obtain ⟨m1, m2⟩ := got_in hv
    refine ⟨_, m1, ?_⟩
    unfold gonesT
    refine List.mem_map.2 ⟨(x.key, v), List.mem_filter.2 ⟨m2, by simp [h4]⟩, ?_⟩
    rw [← h1, ← h2]
theorem side_apart {f : Tn → List Plc} (l : FL) (hl : Forest l) (hn : ∀ t ∈ l, ∀ x ∈ f t, x.name = t.1) (hk : ∀ t ∈ l, Apart (f t)) : Apart (l.flatMap f) := by
  unfold Apart
  rw [List.pairwise_flatMap]
  refine ⟨hk, hl.rises.imp_of_mem ?_⟩
  intro s t hs ht hst x hx y hy e
  have h1 := hn s hs x hx
  have h2 := hn t ht y hy
  rw [← h1, ← h2, e.1, klt_irrefl] at hst
  cases hst
theorem keys_apart {g : Pr → Plc} {q : Pr → Bool} {l : PL} (h : Rises l) (hg : ∀ p, (g p).key = p.1) : Apart ((l.filter q).map g) := by
  unfold Apart
  rw [List.pairwise_map]
  refine (List.Pairwise.filter q h).imp ?_
  intro a b hab e
  rw [← hg a, ← hg b, e.2, klt_irrefl] at hab
  cases hab
theorem puts_apart {a b : FL} (hb : Forest b) : Apart (b.flatMap (putsT a)) := by
  refine side_apart b hb (fun t _ x hx => ?_) (fun t ht => ?_)
  · unfold putsT at hx
    obtain ⟨p, _, rfl⟩ := List.mem_map.1 hx
    rfl
  · exact keys_apart (in_of hb ht ▸ (of_tree hb t.1).rises) (fun _ => rfl)
theorem gones_apart {a b : FL} (ha : Forest a) : Apart (a.flatMap (gonesT b)) := by
  refine side_apart a ha (fun t _ x hx => ?_) (fun t ht => ?_)
  · unfold gonesT at hx
    obtain ⟨p, _, rfl⟩ := List.mem_map.1 hx
    rfl
  · exact keys_apart (in_of ha ht ▸ (of_tree ha t.1).rises) (fun _ => rfl)
theorem changes_rises {a b : FL} (ha : Forest a) (hb : Forest b) : PRises (changesL a b) := by
  unfold changesL
  refine insAll_rises _ _ (insAll_rises _ _ List.Pairwise.nil (puts_apart hb) (fun c _ x hx => by simp at hx)) (gones_apart ha) fun c hc x hx => ?_
  rcases (mem_insAll _ _ _).1 hx with hx | hx
  · simp at hx
  · intro e
    obtain ⟨_, _, _, h4⟩ := (gones_iff ha c).1 hc
    obtain ⟨_, h2, _⟩ := (puts_iff hb x).1 hx
    rw [e.1, e.2, h2] at h4
    cases h4
theorem changes_iff {a b : FL} (ha : Forest a) (hb : Forest b) (x : Plc) : x ∈ changesL a b ↔ (x.gone = false ∧ getF (ofF b x.name) x.key = some x.value ∧ getF (ofF a x.name) x.key ≠ some x.value) ∨ (x.gone = true ∧ x.value = [] ∧ (getF (ofF a x.name) x.key).isSome = true ∧ getF (ofF b x.name) x.key = none) := by
  unfold changesL
  rw [mem_insAll, mem_insAll, gones_iff ha, puts_iff hb]
  simp
/-- Writes that rise and are the changes are these. -/
theorem changes_ext {a b : FL} (ha : Forest a) (hb : Forest b) {l : List Plc} (hl : PRises l) (h : ∀ x, x ∈ l ↔ (x.gone = false ∧ getF (ofF b x.name) x.key = some x.value ∧ getF (ofF a x.name) x.key ≠ some x.value) ∨ (x.gone = true ∧ x.value = [] ∧ (getF (ofF a x.name) x.key).isSome = true ∧ getF (ofF b x.name) x.key = none)) : l = changesL a b :=
  prises_ext _ _ hl (changes_rises ha hb) fun x => by rw [h, changes_iff ha hb]
end Go.Proofs.Ytljdconhplgipab

/-
  Changes make one forest of the other, with no program: what ChangesMake and ChangesBack rest on.
-/
namespace Go.Proofs.Ytljdconhplgipab
open Go.RowKit
/-- Keys that rise and lie among others that rise are no more than these. -/
theorem keys_sub : ∀ (l m : List (List UInt8)), l.Pairwise (fun a b => klt a b = true) → m.Pairwise (fun a b => klt a b = true) → (∀ k ∈ l, k ∈ m) → l.length ≤ m.length
  | [], m, _, _, _ => by simp
  | k :: l, m, hl, hm, h => by
    have h1 := List.pairwise_cons.1 hl
    obtain ⟨s, t, rfl⟩ := List.append_of_mem (h k (List.mem_cons_self ..))
    have h2 := List.pairwise_append.1 hm
    have h3 := List.pairwise_cons.1 h2.2.1
    have : l.length ≤ t.length := keys_sub l t h1.2 h3.2 fun z hz => by
      have hkz := h1.1 z hz
      rcases List.mem_append.1 (h z (List.mem_cons_of_mem _ hz)) with hs | ht
      · have := klt_trans _ _ _ hkz (h2.2.2 z hs k (List.mem_cons_self ..))
        rw [klt_irrefl] at this; cases this
      · rcases List.mem_cons.1 ht with e | ht
        · rw [e, klt_irrefl] at hkz; cases hkz
        · exact ht
    rw [List.length_cons, List.length_append, List.length_cons]
    omega
theorem pl_sub {l m : PL} (hl : Rises l) (hm : Rises m) (h : ∀ k, (getF l k).isSome = true → (getF m k).isSome = true) : l.length ≤ m.length := by
  have := keys_sub (l.map (·.1)) (m.map (·.1)) (by rw [List.pairwise_map]; exact hl) (by rw [List.pairwise_map]; exact hm) fun k hk => by
    obtain ⟨p, hp, rfl⟩ := List.mem_map.1 hk
    obtain ⟨v, hv⟩ := Option.isSome_iff_exists.1 (h p.1 (by rw [in_getF hl hp]; rfl))
    exact List.mem_map.2 ⟨_, getF_in hv, rfl⟩
  simpa using this
theorem fl_sub {l m : FL} (hl : t_Rises l) (hne : ∀ t ∈ l, t.2 ≠ []) (hm : t_Rises m) (hof : ∀ t ∈ l, ofF l t.1 = t.2) (h : ∀ n, ofF l n ≠ [] → ofF m n ≠ []) : l.length ≤ m.length := by
  have := keys_sub (l.map (·.1)) (m.map (·.1)) (by rw [List.pairwise_map]; exact hl) (by rw [List.pairwise_map]; exact hm) fun k hk => by
    obtain ⟨t, ht, rfl⟩ := List.mem_map.1 hk
    have h1 := h t.1 (by rw [hof t ht]; exact hne t ht)
    exact List.mem_map.2 ⟨_, of_in h1, rfl⟩
  simpa using this
theorem rises_of {l : FL} (h : t_Rises l) {t : Tn} (ht : t ∈ l) : ofF l t.1 = t.2 := by
  unfold ofF
  have : t_getF l t.1 = some t.2 := by
    induction l with
    | nil => simp at ht
    | cons q l ih =>
      have h1 := List.pairwise_cons.1 h
      rw [t_get_cons]
      rcases List.mem_cons.1 ht with rfl | ht
      · rw [if_pos rfl]
      · rw [if_neg (klt_ne (h1.1 t ht)), ih h1.2 ht]
  rw [this]; rfl
theorem ne_got {l : PL} (hl : Rises l) (h : l ≠ []) : ∃ k, (getF l k).isSome = true := by
  cases l with
  | nil => exact absurd rfl h
  | cons p l => exact ⟨p.1, by rw [in_getF hl (List.mem_cons_self ..)]; rfl⟩
theorem got_ne {l : PL} {k : List UInt8} (h : (getF l k).isSome = true) : l ≠ [] := by
  intro e; rw [e] at h; cases h
theorem written_full {l : FL} (h : Forest l) (w : Plc) : ∀ t ∈ writtenL l w, t.2 ≠ [] := by
  have hne : ∀ t ∈ l, t.2 ≠ [] := fun t ht => (h.tens t ht).2.1
  intro t ht
  unfold writtenL at ht
  by_cases hn : (nextL l w).length = 0
  · rw [if_pos hn] at ht
    exact hne t (List.mem_filter.1 ht).1
  · rw [if_neg hn] at ht
    rcases t_mem_put l _ t ht with rfl | ht
    · intro e; rw [show nextL l w = [] from e] at hn; simp at hn
    · exact hne t ht
theorem written_tree_rises {l : FL} (h : Forest l) (w : Plc) (n : List UInt8) : Rises (ofF (writtenL l w) n) := by
  rw [written_of h.rises]
  by_cases e : w.name = n
  · rw [if_pos e]
    unfold nextL
    by_cases hg : w.gone = true
    · rw [if_pos hg]; exact del_rises _ _ (of_tree h _).rises
    · rw [if_neg hg]; exact put_rises _ _ (of_tree h _).rises
  · rw [if_neg e]; exact (of_tree h n).rises
/-- There is room where nothing lies but what lies in a forest. -/
theorem written_room {l m : FL} (h : Forest l) (hm : Forest m) {w : Plc} (hw : writeE w = 0) (hs : ∀ n k, (getF (ofF (writtenL l w) n) k).isSome = true → (getF (ofF m n) k).isSome = true) : writtenE l w = 0 := by
  obtain ⟨_, hk, hv⟩ := (writeE_iff w).1 hw
  have hT := of_tree h w.name
  have hne : nextE l w = 0 := by
    unfold nextE
    by_cases hg : w.gone = true
    · rw [if_pos hg]; exact getE_ok hT hk
    · rw [if_neg hg] at hv ⊢
      have h0 : putE0 (ofF l w.name) (w.key, w.value) = 0 := by
        unfold putE0
        rw [if_pos ((tree_iff _).2 hT)]
        exact (pairFault_iff _).2 ⟨hk, hv⟩
      have hl : (putL (ofF l w.name) (w.key, w.value)).length ≤ 60 := by
        refine Nat.le_trans (pl_sub (put_rises _ _ hT.rises) (of_tree hm w.name).rises fun k hk => ?_) (of_tree hm w.name).room
        refine hs w.name k ?_
        rw [written_of h.rises, if_pos rfl, nextL, if_neg hg]
        exact hk
      rw [putE, if_pos h0, if_neg (by omega)]
  have hlen : (writtenL l w).length ≤ 8 := by
    have hr := written_rises h.rises w
    refine Nat.le_trans (fl_sub hr (written_full h w) hm.rises (fun t ht => rises_of hr ht) fun n hn => ?_) hm.room
    obtain ⟨k, hk⟩ := ne_got (written_tree_rises h w n) hn
    exact got_ne (hs n k hk)
  rw [writtenE, if_pos hne, if_neg (by omega)]
def hit (S : List Plc) (n k : List UInt8) : Bool := S.any fun d => decide (d.name = n) && decide (d.key = k)
theorem hit_iff (S : List Plc) (n k : List UInt8) : hit S n k = true ↔ ∃ d ∈ S, d.name = n ∧ d.key = k := by
  unfold hit
  rw [List.any_eq_true]
  constructor
  · rintro ⟨d, hd, h⟩
    rw [Bool.and_eq_true, decide_eq_true_iff, decide_eq_true_iff] at h
    exact ⟨d, hd, h⟩
  · rintro ⟨d, hd, h⟩
    exact ⟨d, hd, by rw [Bool.and_eq_true, decide_eq_true_iff, decide_eq_true_iff]; exact h⟩
theorem hit_snoc (S : List Plc) (w : Plc) (n k : List UInt8) : hit (S ++ [w]) n k = (hit S n k || (decide (w.name = n) && decide (w.key = k))) := by
  unfold hit
  rw [List.any_append]
  simp
/-- Between one forest and another: where S says so it is the other. -/
structure Mid (x y : FL) (S : List Plc) (cur : FL) : Prop where
  forest : Forest cur
  got : ∀ n k, getF (ofF cur n) k = if hit S n k = true then getF (ofF y n) k else getF (ofF x n) k
theorem mid_start {x : FL} (hx : Forest x) (y : FL) : Mid x y [] x := ⟨hx, fun n k => by rw [if_neg (by simp [hit])]⟩
/-- A write that tells what the other has. -/
def Tells (y : FL) (w : Plc) : Prop := getF (ofF y w.name) w.key = if w.gone = true then none else some w.value
theorem Mid.step {x y : FL} {S : List Plc} {cur : FL} (h : Mid x y S cur) {w : Plc} (hw : writeE w = 0) (ht : Tells y w) (he : writtenE cur w = 0) : Mid x y (S ++ [w]) (writtenL cur w) := by
  refine ⟨written_forest h.forest hw he, fun n k => ?_⟩
  rw [get_written h.forest, hit_snoc]
  by_cases e : w.name = n ∧ w.key = k
  · obtain ⟨rfl, rfl⟩ := e
    have hh : (hit S w.name w.key || (decide (w.name = w.name) && decide (w.key = w.key))) = true := by simp
    rw [if_pos ⟨rfl, rfl⟩, if_pos hh]
    exact ht.symm
  · rw [if_neg e, h.got]
    have : (decide (w.name = n) && decide (w.key = k)) = false := by
      cases hd : (decide (w.name = n) && decide (w.key = k)) with
      | false => rfl
      | true => rw [Bool.and_eq_true, decide_eq_true_iff, decide_eq_true_iff] at hd; exact absurd hd e
    rw [this, Bool.or_false]
theorem Mid.goneRoom {x y : FL} {S : List Plc} {cur : FL} (h : Mid x y S cur) {w : Plc} (hw : writeE w = 0) (hg : w.gone = true) : writtenE cur w = 0 := by
  refine written_room h.forest h.forest hw fun n k hs => ?_
  rw [get_written h.forest] at hs
  by_cases e : w.name = n ∧ w.key = k
  · rw [if_pos e, if_pos hg] at hs; cases hs
  · rw [if_neg e] at hs; exact hs
theorem Mid.putRoom {x y : FL} {S : List Plc} {cur : FL} (h : Mid x y S cur) (hy : Forest y) (hG : ∀ n k, (getF (ofF x n) k).isSome = true → getF (ofF y n) k = none → hit S n k = true) {w : Plc} (hw : writeE w = 0) (hg : w.gone = false) (ht : Tells y w) : writtenE cur w = 0 := by
  refine written_room h.forest hy hw fun n k hs => ?_
  rw [get_written h.forest] at hs
  by_cases e : w.name = n ∧ w.key = k
  · unfold Tells at ht
    rw [if_neg (by simp [hg])] at ht
    rw [← e.1, ← e.2, ht]; rfl
  · rw [if_neg e, h.got] at hs
    by_cases hh : hit S n k = true
    · rw [if_pos hh] at hs; exact hs
    · rw [if_neg hh] at hs
      cases hyk : getF (ofF y n) k with
      | none => exact absurd (hG n k hs hyk) hh
      | some v => rfl
theorem Mid.end {x y : FL} {S : List Plc} {cur : FL} (h : Mid x y S cur) (hy : Forest y) (hall : ∀ n k, getF (ofF x n) k ≠ getF (ofF y n) k → hit S n k = true) : cur = y := by
  refine forest_ext2 h.forest hy fun n k => ?_
  rw [h.got]
  by_cases hh : hit S n k = true
  · rw [if_pos hh]
  · rw [if_neg hh]
    by_cases e : getF (ofF x n) k = getF (ofF y n) k
    · exact e
    · exact absurd (hall n k e) hh
end Go.Proofs.Ytljdconhplgipab

/-
  Changes there and back, with no program.
-/
namespace Go.Proofs.Ytljdconhplgipab
open Go.RowKit
theorem change_place {a b : FL} (ha : Forest a) (hb : Forest b) (n k : List UInt8) : hit (changesL a b) n k = true ↔ getF (ofF a n) k ≠ getF (ofF b n) k := by
  rw [hit_iff]
  constructor
  · rintro ⟨d, hd, rfl, rfl⟩
    rcases (changes_iff ha hb d).1 hd with ⟨_, h2, h3⟩ | ⟨_, _, h3, h4⟩
    · rw [h2]; exact h3
    · rw [h4]; intro e; rw [e] at h3; cases h3
  · intro h
    cases hy : getF (ofF b n) k with
    | some v => exact ⟨⟨n, k, v, false⟩, (changes_iff ha hb _).2 (.inl ⟨rfl, hy, by rw [hy] at h; exact h⟩), rfl, rfl⟩
    | none =>
      refine ⟨⟨n, k, [], true⟩, (changes_iff ha hb _).2 (.inr ⟨rfl, rfl, ?_, hy⟩), rfl, rfl⟩
      show (getF (ofF a n) k).isSome = true
      cases hx : getF (ofF a n) k with
      | some v => rfl
      | none => rw [hx, hy] at h; exact absurd rfl h
theorem change_tells {a b : FL} (ha : Forest a) (hb : Forest b) {w : Plc} (h : w ∈ changesL a b) : Tells b w := by
  unfold Tells
  rcases (changes_iff ha hb w).1 h with ⟨h1, h2, _⟩ | ⟨h1, _, _, h4⟩
  · rw [h2, if_neg (by simp [h1])]
  · rw [h4, if_pos h1]
theorem in_name {l : FL} (h : Forest l) {n k v : List UInt8} (hg : getF (ofF l n) k = some v) : (1 ≤ n.length ∧ n.length ≤ 8) ∧ (1 ≤ k.length ∧ k.length ≤ 16) ∧ v.length ≤ 32 := by
  obtain ⟨h1, h2⟩ := got_in hg
  have h3 := h.tens _ h1
  have h4 := h3.2.2.pairs _ h2
  exact ⟨h3.1, h4.1, h4.2⟩
theorem change_ok {a b : FL} (ha : Forest a) (hb : Forest b) {w : Plc} (h : w ∈ changesL a b) : writeE w = 0 := by
  refine (writeE_iff w).2 ?_
  rcases (changes_iff ha hb w).1 h with ⟨h1, h2, _⟩ | ⟨h1, h2, h3, _⟩
  · obtain ⟨k1, k2, k3⟩ := in_name hb h2
    exact ⟨k1, k2, by rw [if_neg (by simp [h1])]; exact k3⟩
  · obtain ⟨v, hv⟩ := Option.isSome_iff_exists.1 h3
    obtain ⟨k1, k2, _⟩ := in_name ha hv
    exact ⟨k1, k2, by rw [if_pos h1]; exact h2⟩
theorem changes_none {a : FL} (ha : Forest a) : changesL a a = [] := by
  cases h : changesL a a with
  | nil => rfl
  | cons w l =>
    have hw : w ∈ changesL a a := by rw [h]; exact List.mem_cons_self ..
    rcases (changes_iff ha ha w).1 hw with ⟨_, h2, h3⟩ | ⟨_, _, h3, h4⟩
    · exact absurd h2 h3
    · rw [h4] at h3; cases h3
/-- The place of a write alone. -/
def normW (w : Plc) : Plc := ⟨w.name, w.key, [], false⟩
theorem norm_plt (a b : Plc) : plt (normW a) (normW b) = plt a b := rfl
theorem norm_rises {l : List Plc} (h : PRises l) : PRises (l.map normW) := by
  unfold PRises
  rw [List.pairwise_map]
  exact h
theorem changes_back {a b : FL} (ha : Forest a) (hb : Forest b) : (changesL a b).map normW = (changesL b a).map normW := by
  refine prises_ext _ _ (norm_rises (changes_rises ha hb)) (norm_rises (changes_rises hb ha)) fun x => ?_
  have key : ∀ (a b : FL), Forest a → Forest b → x ∈ (changesL a b).map normW → x ∈ (changesL b a).map normW := by
    intro a b ha hb hx
    obtain ⟨y, hy, rfl⟩ := List.mem_map.1 hx
    have h1 := (change_place ha hb y.name y.key).1 ((hit_iff _ _ _).2 ⟨y, hy, rfl, rfl⟩)
    obtain ⟨z, hz, e1, e2⟩ := (hit_iff _ _ _).1 ((change_place hb ha y.name y.key).2 (fun e => h1 e.symm))
    exact List.mem_map.2 ⟨z, hz, by unfold normW; rw [e1, e2]⟩
  exact ⟨key a b ha hb, key b a hb ha⟩
theorem back_len {a b : FL} (ha : Forest a) (hb : Forest b) : (changesL a b).length = (changesL b a).length := by
  have := congrArg List.length (changes_back ha hb)
  simpa using this
theorem back_at {a b : FL} (ha : Forest a) (hb : Forest b) (i : Nat) (hi : i < (changesL a b).length) : ((changesL a b).getD i noPlc).name = ((changesL b a).getD i noPlc).name ∧ ((changesL a b).getD i noPlc).key = ((changesL b a).getD i noPlc).key ∧ ¬ (((changesL a b).getD i noPlc).gone = true ∧ ((changesL b a).getD i noPlc).gone = true) := by
  have hi2 : i < (changesL b a).length := by rw [← back_len ha hb]; exact hi
  have h := congrArg (fun l => l.getD i noPlc) (changes_back ha hb)
  have e1 : ((changesL a b).map normW).getD i noPlc = normW ((changesL a b).getD i noPlc) := by simp [hi]
  have e2 : ((changesL b a).map normW).getD i noPlc = normW ((changesL b a).getD i noPlc) := by simp [hi2]
  simp only [e1, e2] at h
  have hn : ((changesL a b).getD i noPlc).name = ((changesL b a).getD i noPlc).name := (congrArg Plc.name h : (normW ((changesL a b).getD i noPlc)).name = (normW ((changesL b a).getD i noPlc)).name)
  have hk : ((changesL a b).getD i noPlc).key = ((changesL b a).getD i noPlc).key := (congrArg Plc.key h : (normW ((changesL a b).getD i noPlc)).key = (normW ((changesL b a).getD i noPlc)).key)
  refine ⟨hn, hk, ?_⟩
  rintro ⟨g1, g2⟩
  have m1 : (changesL a b).getD i noPlc ∈ changesL a b := by rw [show (changesL a b).getD i noPlc = (changesL a b)[i] by simp [hi]]; exact List.getElem_mem hi
  have m2 : (changesL b a).getD i noPlc ∈ changesL b a := by rw [show (changesL b a).getD i noPlc = (changesL b a)[i] by simp [hi2]]; exact List.getElem_mem hi2
  rcases (changes_iff ha hb _).1 m1 with ⟨h1, _⟩ | ⟨_, _, _, h4⟩
  · rw [g1] at h1; cases h1
  · rcases (changes_iff hb ha _).1 m2 with ⟨h1, _⟩ | ⟨_, _, h3, _⟩
    · rw [g2] at h1; cases h1
    · rw [← hn, ← hk, h4] at h3; cases h3
/-- Neighbours rise. -/
theorem prises_step {l : List Plc} (h : PRises l) (i : Nat) (h0 : 0 < i) (hi : i < l.length) : plt (l.getD (i - 1) noPlc) (l.getD i noPlc) = true := by
  have := List.pairwise_iff_getElem.1 h (i - 1) i (by omega) hi (by omega)
  rw [show l.getD (i - 1) noPlc = l[i - 1] by simp [show i - 1 < l.length by omega], show l.getD i noPlc = l[i] by simp [hi]]
  exact this
/-- What P7.5 answers. -/
def chgE (l : List Cmt) (i j : Int) : Int := if foldE l i = 0 then foldE l j else foldE l i
def chgW (l : List Cmt) (i j : Int) : List Plc := if chgE l i j = 0 then changesL (foldT l i) (foldT l j) else []
theorem insAll_len : ∀ (cs l : List Plc), (cs.foldl insW l).length = l.length + cs.length
  | [], l => rfl
  | c :: cs, l => by rw [List.foldl_cons, insAll_len cs, ins_len, List.length_cons]; omega
theorem flatW_lenH {f : Tn → List Plc} : ∀ (l : FL), (∀ t ∈ l, (f t).length ≤ 60) → (l.flatMap f).length ≤ l.length * 60
  | [], _ => by simp
  | t :: l, h => by
    have h1 := h t (List.mem_cons_self ..)
    have h2 := flatW_lenH l (fun x hx => h x (List.mem_cons_of_mem _ hx))
    rw [List.flatMap_cons, List.length_append, List.length_cons]
    omega
theorem changes_len {a b : FL} (ha : Forest a) (hb : Forest b) : (changesL a b).length ≤ 960 := by
  unfold changesL
  rw [insAll_len, insAll_len]
  have h1 : (b.flatMap (putsT a)).length ≤ b.length * 60 := flatW_lenH b fun t ht => by
    unfold putsT
    rw [List.length_map]
    exact Nat.le_trans (List.length_filter_le _ _) (hb.tens t ht).2.2.room
  have h2 : (a.flatMap (gonesT b)).length ≤ a.length * 60 := flatW_lenH a fun t ht => by
    unfold gonesT
    rw [List.length_map]
    exact Nat.le_trans (List.length_filter_le _ _) (ha.tens t ht).2.2.room
  have := ha.room
  have := hb.room
  simp only [List.length_nil]
  omega
end Go.Proofs.Ytljdconhplgipab

/-
  The forests behind any number of turns, with no program.
-/
namespace Go.Proofs.Ytljdconhplgipab
open Go.RowKit
/-- What a commit more is refused for, and the tenants behind it. -/
def grownE (f : FL) (c : Cmt) (t : Int) : Int := if commitE c = 0 then (if c.turn = t then appliedE f c.writes else 3) else commitE c
def grownF (f : FL) (c : Cmt) (t : Int) : FL := if grownE f c t = 0 then appliedF f c.writes else []
theorem grown_step (l : List Cmt) (i : Nat) (h : i < l.length) : histFrom (foldH [] (l.take i)) i (l.drop i) = if grownE (foldH [] (l.take i)) (l.getD i noCmt) ((i + 1 : Nat) : Int) = 0 then histFrom (foldH [] (l.take (i + 1))) (i + 1) (l.drop (i + 1)) else grownE (foldH [] (l.take i)) (l.getD i noCmt) ((i + 1 : Nat) : Int) := by
  rw [hist_step l i h]
  unfold grownE
  by_cases h1 : commitE (l.getD i noCmt) = 0
  · rw [if_pos h1, if_pos h1]
    by_cases h2 : (l.getD i noCmt).turn = ((i + 1 : Nat) : Int)
    · rw [if_pos h2, if_pos h2]
    · rw [if_neg h2, if_neg h2, if_neg (by omega)]
  · rw [if_neg h1, if_neg h1, if_neg h1]
theorem grown_next (l : List Cmt) (i : Nat) (h : i < l.length) (he : grownE (foldH [] (l.take i)) (l.getD i noCmt) ((i + 1 : Nat) : Int) = 0) : grownF (foldH [] (l.take i)) (l.getD i noCmt) ((i + 1 : Nat) : Int) = foldH [] (l.take (i + 1)) := by
  rw [grownF, if_pos he, foldH_next l i h]
/-- What turns are refused for. -/
def turnsE (n : Nat) : List Int → Int
  | [] => 0
  | t :: ts => if 0 ≤ t ∧ t ≤ (n : Int) then turnsE n ts else 2
def behE (l : List Cmt) (ts : List Int) : Int := if histE l = 0 then turnsE l.length ts else histE l
theorem behE_none (l : List Cmt) : behE l [] = histE l := by
  unfold behE
  by_cases h : histE l = 0
  · rw [if_pos h, h]; rfl
  · rw [if_neg h]
theorem behE_one (l : List Cmt) (t : Int) : behE l [t] = foldE l t := rfl
theorem turns_step (n : Nat) (ts : List Int) (k : Nat) (h : k < ts.length) : turnsE n (ts.drop k) = if 0 ≤ ts.getD k 0 ∧ ts.getD k 0 ≤ (n : Int) then turnsE n (ts.drop (k + 1)) else 2 := by
  rw [List.drop_eq_getElem_cons h, turnsE, show ts[k] = ts.getD k 0 by simp [h]]
theorem turns_end (n : Nat) (ts : List Int) : turnsE n (ts.drop ts.length) = 0 := by rw [List.drop_length]; rfl
theorem turns_at : ∀ (n : Nat) (ts : List Int), turnsE n ts = 0 → ∀ k, k < ts.length → 0 ≤ ts.getD k 0 ∧ ts.getD k 0 ≤ (n : Int)
  | _, [], _, k, hk => by simp at hk
  | n, t :: ts, h, k, hk => by
    rw [turnsE] at h
    by_cases h1 : 0 ≤ t ∧ t ≤ (n : Int)
    · rw [if_pos h1] at h
      cases k with
      | zero => exact h1
      | succ k => exact turns_at n ts h k (by simpa using hk)
    · rw [if_neg h1] at h; omega
/-- What lies at a turn's place behind m commits. -/
def behT (l : List Cmt) (m : Nat) (t : Int) : FL := if 0 ≤ t ∧ t ≤ (m : Int) then foldH [] (l.take t.toNat) else []
theorem behT_zero (l : List Cmt) (t : Int) : behT l 0 t = [] := by
  unfold behT
  by_cases h : 0 ≤ t ∧ t ≤ ((0 : Nat) : Int)
  · rw [if_pos h, show t.toNat = 0 by omega]; rfl
  · rw [if_neg h]
theorem behT_same (l : List Cmt) (m : Nat) (t : Int) (h : t ≠ ((m + 1 : Nat) : Int)) : behT l (m + 1) t = behT l m t := by
  unfold behT
  by_cases h1 : 0 ≤ t ∧ t ≤ (m : Int)
  · rw [if_pos h1, if_pos (by omega)]
  · rw [if_neg h1, if_neg (by omega)]
theorem behT_next (l : List Cmt) (m : Nat) (t : Int) (h : t = ((m + 1 : Nat) : Int)) : behT l (m + 1) t = foldH [] (l.take (m + 1)) := by
  unfold behT
  rw [if_pos (by omega), show t.toNat = m + 1 by omega]
theorem beh_hist {l : List Cmt} {ts : List Int} (h : behE l ts = 0) : histE l = 0 := by
  unfold behE at h
  by_cases h1 : histE l = 0
  · exact h1
  · rw [if_neg h1] at h; exact h
theorem beh_turns {l : List Cmt} {ts : List Int} (h : behE l ts = 0) : turnsE l.length ts = 0 := by
  have h1 := beh_hist h
  unfold behE at h
  rw [if_pos h1] at h; exact h
theorem behT_end {l : List Cmt} {ts : List Int} (h : behE l ts = 0) (k : Nat) (hk : k < ts.length) : behT l l.length (ts.getD k 0) = foldT l (ts.getD k 0) := by
  have h1 := turns_at _ _ (beh_turns h) k hk
  have h2 : foldE l (ts.getD k 0) = 0 := by rw [foldE, if_pos (beh_hist h), if_pos h1]
  rw [behT, if_pos h1, foldT, if_pos h2]
end Go.Proofs.Ytljdconhplgipab

/-
  A list of writes with two bases (where its own block lies, where its bytes may lie), and blocks that turn beside it.
-/
namespace Go.Proofs.Ytljdconhplgipab
open Go.RowKit
theorem set_self {w : World} {b i : Nat} {cs : Array Value} {t : TypeId} {fz : Nat × Nat} {u : Value} (h : w.heap[b]? = some (.cells cs t fz)) : (w.setCell ⟨b, i, none⟩ u).heap[b]? = some (.cells (cs.setIfInBounds i u) t fz) := by
  simp only [World.setCell, Array.getElem?_modify, if_true, h, Option.map_some]; rfl
theorem set_apart {w : World} {b c i : Nat} {o : Obj} {u : Value} (h : w.heap[b]? = some o) (hne : b ≠ c) : (w.setCell ⟨c, i, none⟩ u).heap[b]? = some o := by
  simp only [World.setCell, Array.getElem?_modify]
  rw [if_neg (fun e => hne e.symm)]; exact h
theorem set_grown (w : World) (b i : Nat) (u : Value) : w.grownBy (w.setCell ⟨b, i, none⟩ u) (some b) := grown_set (grown_refl w _) i u
theorem PartIs.setOther {base : Nat} {w : World} {v : Value} {bs : List UInt8} (h : PartIs base w v bs) {b i : Nat} {cs : Array Value} {t : TypeId} {fz : Nat × Nat} (hb : w.heap[b]? = some (.cells cs t fz)) (ht : t ≠ 5) (hbb : base ≤ b) (u : Value) : PartIs base (w.setCell ⟨b, i, none⟩ u) v bs :=
  h.keptT (set_grown w b i u) (.inr ⟨b, cs, t, fz, rfl, hbb, hb, ht⟩)
/-- The list v of writes is the call's own, from block rb on; its bytes lie ahead of block pb, or in blocks of bytes. -/
def OwnV (rb pb : Nat) (w : World) (v : Value) (l : List Plc) : Prop :=
  ∃ us : List WV, us.map (·.1) = l ∧ w.ownsRow rb 35 4 v l.length (flatW us) ∧ ∀ x ∈ us, PartIs pb w x.2.1 x.1.name ∧ PartIs pb w x.2.2.1 x.1.key ∧ PartIs pb w x.2.2.2 x.1.value
theorem ownV_nil (rb pb : Nat) (w : World) : OwnV rb pb w (.slice none 0 0) [] := ⟨[], rfl, World.ownsRow_nil _ _ _ _, fun x hx => by simp at hx⟩
theorem OwnV.own {rb : Nat} {w : World} {v : Value} {l : List Plc} (h : OwnV rb rb w v l) : OwnW rb w v l := h
theorem OwnV.row {rb pb : Nat} {w : World} {v : Value} {l : List Plc} (h : OwnV rb pb w v l) : v.ownBlock = none ∨ ∃ g cur fz, v.ownBlock = some g ∧ rb ≤ g ∧ w.heap[g]? = some (.cells cur 35 fz) := by
  obtain ⟨us, _, h, _⟩ := h
  rcases h.2 with ⟨rfl, _⟩ | ⟨g, cap, cur, rfl, hb, hg, _⟩
  · exact .inl rfl
  · exact .inr ⟨g, cur, _, rfl, hb, hg⟩
theorem OwnV.lt {rb pb : Nat} {w : World} {v : Value} {l : List Plc} (h : OwnV rb pb w v l) : ∀ k, v.ownBlock = some k → rb ≤ k ∧ k < w.heap.size := by
  obtain ⟨us, _, h, _⟩ := h
  exact World.ownsRow.lt h
theorem OwnV.ne {rb pb : Nat} {w : World} {v : Value} {l : List Plc} (h : OwnV rb pb w v l) {b : Nat} {cs : Array Value} {t : TypeId} {fz : Nat × Nat} (hb : w.heap[b]? = some (.cells cs t fz)) (ht : t ≠ 35) : v.ownBlock ≠ some b := by
  intro e
  rcases h.row with h0 | ⟨g, cur, fz2, h1, _, h2⟩
  · rw [h0] at e; cases e
  · rw [h1] at e
    cases e
    rw [hb] at h2
    simp only [Option.some.injEq, Obj.cells.injEq] at h2
    exact ht h2.2.1
theorem OwnV.kept {rb pb : Nat} {w w' : World} {v : Value} {l : List Plc} (h : OwnV rb pb w v l) {row : Option Nat} (hg : w.grownBy w' row) (hne : v.ownBlock = none ∨ v.ownBlock ≠ row) (hrow : row = none ∨ ∃ g cur t fz, row = some g ∧ pb ≤ g ∧ w.heap[g]? = some (.cells cur t fz) ∧ t ≠ 5) : OwnV rb pb w' v l := by
  obtain ⟨us, h1, h2, h3⟩ := h
  exact ⟨us, h1, World.ownsRow.kept h2 hg hne, fun x hx => ⟨(h3 x hx).1.keptT hg hrow, (h3 x hx).2.1.keptT hg hrow, (h3 x hx).2.2.keptT hg hrow⟩⟩
theorem OwnV.grownNone {rb pb : Nat} {w w' : World} {v : Value} {l : List Plc} (h : OwnV rb pb w v l) (hg : w.grownBy w' none) : OwnV rb pb w' v l := h.kept hg (by
  cases hv : v.ownBlock with
  | none => exact .inl rfl
  | some k => exact .inr (by simp)) (.inl rfl)
theorem OwnV.setOther {rb pb : Nat} {w : World} {v : Value} {l : List Plc} (h : OwnV rb pb w v l) {b i : Nat} {cs : Array Value} {t : TypeId} {fz : Nat × Nat} (hb : w.heap[b]? = some (.cells cs t fz)) (ht : t ≠ 5) (ht2 : t ≠ 35) (hbb : pb ≤ b) (u : Value) : OwnV rb pb (w.setCell ⟨b, i, none⟩ u) v l :=
  h.kept (set_grown w b i u) (.inr (h.ne hb ht2)) (.inr ⟨b, cs, t, fz, rfl, hbb, hb, ht⟩)
theorem OwnV.shape {rb pb : Nat} {w : World} {v : Value} {l : List Plc} (h : OwnV rb pb w v l) : ∃ a cap, v = .slice a l.length cap := by
  obtain ⟨us, _, h, _⟩ := h
  rcases h.2 with ⟨rfl, h0⟩ | ⟨g, cap, cur, rfl, _⟩
  · exact ⟨none, 0, by rw [h0]⟩
  · exact ⟨_, cap, rfl⟩
theorem OwnV.any {rb pb : Nat} {w : World} {v : Value} {l : List Plc} (h : OwnV rb pb w v l) : ∃ a n cap, v = .slice a n cap := by
  obtain ⟨a, cap, e⟩ := h.shape
  exact ⟨a, _, cap, e⟩
theorem OwnV.down {rb pb : Nat} {w : World} {v : Value} {l : List Plc} (h : OwnV rb pb w v l) (rb' : Nat) (hb : rb' ≤ rb) : OwnV rb' pb w v l := by
  obtain ⟨us, h1, h2, h3⟩ := h
  refine ⟨us, h1, ⟨h2.1, ?_⟩, h3⟩
  rcases h2.2 with h | ⟨g, cap, cur, e, hb2, rest⟩
  · exact .inl h
  · exact .inr ⟨g, cap, cur, e, Nat.le_trans hb hb2, rest⟩
theorem OwnV.writesB {rb pb : Nat} {w : World} {v : Value} {l : List Plc} (h : OwnV rb pb w v l) : WritesB pb w v l := by
  obtain ⟨us, hl, hr, h3⟩ := h
  rcases hr.2 with ⟨rfl, h0⟩ | ⟨g, cap, cur, rfl, hb, hg, hn, hm, hs, ht⟩
  · have : l = [] := List.eq_nil_of_length_eq_zero h0
    rw [this]
    exact writesB_nil pb w
  · have hcell : ∀ j u, (flatW us)[j]? = some u → w.cell? ⟨g, j, none⟩ = some u := by
      intro j u hj
      have hlt : j < l.length * 4 := by
        have := (List.getElem?_eq_some_iff.1 hj).1
        rw [hr.1] at this
        exact this
      have e2 : (cur.toList.take (l.length * 4))[j]? = (flatW us)[j]? := by rw [ht]
      rw [List.getElem?_take, if_pos hlt, hj] at e2
      simp [World.cell?, hg]
      simpa using e2
    refine ⟨_, cap, rfl, hn, .inr ⟨g, 0, rfl, .inr ⟨_, _, hg⟩, fun i hi => ?_⟩⟩
    obtain ⟨e1, e2⟩ := mapW_getD hl i hi
    have hlen : us.length = l.length := by rw [← hl]; simp
    obtain ⟨c1, c2, c3, c4⟩ := flatW_get us i (by omega)
    have hp := h3 _ e2
    rw [e1] at c3 hp
    rw [Nat.zero_add]
    exact ⟨_, _, _, hcell _ _ c1, hcell _ _ c2, hcell _ _ c3, hcell _ _ c4, hp.1, hp.2.1, hp.2.2⟩
theorem OwnV.list {rb pb : Nat} {w : World} {v : Value} {l : List Plc} (h : OwnV rb pb w v l) : WritesIs w v l := h.writesB.list
theorem grown_ownV {rb pb : Nat} {w W w1 : World} {v : Value} {l : List Plc} (h : w.grownBy W none) (ho : OwnV rb pb W v l) (hb : w.heap.size ≤ rb) (hg : W.grownBy w1 v.ownBlock) : w.grownBy w1 none :=
  ⟨hg.os.trans h.os, hg.tape.trans h.tape, hg.output.trans h.output, Nat.le_trans h.size hg.size, fun i hi hn => (hg.block i (Nat.lt_of_lt_of_le hi h.size) (fun e => by have := (ho.lt i e.symm).1; omega)).trans (h.block i hi hn)⟩
/-- append(v, x) of one write. -/
theorem wpList_append_wrV {w : World} {ops : Array Oper} {rest : List Oper} {o : Oper} {a : Act} {Q : Exit → Act → World → Prop} (hgd : o.guard = none) (s x : Operand)
    (ho : o.op = .call { callee := .builtin .append, args := #[s, x], argTypes := #[26, 26] }) (rb : Nat) (v : Value) (l : List Plc) (hs : a.eval s = v) (hown : OwnV rb 0 w v l)
    (vn vk vv : Value) (p : Plc) (h1 : PartIs 0 w vn p.name) (h2 : PartIs 0 w vk p.key) (h3 : PartIs 0 w vv p.value) (nb : Nat) (hb : w.heap[nb]? = some (.cells #[vn, vk, .bool p.gone, vv] 35))
    (hx : a.eval x = .slice (some ⟨nb, 0, none⟩) 1 1) (hl : (l.length + 1) * 80 ≤ 140737488355328) (hbase : rb ≤ w.heap.size)
    (h : ∀ v' w', OwnV rb 0 w' v' (l ++ [p]) → w.grownBy w' v.ownBlock → wpList Try.prog ops Q rest (a.put o.dst v') w') : wpList Try.prog ops Q (o :: rest) a w := by
  obtain ⟨i0, hi, hz0, hz1, hz2⟩ := info_parts infoWr
  have hrow : v.ownBlock = none ∨ ∃ g cur t fz, v.ownBlock = some g ∧ 0 ≤ g ∧ w.heap[g]? = some (.cells cur t fz) ∧ t ≠ 5 := by
    rcases hown.row with h | ⟨g, cur, fz, e, _, h⟩
    · exact .inl h
    · exact .inr ⟨g, cur, _, fz, e, Nat.zero_le _, h, wrT5⟩
  obtain ⟨us, hul, hr, hp⟩ := hown
  refine wpList_plain hgd fun K hK => ?_
  refine wp_append_lies w s x 26 ho rb 35 i0 (.agg #[.slice none 0 0, .slice none 0 0, .bool false, .slice none 0 0]) 4 80 Try.underlying26 hi hz0 hz1 hz2 rfl (by decide) v l.length (flatW us) hs hr ⟨nb, 0, none⟩ 1 1 (flatW [(p, vn, vk, vv)]) hx rfl (World.news_of_block (cs := #[vn, vk, .bool p.gone, vv]) hb) ?_ (by omega) (by unfold maxLen; omega) hl hbase _ rfl ?_
  · intro u hu
    simp only [flatW, List.flatMap_cons, List.flatMap_nil, List.append_nil, List.mem_cons, List.not_mem_nil, or_false] at hu
    rcases hu with rfl | rfl | rfl | rfl
    · exact part_oneCell h1
    · exact part_oneCell h2
    · rfl
    · exact part_oneCell h3
  · intro g cap w' q1 q2 _ _
    refine hK _ _ (h _ w' ⟨us ++ [(p, vn, vk, vv)], by simp [hul], ?_, ?_⟩ q2)
    · rw [flatW_append, List.length_append]; exact q1
    · intro y hy
      rcases List.mem_append.1 hy with hy | hy
      · exact ⟨(hp y hy).1.keptT q2 hrow, (hp y hy).2.1.keptT q2 hrow, (hp y hy).2.2.keptT q2 hrow⟩
      · simp only [List.mem_cons, List.not_mem_nil, or_false] at hy
        subst hy
        exact ⟨h1.keptT q2 hrow, h2.keptT q2 hrow, h3.keptT q2 hrow⟩
end Go.Proofs.Ytljdconhplgipab

/-
  What tape.Check must keep.
-/
namespace Go.Proofs.Ytljdconhplgipab
open Go.RowKit
def TpCheckOK : Prop := ∀ (w : World) (v : Value) (c : Cmt), CommitIs w v c → FitsC c → Calls Try.prog 48 #[v] w fun e w' => e = .returned (.int .i64 (commitE c)) ∧ w.grownBy w' none
end Go.Proofs.Ytljdconhplgipab

/-
  Lists of commits where other blocks turn.
-/
namespace Go.Proofs.Ytljdconhplgipab
open Go.RowKit
theorem OwnC.ne {base : Nat} {w : World} {v : Value} {l : List Cmt} (h : OwnC base w v l) {b : Nat} {cs : Array Value} {t : TypeId} {fz : Nat × Nat} (hb : w.heap[b]? = some (.cells cs t fz)) (ht : t ≠ 48) : v.ownBlock ≠ some b := by
  intro e
  obtain ⟨us, _, h, _⟩ := h
  rcases h.2 with ⟨rfl, _⟩ | ⟨g, cap, cur, rfl, _, hg, _⟩
  · cases e
  · cases e
    rw [hb] at hg
    simp only [Option.some.injEq, Obj.cells.injEq] at hg
    exact ht hg.2.1
theorem OwnC.setOther {base : Nat} {w : World} {v : Value} {l : List Cmt} (h : OwnC base w v l) {b i : Nat} {cs : Array Value} {t : TypeId} {fz : Nat × Nat} (hb : w.heap[b]? = some (.cells cs t fz)) (ht : t ≠ 5) (ht2 : t ≠ 35) (ht3 : t ≠ 48) (hbb : base ≤ b) (u : Value) : OwnC base (w.setCell ⟨b, i, none⟩ u) v l := by
  have hne := h.ne hb ht3
  obtain ⟨us, h1, h2, h3⟩ := h
  exact ⟨us, h1, World.ownsRow.kept h2 (set_grown w b i u) (.inr hne), fun x hx => (h3 x hx).kept (set_grown w b i u) (.inr ⟨b, cs, t, fz, rfl, hbb, hb, ht, ht2⟩)⟩
/-- A block of another type stays where a list of commits grows. -/
theorem OwnC.other {base : Nat} {w w' : World} {v : Value} {l : List Cmt} (h : OwnC base w v l) (hg : w.grownBy w' v.ownBlock) {b : Nat} {cs : Array Value} {t : TypeId} {fz : Nat × Nat} (hb : w.heap[b]? = some (.cells cs t fz)) (ht : t ≠ 48) : w'.heap[b]? = some (.cells cs t fz) := by
  rw [hg.block b (Array.getElem?_eq_some_iff.1 hb).1 (fun e => h.ne hb ht e.symm)]; exact hb
theorem flatC_len (us : List CV) : (flatC us).length = us.length * 2 := by
  induction us with
  | nil => rfl
  | cons x r ih => simp only [flatC, List.flatMap_cons, List.length_append, List.length_cons, List.length_nil] at ih ⊢; omega
theorem flatC_set : ∀ (us : List CV) (i : Nat) (x : CV), i < us.length → x.2 = (us.getD i noCV).2 → flatC (us.set i x) = (flatC us).set (i * 2) (.int .i64 x.1.turn)
  | [], i, _, h, _ => by simp at h
  | y :: us, 0, x, _, h => by
    have h : x.2 = y.2 := by simpa using h
    simp [flatC, h]
  | y :: us, i + 1, x, hi, h => by
    have := flatC_set us i x (by simpa using hi) (by simpa using h)
    rw [List.set_cons_succ, show (i + 1) * 2 = i * 2 + 2 by omega]
    show [Value.int .i64 y.1.turn, y.2] ++ flatC (us.set i x) = ([Value.int .i64 y.1.turn, y.2] ++ flatC us).set (i * 2 + 2) _
    rw [this]
    rfl
/-- A commit's turn is written: l[i].Turn = t. -/
theorem OwnC.setTurn {base : Nat} {w : World} {v : Value} {l : List Cmt} (h : OwnC base w v l) (i : Nat) (hi : i < l.length) (t : Int) : ∃ g cap, v = .slice (some ⟨g, 0, none⟩) l.length cap ∧ base ≤ g ∧ g < w.heap.size ∧ w.frozen? ⟨g, i * 2, none⟩ = false ∧ OwnC base (w.setCell ⟨g, i * 2, none⟩ (.int .i64 t)) v (l.set i ⟨t, (l.getD i noCmt).writes⟩) := by
  have hrow := h.row
  obtain ⟨us, hul, hr, hp⟩ := h
  have hlen : us.length = l.length := by rw [← hul]; simp
  rcases hr.2 with ⟨_, h0⟩ | ⟨g, cap, cur, rfl, hb, hg, hn, hm, hs, ht⟩
  · omega
  · refine ⟨g, cap, rfl, hb, (Array.getElem?_eq_some_iff.1 hg).1, by simp [World.frozen?, hg], us.set i (⟨t, (l.getD i noCmt).writes⟩, (us.getD i noCV).2), ?_, ?_, ?_⟩
    · rw [List.map_set, hul]
    · have hf := flatC_set us i (⟨t, (l.getD i noCmt).writes⟩, (us.getD i noCV).2) (by omega) rfl
      refine ⟨by rw [flatC_len, List.length_set, List.length_set, hlen], .inr ⟨g, cap, cur.setIfInBounds (i * 2) (.int .i64 t), by rw [List.length_set], hb, set_self hg, by rw [List.length_set]; exact hn, hm, by simpa using hs, ?_⟩⟩
      rw [hf, List.length_set, Array.toList_setIfInBounds, List.take_set, ht]
    · intro x hx
      have hk : ∀ y ∈ us, WritesB base (w.setCell ⟨g, i * 2, none⟩ (.int .i64 t)) y.2 y.1.writes := fun y hy => (hp y hy).kept (set_grown w g (i * 2) (.int .i64 t)) (.inr ⟨g, cur, _, _, rfl, hb, hg, cmtT5, cmtTW⟩)
      rcases List.mem_or_eq_of_mem_set hx with hx | rfl
      · exact hk x hx
      · obtain ⟨e1, e2⟩ := mapC_getD hul i hi
        have := hk _ e2
        rw [e1] at this
        exact this
end Go.Proofs.Ytljdconhplgipab

/-
  The two walks of ChangesMake over the changes, with no program: first what goes, then what is put.
-/
namespace Go.Proofs.Ytljdconhplgipab
open Go.RowKit
def goneTo (l : List Plc) (i : Nat) : List Plc := (l.take i).filter (·.gone)
def putTo (l : List Plc) (i : Nat) : List Plc := l.filter (·.gone) ++ (l.take i).filter (fun w => !w.gone)
theorem take_snocD {α : Type} (d : α) (l : List α) (i : Nat) (h : i < l.length) : l.take (i + 1) = l.take i ++ [l.getD i d] := by
  rw [List.take_succ_eq_append_getElem h, show l[i] = l.getD i d by simp [h]]
theorem goneTo_gone {l : List Plc} {i : Nat} (h : i < l.length) (hg : (l.getD i noPlc).gone = true) : goneTo l (i + 1) = goneTo l i ++ [l.getD i noPlc] := by
  unfold goneTo
  rw [take_snocD noPlc l i h, List.filter_append, List.filter_cons_of_pos hg]; rfl
theorem goneTo_put {l : List Plc} {i : Nat} (h : i < l.length) (hg : (l.getD i noPlc).gone = false) : goneTo l (i + 1) = goneTo l i := by
  unfold goneTo
  rw [take_snocD noPlc l i h, List.filter_append, List.filter_cons_of_neg (by rw [hg]; decide), List.filter_nil, List.append_nil]
theorem putTo_put {l : List Plc} {i : Nat} (h : i < l.length) (hg : (l.getD i noPlc).gone = false) : putTo l (i + 1) = putTo l i ++ [l.getD i noPlc] := by
  unfold putTo
  rw [take_snocD noPlc l i h, List.filter_append, List.filter_cons_of_pos (by show (!(l.getD i noPlc).gone) = true; rw [hg]; rfl), List.append_assoc]; rfl
theorem putTo_gone {l : List Plc} {i : Nat} (h : i < l.length) (hg : (l.getD i noPlc).gone = true) : putTo l (i + 1) = putTo l i := by
  unfold putTo
  rw [take_snocD noPlc l i h, List.filter_append, List.filter_cons_of_neg (by show ¬ (!(l.getD i noPlc).gone) = true; rw [hg]; decide), List.filter_nil, List.append_nil]
theorem gone_end (l : List Plc) : goneTo l l.length = putTo l 0 := by
  unfold goneTo putTo
  rw [List.take_length, List.take_zero, List.filter_nil, List.append_nil]
theorem getD_in {l : List Plc} {i : Nat} (h : i < l.length) : l.getD i noPlc ∈ l := by
  rw [show l.getD i noPlc = l[i] by simp [h]]; exact List.getElem_mem h
theorem take_apart {l : List Plc} (hl : PRises l) {i : Nat} (h : i < l.length) {d : Plc} (hd : d ∈ l.take i) : ¬ (d.name = (l.getD i noPlc).name ∧ d.key = (l.getD i noPlc).key) := by
  obtain ⟨j, hj, rfl⟩ := List.getElem_of_mem hd
  rw [List.length_take] at hj
  rw [List.getElem_take, show l.getD i noPlc = l[i] by simp [h]]
  exact plt_apart (List.pairwise_iff_getElem.1 hl j i (by omega) h (by omega))
theorem goneTo_hit {l : List Plc} (hl : PRises l) {i : Nat} (h : i < l.length) : hit (goneTo l i) (l.getD i noPlc).name (l.getD i noPlc).key = false := by
  cases e : hit (goneTo l i) (l.getD i noPlc).name (l.getD i noPlc).key with
  | false => rfl
  | true =>
    obtain ⟨d, hd, h1⟩ := (hit_iff _ _ _).1 e
    exact absurd h1 (take_apart hl h (List.mem_filter.1 hd).1)
/-- What the first walk reads at a change. -/
theorem gone_get {a b : FL} (ha : Forest a) (hb : Forest b) {i : Nat} (h : i < (changesL a b).length) {cur : FL} (hm : Mid a b (goneTo (changesL a b) i) cur) : fgetE cur ((changesL a b).getD i noPlc).name ((changesL a b).getD i noPlc).key = 0 ∧ (((changesL a b).getD i noPlc).gone = true → fgetB cur ((changesL a b).getD i noPlc).name ((changesL a b).getD i noPlc).key = true) ∧ (((changesL a b).getD i noPlc).gone = false → fgetB cur ((changesL a b).getD i noPlc).name ((changesL a b).getD i noPlc).key = true → fgetV cur ((changesL a b).getD i noPlc).name ((changesL a b).getD i noPlc).key ≠ ((changesL a b).getD i noPlc).value) := by
  have hin := getD_in h
  have hw := (writeE_iff _).1 (change_ok ha hb hin)
  have hg := hm.got ((changesL a b).getD i noPlc).name ((changesL a b).getD i noPlc).key
  rw [goneTo_hit (changes_rises ha hb) h, if_neg (by simp)] at hg
  obtain ⟨h1, h2, h3⟩ := fget_ok hm.forest _ _ hw.1 hw.2.1
  have hc := (changes_iff ha hb _).1 hin
  rw [h1, h2, h3, hg]
  refine ⟨rfl, fun e => ?_, fun e hs => ?_⟩
  · rcases hc with hc | hc
    · rw [hc.1] at e; cases e
    · exact hc.2.2.1
  · rcases hc with hc | hc
    · obtain ⟨v, hv⟩ := Option.isSome_iff_exists.1 hs
      rw [hv]
      intro e2
      exact hc.2.2 (by rw [hv, ← e2]; rfl)
    · rw [hc.1] at e; cases e
theorem one_apply {l : FL} (h : Forest l) {w : Plc} (hw : writeE w = 0) (he : writtenE l w = 0) : appliedE l [w] = 0 ∧ appliedF l [w] = writtenL l w := by
  have h1 := applied_ok h [w] (by simp)
  rw [(apply_one hw).1, he] at h1
  exact ⟨h1, by rw [appliedF, if_pos h1, (apply_one hw).2]⟩
theorem gone_step {a b : FL} (ha : Forest a) (hb : Forest b) {i : Nat} (h : i < (changesL a b).length) {cur : FL} (hm : Mid a b (goneTo (changesL a b) i) cur) (hg : ((changesL a b).getD i noPlc).gone = true) : appliedE cur [(changesL a b).getD i noPlc] = 0 ∧ Mid a b (goneTo (changesL a b) (i + 1)) (appliedF cur [(changesL a b).getD i noPlc]) := by
  have hin := getD_in h
  have hw := change_ok ha hb hin
  have hr := hm.goneRoom hw hg
  obtain ⟨h1, h2⟩ := one_apply hm.forest hw hr
  refine ⟨h1, ?_⟩
  rw [h2, goneTo_gone h hg]
  exact hm.step hw (change_tells ha hb hin) hr
theorem put_step {a b : FL} (ha : Forest a) (hb : Forest b) {i : Nat} (h : i < (changesL a b).length) {cur : FL} (hm : Mid a b (putTo (changesL a b) i) cur) (hg : ((changesL a b).getD i noPlc).gone = false) : appliedE cur [(changesL a b).getD i noPlc] = 0 ∧ Mid a b (putTo (changesL a b) (i + 1)) (appliedF cur [(changesL a b).getD i noPlc]) := by
  have hin := getD_in h
  have hw := change_ok ha hb hin
  have ht := change_tells ha hb hin
  have hr := hm.putRoom hb (fun n k h1 h2 => by
    rw [hit_iff]
    refine ⟨⟨n, k, [], true⟩, List.mem_append.2 (.inl (List.mem_filter.2 ⟨(changes_iff ha hb _).2 (.inr ⟨rfl, rfl, h1, h2⟩), rfl⟩)), rfl, rfl⟩) hw hg ht
  obtain ⟨h1, h2⟩ := one_apply hm.forest hw hr
  refine ⟨h1, ?_⟩
  rw [h2, putTo_put h hg]
  exact hm.step hw ht hr
theorem put_end {a b : FL} (ha : Forest a) (hb : Forest b) {cur : FL} (hm : Mid a b (putTo (changesL a b) (changesL a b).length) cur) : cur = b := by
  refine hm.end hb fun n k h => ?_
  obtain ⟨d, hd, h1⟩ := (hit_iff _ _ _).1 ((change_place ha hb n k).2 h)
  rw [hit_iff]
  refine ⟨d, ?_, h1⟩
  unfold putTo
  rw [List.take_length, List.mem_append, List.mem_filter, List.mem_filter]
  cases hg : d.gone with
  | true => exact .inl ⟨hd, rfl⟩
  | false => exact .inr ⟨hd, rfl⟩
/-- Three ahead of the walk, by cases: the order of two changes one behind the other. -/
theorem plt_cases {a b : Plc} (h : plt a b = true) : (b.name = a.name ∧ klt a.key b.key = true) ∨ (b.name ≠ a.name ∧ klt a.name b.name = true) := by
  rcases (plt_iff a b).1 h with h | h
  · exact .inr ⟨fun e => (by rw [e, klt_irrefl] at h; cases h), h⟩
  · exact .inl ⟨h.1.symm, h.2⟩
end Go.Proofs.Ytljdconhplgipab

/-
  Commits that may be fit into memory.
-/
namespace Go.Proofs.Ytljdconhplgipab
open Go.RowKit
theorem writes_fits {ws : List Plc} (hn : ws.length ≤ 1000) (h : ∀ w ∈ ws, writeE w = 0) : FitsW ws := ⟨by omega, fun j hj => by
  have h0 := h ws[j] (List.getElem_mem hj)
  rw [show ws[j] = ws.getD j noPlc by simp [hj]] at h0
  have h2 := (writeE_iff _).1 h0
  have h3 : (ws.getD j noPlc).value.length ≤ 32 := by
    have := h2.2.2
    split at this
    · rw [this]; simp
    · exact this
  exact ⟨by omega, by omega, by omega⟩⟩
theorem commit_fits {c : Cmt} (h : commitE c = 0) : FitsC c := by
  obtain ⟨h1, h2, h3⟩ := (commit_iff c).1 h
  exact ⟨by omega, writes_fits (by omega) h3⟩
end Go.Proofs.Ytljdconhplgipab
