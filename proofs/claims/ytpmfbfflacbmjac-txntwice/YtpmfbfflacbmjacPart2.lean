/-
  Texts of this proof, joined: CmtMem, TapeA, TapeB, TapeK, HistF, HistC, TxnF, CmtSet, RdMem, TxWrite, TxM, TxnG, TxnL, TxCheck, TxMs, TxNote, CmtTy, CmtRow, TxClash, TxnK, TxBox, TxnS, CmtFit, ClsM, TwM.
-/
import Derived.Test.YtpmfbfflacbmjacWrMem
import Derived.Test.YtpmfbfflacbmjacPart1
import Derived.Test.YtpmfbfflacbmjacIdxF
/-
  Commits and tapes in memory.
-/
namespace Go.Proofs.Ytpmfbfflacbmjac
open Go.RowKit
def WrPartAt (base : Nat) (w : World) (b o : Nat) (p : Plc) : Prop := ∃ vn vk vv, w.cell? ⟨b, o, none⟩ = some vn ∧ w.cell? ⟨b, o + 1, none⟩ = some vk ∧ w.cell? ⟨b, o + 2, none⟩ = some (.bool p.gone) ∧ w.cell? ⟨b, o + 3, none⟩ = some vv ∧ PartIs base w vn p.name ∧ PartIs base w vk p.key ∧ PartIs base w vv p.value
/-- A list of writes that stands where blocks of the call's own, of no writes and no bytes, turn. -/
def WritesB (base : Nat) (w : World) (v : Value) (l : List Plc) : Prop :=
  ∃ a cap, v = .slice a l.length cap ∧ l.length ≤ cap ∧ ((l = [] ∧ (a = none → cap = 0)) ∨ ∃ b o, a = some ⟨b, o, none⟩ ∧ (b < base ∨ ∃ cur fz, w.heap[b]? = some (.cells cur 53 fz)) ∧ ∀ i, i < l.length → WrPartAt base w b (o + i * 4) (l.getD i noPlc))
theorem writesB_nil (base : Nat) (w : World) : WritesB base w (.slice none 0 0) [] := ⟨none, 0, rfl, Nat.le_refl _, .inl ⟨rfl, fun _ => rfl⟩⟩
theorem WritesB.shape {base : Nat} {w : World} {v : Value} {l : List Plc} (h : WritesB base w v l) : ∃ a cap, v = .slice a l.length cap := by
  obtain ⟨a, cap, rfl, _⟩ := h
  exact ⟨a, cap, rfl⟩
theorem WritesB.oneCell {base : Nat} {w : World} {v : Value} {l : List Plc} (h : WritesB base w v l) : v.oneCell' = true := by
  obtain ⟨a, cap, rfl, _⟩ := h
  rfl
theorem WritesB.list {base : Nat} {w : World} {v : Value} {l : List Plc} (h : WritesB base w v l) : WritesIs w v l := by
  obtain ⟨a, cap, rfl, hc, h⟩ := h
  refine ⟨a, cap, rfl, hc, ?_⟩
  rcases h with h | ⟨b, o, rfl, _, h⟩
  · exact .inl h
  · refine .inr ⟨b, o, rfl, fun i hi => ?_⟩
    obtain ⟨vn, vk, vv, c1, c2, c3, c4, h1, h2, h3⟩ := h i hi
    exact ⟨vn, vk, vv, c1, c2, c3, c4, h1.1, h2.1, h3.1⟩
theorem WritesIs.writesB {w w' : World} {v : Value} {l : List Plc} (h : WritesIs w v l) (hg : w.grownBy w' none) (base : Nat) (hb : w.heap.size ≤ base) : WritesB base w' v l := by
  obtain ⟨a, cap, rfl, hc, h⟩ := h
  refine ⟨a, cap, rfl, hc, ?_⟩
  rcases h with h | ⟨b, o, rfl, h⟩
  · exact .inl h
  · by_cases h0 : l = []
    · exact .inl ⟨h0, fun e => by cases e⟩
    · have hl : 0 < l.length := List.length_pos_iff.2 h0
      refine .inr ⟨b, o, rfl, .inl ?_, fun i hi => ?_⟩
      · obtain ⟨vn, vk, vv, c1, _⟩ := h 0 hl
        exact Nat.lt_of_lt_of_le (cell_lt c1) hb
      · obtain ⟨vn, vk, vv, c1, c2, c3, c4, h1, h2, h3⟩ := h i hi
        exact ⟨vn, vk, vv, hg.cell c1 (by simp), hg.cell c2 (by simp), hg.cell c3 (by simp), hg.cell c4 (by simp), h1.part hg base hb, h2.part hg base hb, h3.part hg base hb⟩
theorem OwnW.writesB {base : Nat} {w : World} {v : Value} {l : List Plc} (h : OwnW base w v l) : WritesB base w v l := by
  obtain ⟨us, hl, hr, h3⟩ := h
  rcases hr.2 with ⟨rfl, h0⟩ | ⟨g, cap, cur, rfl, hb, hg, hn, hm, hs, ht⟩
  · have : l = [] := List.eq_nil_of_length_eq_zero h0
    rw [this]
    exact writesB_nil base w
  · have hcell : ∀ j u, (flatW us)[j]? = some u → w.cell? ⟨g, j, none⟩ = some u := by
      intro j u hj
      have hlt : j < l.length * 4 := by
        have := (List.getElem?_eq_some_iff.1 hj).1
        rw [hr.1] at this
        exact this
      have e2 : (cur.toList.take (l.length * 4))[j]? = (flatW us)[j]? := by rw [ht]
      rw [List.getElem?_take, if_pos hlt, hj] at e2
      simp [World.cell?, hg]
      simpa using e2
    refine ⟨_, cap, rfl, hn, .inr ⟨g, 0, rfl, .inr ⟨_, _, hg⟩, fun i hi => ?_⟩⟩
    obtain ⟨e1, e2⟩ := mapW_getD hl i hi
    have hlen : us.length = l.length := by rw [← hl]; simp
    obtain ⟨c1, c2, c3, c4⟩ := flatW_get us i (by omega)
    have hp := h3 _ e2
    rw [e1] at c3 hp
    rw [Nat.zero_add]
    exact ⟨_, _, _, hcell _ _ c1, hcell _ _ c2, hcell _ _ c3, hcell _ _ c4, hp.1, hp.2.1, hp.2.2⟩
theorem WritesB.kept {base : Nat} {w w' : World} {v : Value} {l : List Plc} (h : WritesB base w v l) {row : Option Nat} (hg : w.grownBy w' row) (hrow : row = none ∨ ∃ g cur t fz, row = some g ∧ base ≤ g ∧ w.heap[g]? = some (.cells cur t fz) ∧ t ≠ 5 ∧ t ≠ 53) : WritesB base w' v l := by
  obtain ⟨a, cap, rfl, hc, h⟩ := h
  refine ⟨a, cap, rfl, hc, ?_⟩
  rcases h with h | ⟨b, o, rfl, hb, h⟩
  · exact .inl h
  · by_cases h0 : l = []
    · exact .inl ⟨h0, fun e => by cases e⟩
    · have hl : 0 < l.length := List.length_pos_iff.2 h0
      have hlt : b < w.heap.size := by
        obtain ⟨vn, vk, vv, c1, _⟩ := h 0 hl
        exact cell_lt c1
      have hne : some b ≠ row := by
        intro e
        rcases hrow with rfl | ⟨g, cur, t, fz, rfl, hbg, hgc, ht, ht2⟩
        · cases e
        · cases e
          rcases hb with hb | ⟨cur2, fz2, hb⟩
          · omega
          · rw [hb] at hgc
            simp only [Option.some.injEq, Obj.cells.injEq] at hgc
            exact ht2 hgc.2.1.symm
      have hrow' : row = none ∨ ∃ g cur t fz, row = some g ∧ base ≤ g ∧ w.heap[g]? = some (.cells cur t fz) ∧ t ≠ 5 := by
        rcases hrow with h | ⟨g, cur, t, fz, h1, h2, h3, h4, _⟩
        · exact .inl h
        · exact .inr ⟨g, cur, t, fz, h1, h2, h3, h4⟩
      refine .inr ⟨b, o, rfl, ?_, fun i hi => ?_⟩
      · rcases hb with hb | ⟨cur, fz, hb⟩
        · exact .inl hb
        · exact .inr ⟨cur, fz, by rw [hg.block b hlt hne]; exact hb⟩
      · obtain ⟨vn, vk, vv, c1, c2, c3, c4, h1, h2, h3⟩ := h i hi
        exact ⟨vn, vk, vv, hg.cell c1 (by simpa using hne), hg.cell c2 (by simpa using hne), hg.cell c3 (by simpa using hne), hg.cell c4 (by simpa using hne), h1.keptT hg hrow', h2.keptT hg hrow', h3.keptT hg hrow'⟩
theorem WritesB.grown {base : Nat} {w w' : World} {v : Value} {l : List Plc} (h : WritesB base w v l) (hg : w.grownBy w' none) : WritesB base w' v l := h.kept hg (.inl rfl)
theorem WritesB.mono {base base' : Nat} {w : World} {v : Value} {l : List Plc} (h : WritesB base w v l) (hb : base ≤ base') : WritesB base' w v l := by
  obtain ⟨a, cap, rfl, hc, h⟩ := h
  refine ⟨a, cap, rfl, hc, ?_⟩
  rcases h with h | ⟨b, o, rfl, h1, h2⟩
  · exact .inl h
  · refine .inr ⟨b, o, rfl, ?_, fun i hi => ?_⟩
    · rcases h1 with h1 | h1
      · exact .inl (by omega)
      · exact .inr h1
    · obtain ⟨vn, vk, vv, c1, c2, c3, c4, p1, p2, p3⟩ := h2 i hi
      exact ⟨vn, vk, vv, c1, c2, c3, c4, p1.mono hb, p2.mono hb, p3.mono hb⟩
/-- A commit. -/
def CommitIs (w : World) (v : Value) (c : Cmt) : Prop := ∃ vs, v = .agg #[.int .i64 c.turn, vs] ∧ WritesIs w vs c.writes
theorem CommitIs.grown {w w' : World} {v : Value} {c : Cmt} (h : CommitIs w v c) (hg : w.grownBy w' none) : CommitIs w' v c := by
  obtain ⟨vs, rfl, h⟩ := h
  exact ⟨vs, rfl, h.grown hg⟩
theorem CommitIs.agg {w : World} {v : Value} {c : Cmt} (h : CommitIs w v c) : ∃ a cap, v = .agg #[.int .i64 c.turn, .slice a c.writes.length cap] := by
  obtain ⟨vs, rfl, h⟩ := h
  obtain ⟨a, cap, rfl⟩ := h.shape
  exact ⟨a, cap, rfl⟩
theorem CommitIs.writes {w : World} {c : Cmt} {x y : Value} (h : CommitIs w (.agg #[x, y]) c) : x = .int .i64 c.turn ∧ WritesIs w y c.writes := by
  obtain ⟨vs, e, h⟩ := h
  injection e with e
  injection e with e
  injection e with e1 e
  injection e with e2 e
  exact ⟨e1, e2 ▸ h⟩
theorem commitIs_no (w : World) : CommitIs w (.agg #[.int .i64 0, .slice none 0 0]) noCmt := ⟨_, rfl, writesIs_nil w⟩
structure FitsC (c : Cmt) : Prop where
  turn : -9223372036854775808 ≤ c.turn ∧ c.turn ≤ 9223372036854775807
  writes : FitsW c.writes
/-- A tape. -/
structure Tap where
  data : List UInt8
  synced : Int
def noTap : Tap := ⟨[], 0⟩
def TapeIs (w : World) (v : Value) (t : Tap) : Prop := ∃ vd, v = .agg #[vd, .int .i64 t.synced] ∧ SliceIs w vd t.data
theorem TapeIs.grown {w w' : World} {v : Value} {t : Tap} (h : TapeIs w v t) (hg : w.grownBy w' none) : TapeIs w' v t := by
  obtain ⟨vd, rfl, h⟩ := h
  exact ⟨vd, rfl, h.grown hg⟩
theorem TapeIs.agg {w : World} {v : Value} {t : Tap} (h : TapeIs w v t) : ∃ a cap, v = .agg #[.slice a t.data.length cap, .int .i64 t.synced] := by
  obtain ⟨vd, rfl, h⟩ := h
  obtain ⟨a, cap, rfl⟩ := h.shape
  exact ⟨a, cap, rfl⟩
theorem TapeIs.data {w : World} {t : Tap} {x y : Value} (h : TapeIs w (.agg #[x, y]) t) : SliceIs w x t.data ∧ y = .int .i64 t.synced := by
  obtain ⟨vd, e, h⟩ := h
  injection e with e
  injection e with e
  injection e with e1 e
  injection e with e2 e
  exact ⟨e1 ▸ h, e2⟩
theorem tapeIs_no (w : World) : TapeIs w (.agg #[.slice none 0 0, .int .i64 0]) noTap := ⟨_, rfl, sliceIs_nil w⟩
structure FitsTp (t : Tap) : Prop where
  data : t.data.length ≤ 140737488355328
  synced : -9223372036854775808 ≤ t.synced ∧ t.synced ≤ 9223372036854775807
end Go.Proofs.Ytpmfbfflacbmjac

/-
  What P6 answers, with no program: tapes that may be, Encode, Sync, Crash.
-/
namespace Go.Proofs.Ytpmfbfflacbmjac
open Go.RowKit
/-- P6.1. -/
def mayT (t : Tap) : Bool := decide (t.data.length ≤ 200000) && decide (0 ≤ t.synced ∧ t.synced ≤ (t.data.length : Int))
theorem mayT_iff (t : Tap) : mayT t = true ↔ t.data.length ≤ 200000 ∧ 0 ≤ t.synced ∧ t.synced ≤ (t.data.length : Int) := by
  unfold mayT
  rw [Bool.and_eq_true, decide_eq_true_iff, decide_eq_true_iff]
/-- What P6.3 answers. -/
def encF (c : Cmt) : List UInt8 := if commitE c = 0 then commitB c else []
/-- What P6.6 answers. -/
def syncE (t : Tap) : Int := if mayT t = true then 0 else 6
def syncT (t : Tap) : Tap := if mayT t = true then ⟨t.data, (t.data.length : Int)⟩ else noTap
/-- What P6.7 answers. -/
def crashE (t : Tap) (keep : Int) : Int := if mayT t = true then (if keep < 0 then 2 else 0) else 6
def crashN (t : Tap) (keep : Int) : Nat := if keep < (t.data.length : Int) - t.synced then (t.synced + keep).toNat else t.data.length
def crashT (t : Tap) (keep : Int) : Tap := if crashE t keep = 0 then ⟨t.data.take (crashN t keep), (crashN t keep : Int)⟩ else noTap
end Go.Proofs.Ytpmfbfflacbmjac

/-
  What P6.5 and P6.8 answer, with no program. D: the four bytes that stand behind a commit's.
-/
namespace Go.Proofs.Ytpmfbfflacbmjac
open Go.RowKit
def appE (D : List UInt8 → List UInt8) (t : Tap) (c : Cmt) : Int := if mayT t = true then (if commitE c = 0 then (if 200000 < t.data.length + (frameB D c).length then 11 else 0) else commitE c) else 6
def appT (D : List UInt8 → List UInt8) (t : Tap) (c : Cmt) : Tap := if appE D t c = 0 then ⟨t.data ++ frameB D c, t.synced⟩ else noTap
def recE (t : Tap) : Int := if mayT t = true then 0 else 6
def recC (D : List UInt8 → List UInt8) (t : Tap) : List Cmt := if mayT t = true then (recL D 1 t.data).1 else []
def recT (D : List UInt8 → List UInt8) (t : Tap) : Tap := if mayT t = true then ⟨t.data.take (recN D t.data), if t.synced > (recN D t.data : Int) then (recN D t.data : Int) else t.synced⟩ else noTap
end Go.Proofs.Ytpmfbfflacbmjac

/-
  What the keeping statements of tapes rest on, with no program.
-/
namespace Go.Proofs.Ytpmfbfflacbmjac
open Go.RowKit
/-- Commits done one behind the other: the tenants behind them. -/
def foldC : FL → List Cmt → Option FL
  | f, [] => some f
  | f, c :: cs => if appliedE f c.writes = 0 then foldC (appliedF f c.writes) cs else none
theorem foldC_snoc : ∀ (cs : List Cmt) (f g : FL) (c : Cmt), foldC f cs = some g → appliedE g c.writes = 0 → foldC f (cs ++ [c]) = some (appliedF g c.writes)
  | [], f, g, c, h, he => by
    simp only [foldC, Option.some.injEq] at h
    subst h
    show (if appliedE f c.writes = 0 then foldC (appliedF f c.writes) [] else none) = _
    rw [if_pos he]; rfl
  | a :: cs, f, g, c, h, he => by
    rw [foldC] at h
    show (if appliedE f a.writes = 0 then foldC (appliedF f a.writes) (cs ++ [c]) else none) = _
    by_cases h0 : appliedE f a.writes = 0
    · rw [if_pos h0] at h ⊢
      exact foldC_snoc cs _ _ c h he
    · rw [if_neg h0] at h; cases h
/-- So few writes have room. -/
theorem apply_fits : ∀ (ws : List Plc) (l : FL) (m : Nat), Forest l → (∀ w ∈ ws, writeE w = 0) → Small m l → m + ws.length ≤ 60 → l.length + ws.length ≤ 8 → applyE l ws = 0
  | [], l, m, _, _, _, _, _ => rfl
  | w :: ws, l, m, h, hv, hs, hm, h8 => by
    have hw := hv w (by simp)
    have hl := written_len l w
    simp only [List.length_cons] at hm h8
    have h2 : writtenE l w = 0 := by
      rw [writtenE_small h hw hs (by omega), if_neg (by omega)]
    rw [applyE, if_pos hw, if_pos h2]
    exact apply_fits ws _ (m + 1) (written_forest h hw h2) (fun x hx => hv x (List.mem_cons_of_mem _ hx)) (small_written h.rises hs w) (by omega) (by omega)
/-- How many writes the next commit takes. -/
def cutN (ws : List Plc) (i : Nat) : Nat := min (1 + (ws.getD i noPlc).key.length % 3) (ws.length - i)
theorem cutN_le (ws : List Plc) (i : Nat) (h : i < ws.length) : 1 ≤ cutN ws i ∧ cutN ws i ≤ 3 ∧ i + cutN ws i ≤ ws.length := by
  unfold cutN
  omega
def cutW (ws : List Plc) (i : Nat) : List Plc := (ws.drop i).take (cutN ws i)
theorem cutW_len (ws : List Plc) (i : Nat) (h : i < ws.length) : (cutW ws i).length = cutN ws i := by
  have := cutN_le ws i h
  unfold cutW
  simp; omega
theorem cutW_ok {ws : List Plc} (hw : ∀ w ∈ ws, writeE w = 0) (i : Nat) : ∀ w ∈ cutW ws i, writeE w = 0 := fun w h => hw w (List.mem_of_mem_drop (List.mem_of_mem_take h))
theorem cut_commit {ws : List Plc} (hw : ∀ w ∈ ws, writeE w = 0) (i : Nat) (h : i < ws.length) (m : Nat) (hm : m < 1000) : commitE ⟨((m + 1 : Nat) : Int), cutW ws i⟩ = 0 := by
  have h1 := cutN_le ws i h
  have h2 := cutW_len ws i h
  refine (commit_iff _).2 ⟨by show (1 : Int) ≤ ((m + 1 : Nat) : Int) ∧ ((m + 1 : Nat) : Int) ≤ 1048576; omega, ?_, cutW_ok hw i⟩
  show 1 ≤ (cutW ws i).length ∧ (cutW ws i).length ≤ 10
  omega
/-- What is kept of commits that are made of writes. -/
structure CmtsOf (ws : List Plc) (i : Nat) (cs : List Cmt) (f : FL) : Prop where
  turn : InTurn 1 cs
  few : cs.length ≤ i
  fold : foldC [] cs = some f
  first : 0 < i → cs ≠ []
  none : i = 0 → cs = []
  forest : Forest f
  small : Small i f
  short : ∀ c ∈ cs, c.writes.length ≤ 3 ∧ ∀ w ∈ c.writes, writeE w = 0
theorem cmtsOf_nil (ws : List Plc) : CmtsOf ws 0 [] [] := ⟨trivial, by simp, rfl, fun h => by omega, fun _ => rfl, forest_nil, small_nil, fun c h => by simp at h⟩
theorem CmtsOf.go {ws : List Plc} {i : Nat} {cs : List Cmt} {f : FL} (h : CmtsOf ws i cs f) (hw : ∀ w ∈ ws, writeE w = 0) (hi : i < ws.length) (hl : ws.length ≤ 50) (he : appliedE f (cutW ws i) = 0) : CmtsOf ws (i + cutN ws i) (cs ++ [⟨((cs.length + 1 : Nat) : Int), cutW ws i⟩]) (appliedF f (cutW ws i)) := by
  have h1 := cutN_le ws i hi
  have h2 := cutW_len ws i hi
  have h3 := h.few
  have he' : applyE f (cutW ws i) = 0 := by rw [← applied_ok h.forest _ (by omega)]; exact he
  have hf : appliedF f (cutW ws i) = applyL f (cutW ws i) := by rw [appliedF, if_pos he]
  refine ⟨h.turn.snoc (by show ((cs.length + 1 : Nat) : Int) = _; omega) (cut_commit hw i hi cs.length (by omega)), by simp; omega, foldC_snoc _ _ _ ⟨_, cutW ws i⟩ h.fold he, fun _ => by simp, fun e => by omega, ?_, ?_, fun c hc => ?_⟩
  · rw [hf]; exact apply_forest _ _ h.forest he'
  · rw [hf, ← h2]; exact apply_small _ _ _ h.forest he' h.small
  · rcases List.mem_append.1 hc with hc | hc
    · exact h.short c hc
    · simp only [List.mem_cons, List.not_mem_nil, or_false] at hc
      subst hc
      exact ⟨by show (cutW ws i).length ≤ 3; omega, cutW_ok hw i⟩
theorem CmtsOf.skip {ws : List Plc} {i : Nat} {cs : List Cmt} {f : FL} (h : CmtsOf ws i cs f) (hw : ∀ w ∈ ws, writeE w = 0) (hi : i < ws.length) (he : appliedE f (cutW ws i) ≠ 0) : CmtsOf ws (i + cutN ws i) cs f := by
  have h1 := cutN_le ws i hi
  have h2 := cutW_len ws i hi
  have h3 := h.few
  have h0 : 0 < i := by
    rcases Nat.eq_zero_or_pos i with h0 | h0
    · exfalso
      have := h.none h0
      subst this
      have hf := h.fold
      simp only [foldC, Option.some.injEq] at hf
      subst hf
      apply he
      rw [applied_ok forest_nil _ (by omega)]
      exact apply_fits _ _ 0 forest_nil (cutW_ok hw i) small_nil (by omega) (by simp; omega)
    · exact h0
  exact ⟨h.turn, by omega, h.fold, fun _ => h.first h0, fun e => by omega, h.forest, h.small.mono (by omega), h.short⟩
/-- A tape with these commits. -/
theorem app_next {D : List UInt8 → List UInt8} (hD : ∀ x, (D x).length = 4) {t : Tap} {c : Cmt} (hc : commitE c = 0) (hs : 0 ≤ t.synced ∧ t.synced ≤ (t.data.length : Int)) (hl : t.data.length ≤ 190000) : appE D t c = 0 ∧ appT D t c = ⟨t.data ++ frameB D c, t.synced⟩ := by
  have h1 := frame_len hD c
  have h2 := commit_size hc
  have hm : mayT t = true := (mayT_iff t).2 ⟨by omega, hs⟩
  have he : appE D t c = 0 := by rw [appE, if_pos hm, if_pos hc, if_neg (by omega)]
  exact ⟨he, by rw [appT, if_pos he]⟩
theorem frame_grows {D : List UInt8 → List UInt8} (hD : ∀ x, (D x).length = 4) {c : Cmt} (hc : commitE c = 0) : 6 ≤ (frameB D c).length ∧ (frameB D c).length ≤ 600 := by
  have h1 := frame_len hD c
  have h2 := commit_size hc
  omega
theorem flatT_next (D : List UInt8 → List UInt8) (cs : List Cmt) (i : Nat) (h : i < cs.length) : flatT D (cs.take (i + 1)) = flatT D (cs.take i) ++ frameB D (cs.getD i noCmt) := by
  rw [List.take_succ_eq_append_getElem h, flatT_append, flatT_one, show cs[i] = cs.getD i noCmt by simp [h]]
/-- What Recover answers of a tape that may be. -/
theorem rec_of {D : List UInt8 → List UInt8} {t : Tap} (hm : mayT t = true) {cs : List Cmt} {r : List UInt8} {n : Nat} (h : recL D 1 t.data = (cs, r)) (hn : recN D t.data = n) : recE t = 0 ∧ recC D t = cs ∧ recT D t = ⟨t.data.take n, if t.synced > (n : Int) then (n : Int) else t.synced⟩ := by
  refine ⟨by rw [recE, if_pos hm], by rw [recC, if_pos hm, h], by rw [recT, if_pos hm, hn]⟩
/-- A whole tape is recovered whole. -/
theorem rec_whole {D : List UInt8 → List UInt8} (hD : ∀ x, (D x).length = 4) {cs : List Cmt} (h : InTurn 1 cs) (s : Int) (hs : 0 ≤ s ∧ s ≤ ((flatT D cs).length : Int)) (hl : (flatT D cs).length ≤ 200000) : recE ⟨flatT D cs, s⟩ = 0 ∧ recC D ⟨flatT D cs, s⟩ = cs ∧ recT D ⟨flatT D cs, s⟩ = ⟨flatT D cs, s⟩ := by
  have hm : mayT ⟨flatT D cs, s⟩ = true := (mayT_iff _).2 ⟨hl, hs⟩
  have h1 := rec_all hD h
  have hn : recN D (flatT D cs) = (flatT D cs).length := by rw [recN, h1]; simp
  obtain ⟨a, b, c⟩ := rec_of hm h1 hn
  refine ⟨a, b, ?_⟩
  rw [c]
  show (⟨(flatT D cs).take (flatT D cs).length, if s > ((flatT D cs).length : Int) then ((flatT D cs).length : Int) else s⟩ : Tap) = _
  rw [List.take_length, if_neg (by omega)]
/-- A torn tape: the commits that are whole. -/
theorem rec_part {D : List UInt8 → List UInt8} (hD : ∀ x, (D x).length = 4) {cs : List Cmt} (h : InTurn 1 cs) (k : Nat) (s : Int) (hk : k ≤ (flatT D cs).length) (hs : 0 ≤ s ∧ s ≤ (k : Int)) (hl : (flatT D cs).length ≤ 200000) :
    ∃ j, j ≤ cs.length ∧ (flatT D (cs.take j)).length ≤ k ∧ (j < cs.length → k < (flatT D (cs.take (j + 1))).length) ∧ recE ⟨(flatT D cs).take k, s⟩ = 0 ∧ recC D ⟨(flatT D cs).take k, s⟩ = cs.take j ∧ recT D ⟨(flatT D cs).take k, s⟩ = ⟨flatT D (cs.take j), if s > ((flatT D (cs.take j)).length : Int) then ((flatT D (cs.take j)).length : Int) else s⟩ := by
  obtain ⟨j, h1, h2, h3, h4, h5⟩ := rec_torn hD h k
  have hkl : ((flatT D cs).take k).length = k := by simp; omega
  have hm : mayT ⟨(flatT D cs).take k, s⟩ = true := (mayT_iff _).2 ⟨by show ((flatT D cs).take k).length ≤ _; omega, by show 0 ≤ s ∧ s ≤ (((flatT D cs).take k).length : Int); omega⟩
  have hn : recN D ((flatT D cs).take k) = (flatT D (cs.take j)).length := by
    rw [recN, h2, hkl]
    show k - (((flatT D cs).take k).drop _).length = _
    rw [List.length_drop, hkl]; omega
  obtain ⟨a, b, c⟩ := rec_of hm h2 hn
  refine ⟨j, h1, h3, h5, a, b, ?_⟩
  rw [c]
  have e : ((flatT D cs).take k).take (flatT D (cs.take j)).length = flatT D (cs.take j) := by
    rw [List.take_take, Nat.min_eq_left h3]
    conv => lhs; rw [← List.take_append_drop j cs, flatT_append]
    rw [show (cs.take j ++ cs.drop j).take j = cs.take j by rw [List.take_append_drop]]
    exact List.take_left' rfl
  show (⟨((flatT D cs).take k).take _, _⟩ : Tap) = _
  rw [e]
/-- One more commit behind commits: in its turn it is recovered, else not. -/
theorem rec_more {D : List UInt8 → List UInt8} (hD : ∀ x, (D x).length = 4) {cs : List Cmt} (h : InTurn 1 cs) {c : Cmt} (hc : commitE c = 0) (s : Int) (hs : 0 ≤ s ∧ s ≤ ((flatT D cs).length : Int)) (hl : (flatT D cs).length ≤ 190000) :
    recE ⟨flatT D cs ++ frameB D c, s⟩ = 0 ∧ recC D ⟨flatT D cs ++ frameB D c, s⟩ = if c.turn = ((cs.length + 1 : Nat) : Int) then cs ++ [c] else cs := by
  have h1 := frame_grows hD hc
  have hm : mayT ⟨flatT D cs ++ frameB D c, s⟩ = true := (mayT_iff _).2 ⟨by show (flatT D cs ++ frameB D c).length ≤ _; rw [List.length_append]; omega, by show 0 ≤ s ∧ s ≤ ((flatT D cs ++ frameB D c).length : Int); rw [List.length_append]; omega⟩
  refine ⟨by rw [recE, if_pos hm], ?_⟩
  rw [recC, if_pos hm]
  show (recL D 1 (flatT D cs ++ frameB D c)).1 = _
  rw [rec_frames hD h]
  have hf := frame_back hD hc []
  rw [List.append_nil] at hf
  by_cases ht : c.turn = ((cs.length + 1 : Nat) : Int)
  · rw [if_pos ht, rec_go hf (by rw [ht]; omega), rec_stop (frame_nil D)]
  · rw [if_neg ht, rec_other hf (by intro e; apply ht; rw [e]; omega)]
    simp
end Go.Proofs.Ytpmfbfflacbmjac

/-
  Histories, with no program: what P7 asks of commits, and the forests behind them.
-/
namespace Go.Proofs.Ytpmfbfflacbmjac
open Go.RowKit
/-- What P7.1 refuses of commits, from the i-th on, behind the tenants of those ahead. -/
def histFrom : FL → Nat → List Cmt → Int
  | _, _, [] => 0
  | f, i, c :: cs => if commitE c = 0 then (if c.turn = ((i + 1 : Nat) : Int) then (if appliedE f c.writes = 0 then histFrom (appliedF f c.writes) (i + 1) cs else appliedE f c.writes) else 3) else commitE c
def histE (l : List Cmt) : Int := if 300 < l.length then 1 else histFrom [] 0 l
/-- The tenants behind commits. -/
def foldH : FL → List Cmt → FL
  | f, [] => f
  | f, c :: cs => foldH (appliedF f c.writes) cs
theorem foldH_append : ∀ (a b : List Cmt) (f : FL), foldH f (a ++ b) = foldH (foldH f a) b
  | [], _, _ => rfl
  | _ :: a, b, _ => foldH_append a b _
theorem foldH_snoc (cs : List Cmt) (f : FL) (c : Cmt) : foldH f (cs ++ [c]) = appliedF (foldH f cs) c.writes := by rw [foldH_append]; rfl
theorem foldH_next (l : List Cmt) (i : Nat) (h : i < l.length) : foldH [] (l.take (i + 1)) = appliedF (foldH [] (l.take i)) (l.getD i noCmt).writes := by
  rw [List.take_succ_eq_append_getElem h, foldH_snoc, show l[i] = l.getD i noCmt by simp [h]]
/-- One commit of the walk. -/
theorem hist_step (l : List Cmt) (i : Nat) (h : i < l.length) : histFrom (foldH [] (l.take i)) i (l.drop i) = if commitE (l.getD i noCmt) = 0 then (if (l.getD i noCmt).turn = ((i + 1 : Nat) : Int) then (if appliedE (foldH [] (l.take i)) (l.getD i noCmt).writes = 0 then histFrom (foldH [] (l.take (i + 1))) (i + 1) (l.drop (i + 1)) else appliedE (foldH [] (l.take i)) (l.getD i noCmt).writes) else 3) else commitE (l.getD i noCmt) := by
  rw [List.drop_eq_getElem_cons h, histFrom, show l[i] = l.getD i noCmt by simp [h], foldH_next l i h]
theorem hist_end (l : List Cmt) : histFrom (foldH [] (l.take l.length)) l.length (l.drop l.length) = 0 := by rw [List.drop_length, histFrom]
/-- Commits, from the i-th on, that are refused nothing. -/
def Goes : FL → Nat → List Cmt → Prop
  | _, _, [] => True
  | f, i, c :: cs => commitE c = 0 ∧ c.turn = ((i + 1 : Nat) : Int) ∧ appliedE f c.writes = 0 ∧ Goes (appliedF f c.writes) (i + 1) cs
theorem histFrom_iff : ∀ (cs : List Cmt) (f : FL) (i : Nat), (∀ c ∈ cs, True) → (histFrom f i cs = 0 ↔ Goes f i cs)
  | [], _, _, _ => ⟨fun _ => trivial, fun _ => rfl⟩
  | c :: cs, f, i, h => by
    rw [histFrom, Goes]
    by_cases h1 : commitE c = 0
    · rw [if_pos h1]
      by_cases h2 : c.turn = ((i + 1 : Nat) : Int)
      · rw [if_pos h2]
        by_cases h3 : appliedE f c.writes = 0
        · rw [if_pos h3, histFrom_iff cs _ _ (fun x _ => trivial)]
          exact ⟨fun h => ⟨h1, h2, h3, h⟩, fun h => h.2.2.2⟩
        · rw [if_neg h3]
          exact ⟨fun h => absurd h h3, fun h => absurd h.2.2.1 h3⟩
      · rw [if_neg h2]
        exact ⟨fun h => by omega, fun h => absurd h.2.1 h2⟩
    · rw [if_neg h1]
      exact ⟨fun h => absurd h h1, fun h => absurd h.1 h1⟩
theorem hist_iff (l : List Cmt) : histE l = 0 ↔ l.length ≤ 300 ∧ Goes [] 0 l := by
  unfold histE
  by_cases h : 300 < l.length
  · rw [if_pos h]
    exact ⟨fun e => by omega, fun e => by omega⟩
  · rw [if_neg h, histFrom_iff _ _ _ (fun _ _ => trivial)]
    exact ⟨fun e => ⟨by omega, e⟩, fun e => e.2⟩
theorem Goes.take : ∀ {cs : List Cmt} {f : FL} {i : Nat} (_ : Goes f i cs) (j : Nat), Goes f i (cs.take j)
  | [], _, _, _, j => by rw [List.take_nil]; trivial
  | _ :: _, _, _, _, 0 => trivial
  | _ :: _, _, _, h, j + 1 => ⟨h.1, h.2.1, h.2.2.1, Goes.take h.2.2.2 j⟩
theorem Goes.at : ∀ {cs : List Cmt} {f : FL} {i : Nat} (_ : Goes f i cs) (j : Nat) (_ : j < cs.length), commitE (cs.getD j noCmt) = 0 ∧ (cs.getD j noCmt).turn = ((i + j + 1 : Nat) : Int) ∧ appliedE (foldH f (cs.take j)) (cs.getD j noCmt).writes = 0
  | [], _, _, _, j, hj => by simp at hj
  | c :: cs, f, i, h, 0, _ => ⟨h.1, h.2.1, h.2.2.1⟩
  | c :: cs, f, i, h, j + 1, hj => by
    have := Goes.at h.2.2.2 j (by simpa using hj)
    rw [show i + (j + 1) + 1 = i + 1 + j + 1 by omega]
    simpa [foldH] using this
/-- A write that is taken leaves a forest. -/
theorem appliedF_forest {l : FL} (h : Forest l) (ws : List Plc) : Forest (appliedF l ws) := by
  unfold appliedF
  by_cases h0 : appliedE l ws = 0
  · rw [if_pos h0]
    unfold appliedE at h0
    rw [if_pos ((forest_iff l).2 h)] at h0
    by_cases h10 : 10 < ws.length
    · rw [if_pos h10] at h0; omega
    · rw [if_neg h10] at h0
      exact apply_forest ws l h h0
  · rw [if_neg h0]; exact forest_nil
theorem foldH_forest : ∀ (cs : List Cmt) (f : FL), Forest f → Forest (foldH f cs)
  | [], _, h => h
  | c :: cs, _, h => foldH_forest cs _ (appliedF_forest h c.writes)
/-- What P7.2 answers. -/
def foldE (l : List Cmt) (turn : Int) : Int := if histE l = 0 then (if 0 ≤ turn ∧ turn ≤ (l.length : Int) then 0 else 2) else histE l
def foldT (l : List Cmt) (turn : Int) : FL := if foldE l turn = 0 then foldH [] (l.take turn.toNat) else []
theorem foldT_forest (l : List Cmt) (turn : Int) : Forest (foldT l turn) := by
  unfold foldT
  split
  · exact foldH_forest _ _ forest_nil
  · exact forest_nil
/-- What P7.4 answers. -/
def keptF (n t : Int) : Bool := decide (0 ≤ t ∧ t ≤ n ∧ n - t < 6)
theorem fold_ok {l : List Cmt} (h : histE l = 0) (k : Nat) (hk : k ≤ l.length) : foldE l (k : Int) = 0 ∧ foldT l (k : Int) = foldH [] (l.take k) := by
  have e : foldE l (k : Int) = 0 := by rw [foldE, if_pos h, if_pos (by omega)]
  exact ⟨e, by rw [foldT, if_pos e, Int.toNat_natCast]⟩
/-- What canopykeep.Commits keeps is a history. -/
theorem foldC_goes : ∀ (cs : List Cmt) (f g : FL) (i : Nat), InTurn (i + 1) cs → foldC f cs = some g → Goes f i cs ∧ foldH f cs = g
  | [], f, g, i, _, h => by
    simp only [foldC, Option.some.injEq] at h
    exact ⟨trivial, h⟩
  | c :: cs, f, g, i, ht, h => by
    rw [foldC] at h
    by_cases h0 : appliedE f c.writes = 0
    · rw [if_pos h0] at h
      obtain ⟨h1, h2⟩ := foldC_goes cs _ g (i + 1) ht.2.2 h
      exact ⟨⟨ht.2.1, ht.1, h0, h1⟩, h2⟩
    · rw [if_neg h0] at h; cases h
end Go.Proofs.Ytpmfbfflacbmjac

/-
  The changes from one forest to another, with no program: what P7.5 asks.
-/
namespace Go.Proofs.Ytpmfbfflacbmjac
open Go.RowKit
/-- By names, then by keys. -/
def plt (a b : Plc) : Bool := klt a.name b.name || (decide (a.name = b.name) && klt a.key b.key)
theorem plt_iff (a b : Plc) : plt a b = true ↔ klt a.name b.name = true ∨ (a.name = b.name ∧ klt a.key b.key = true) := by
  unfold plt
  rw [Bool.or_eq_true, Bool.and_eq_true, decide_eq_true_iff]
theorem plt_irrefl (a : Plc) : plt a a = false := by
  cases h : plt a a with
  | false => rfl
  | true =>
    rcases (plt_iff a a).1 h with h | ⟨_, h⟩
    · rw [klt_irrefl] at h; cases h
    · rw [klt_irrefl] at h; cases h
theorem plt_trans {a b c : Plc} (h : plt a b = true) (k : plt b c = true) : plt a c = true := by
  rw [plt_iff] at h k ⊢
  rcases h with h | ⟨h1, h2⟩
  · rcases k with k | ⟨k1, _⟩
    · exact .inl (klt_trans _ _ _ h k)
    · exact .inl (k1 ▸ h)
  · rcases k with k | ⟨k1, k2⟩
    · exact .inl (h1 ▸ k)
    · exact .inr ⟨h1.trans k1, klt_trans _ _ _ h2 k2⟩
def pSame (a b : Plc) : Prop := a.name = b.name ∧ a.key = b.key
theorem plt_total {a b : Plc} (h : plt a b = false) (hn : ¬ pSame a b) : plt b a = true := by
  rw [plt_iff]
  by_cases he : a.name = b.name
  · right
    refine ⟨he.symm, ?_⟩
    refine klt_total _ _ ?_ (fun e => hn ⟨he, e⟩)
    cases hk : klt a.key b.key with
    | false => rfl
    | true => rw [(plt_iff a b).2 (.inr ⟨he, hk⟩)] at h; cases h
  · left
    refine klt_total _ _ ?_ he
    cases hk : klt a.name b.name with
    | false => rfl
    | true => rw [(plt_iff a b).2 (.inl hk)] at h; cases h
theorem plt_apart {a b : Plc} (h : plt a b = true) : ¬ pSame a b := by
  rintro ⟨h1, h2⟩
  rcases (plt_iff a b).1 h with k | ⟨_, k⟩
  · rw [h1, klt_irrefl] at k; cases k
  · rw [h2, klt_irrefl] at k; cases k
def PRises (l : List Plc) : Prop := l.Pairwise fun a b => plt a b = true
theorem prises_ext : ∀ (l m : List Plc), PRises l → PRises m → (∀ x, x ∈ l ↔ x ∈ m) → l = m
  | [], [], _, _, _ => rfl
  | [], y :: s, _, _, h => by have := (h y).2 (List.mem_cons_self ..); simp at this
  | x :: r, [], _, _, h => by have := (h x).1 (List.mem_cons_self ..); simp at this
  | x :: r, y :: s, hl, hm, h => by
    have h1 := List.pairwise_cons.1 hl
    have h2 := List.pairwise_cons.1 hm
    have hxy : x = y := by
      rcases List.mem_cons.1 ((h x).1 (List.mem_cons_self ..)) with e | e
      · exact e
      · rcases List.mem_cons.1 ((h y).2 (List.mem_cons_self ..)) with e2 | e2
        · exact e2.symm
        · have a := h2.1 x e
          have b := h1.1 y e2
          have := plt_trans a b
          rw [plt_irrefl] at this; cases this
    subst hxy
    congr 1
    refine prises_ext r s h1.2 h2.2 fun z => ?_
    constructor
    · intro hz
      rcases List.mem_cons.1 ((h z).1 (List.mem_cons_of_mem _ hz)) with e | e
      · have := h1.1 z hz; rw [e, plt_irrefl] at this; cases this
      · exact e
    · intro hz
      rcases List.mem_cons.1 ((h z).2 (List.mem_cons_of_mem _ hz)) with e | e
      · have := h2.1 z hz; rw [e, plt_irrefl] at this; cases this
      · exact e
/-- A write among others that rise. -/
def insW : List Plc → Plc → List Plc
  | [], w => [w]
  | x :: r, w => if plt w x = true then w :: x :: r else x :: insW r w
theorem mem_ins : ∀ (l : List Plc) (w x : Plc), x ∈ insW l w ↔ x = w ∨ x ∈ l
  | [], w, x => by simp [insW]
  | y :: r, w, x => by
    rw [insW]
    by_cases h : plt w y = true
    · rw [if_pos h, List.mem_cons]
    · rw [if_neg h, List.mem_cons, mem_ins r w x, List.mem_cons]
      constructor
      · rintro (h | h | h)
        · exact .inr (.inl h)
        · exact .inl h
        · exact .inr (.inr h)
      · rintro (h | h | h)
        · exact .inr (.inl h)
        · exact .inl h
        · exact .inr (.inr h)
theorem ins_rises : ∀ (l : List Plc) (w : Plc), PRises l → (∀ x ∈ l, ¬ pSame w x) → PRises (insW l w)
  | [], w, _, _ => by simp [insW, PRises]
  | y :: r, w, h, hn => by
    have h1 := List.pairwise_cons.1 h
    rw [insW]
    by_cases hy : plt w y = true
    · rw [if_pos hy]
      refine List.pairwise_cons.2 ⟨fun z hz => ?_, h⟩
      rcases List.mem_cons.1 hz with rfl | hz
      · exact hy
      · exact plt_trans hy (h1.1 z hz)
    · rw [if_neg hy]
      refine List.pairwise_cons.2 ⟨fun z hz => ?_, ins_rises r w h1.2 (fun x hx => hn x (List.mem_cons_of_mem _ hx))⟩
      rcases (mem_ins r w z).1 hz with rfl | hz
      · exact plt_total (by simpa using hy) (hn y (List.mem_cons_self ..))
      · exact h1.1 z hz
theorem ins_len : ∀ (l : List Plc) (w : Plc), (insW l w).length = l.length + 1
  | [], w => rfl
  | y :: r, w => by
    rw [insW]
    split
    · rfl
    · rw [List.length_cons, ins_len r w, List.length_cons]
theorem mem_insAll : ∀ (cs l : List Plc) (x : Plc), x ∈ cs.foldl insW l ↔ x ∈ l ∨ x ∈ cs
  | [], l, x => by simp
  | c :: cs, l, x => by
    rw [List.foldl_cons, mem_insAll cs, mem_ins, List.mem_cons]
    constructor
    · rintro ((h | h) | h)
      · exact .inr (.inl h)
      · exact .inl h
      · exact .inr (.inr h)
    · rintro (h | h | h)
      · exact .inl (.inr h)
      · exact .inl (.inl h)
      · exact .inr h
def Apart (l : List Plc) : Prop := l.Pairwise fun a b => ¬ pSame a b
theorem insAll_rises : ∀ (cs l : List Plc), PRises l → Apart cs → (∀ c ∈ cs, ∀ x ∈ l, ¬ pSame c x) → PRises (cs.foldl insW l)
  | [], _, h, _, _ => h
  | c :: cs, l, h, ha, hn => by
    have h1 := List.pairwise_cons.1 ha
    rw [List.foldl_cons]
    refine insAll_rises cs _ (ins_rises l c h (hn c (List.mem_cons_self ..))) h1.2 fun d hd x hx => ?_
    rcases (mem_ins l c x).1 hx with rfl | hx
    · exact fun e => h1.1 d hd ⟨e.1.symm, e.2.symm⟩
    · exact hn d (List.mem_cons_of_mem _ hd) x hx
/-- What must be written of a tenant's pairs; what must go. -/
def putsT (a : FL) (t : Tn) : List Plc := (t.2.filter fun p => !(decide (getF (ofF a t.1) p.1 = some p.2))).map fun p => (⟨t.1, p.1, p.2, false⟩ : Plc)
def gonesT (b : FL) (t : Tn) : List Plc := (t.2.filter fun p => (getF (ofF b t.1) p.1).isNone).map fun p => (⟨t.1, p.1, [], true⟩ : Plc)
def changesL (a b : FL) : List Plc := (a.flatMap (gonesT b)).foldl insW ((b.flatMap (putsT a)).foldl insW [])
theorem getF_in {l : PL} {k v : List UInt8} (h : getF l k = some v) : (k, v) ∈ l := by
  unfold getF at h
  cases hf : l.find? (fun p => p.1 == k) with
  | none => rw [hf] at h; cases h
  | some p =>
    rw [hf] at h
    have h1 := List.mem_of_find?_eq_some hf
    have h2 := List.find?_some hf
    simp only [Option.map_some, Option.some.injEq] at h
    simp only [beq_iff_eq] at h2
    rw [← h, ← h2]
    exact h1
theorem in_getF : ∀ {l : PL} (_ : Rises l) {p : Pr}, p ∈ l → getF l p.1 = some p.2
  | [], _, p, hp => by simp at hp
  | q :: l, h, p, hp => by
    have h1 := List.pairwise_cons.1 h
    rw [get_cons]
    rcases List.mem_cons.1 hp with rfl | hp
    · rw [if_pos rfl]
    · rw [if_neg (klt_ne (h1.1 p hp)), in_getF h1.2 hp]
theorem in_of {l : FL} (h : Forest l) {t : Tn} (ht : t ∈ l) : ofF l t.1 = t.2 := by
  obtain ⟨i, hi, rfl⟩ := List.getElem_of_mem ht
  have := of_at h i hi
  rw [show l.getD i ([], []) = l[i] by simp [hi]] at this
  exact this
theorem of_in {l : FL} {n : List UInt8} (h : ofF l n ≠ []) : (n, ofF l n) ∈ l := by
  unfold ofF t_getF at h ⊢
  cases hf : l.find? (fun p => p.1 == n) with
  | none => rw [hf] at h; exact absurd rfl h
  | some t =>
    have h1 := List.mem_of_find?_eq_some hf
    have h2 := List.find?_some hf
    simp only [beq_iff_eq] at h2
    show (n, t.2) ∈ l
    rw [← h2]; exact h1
theorem got_in {l : FL} {n k v : List UInt8} (h : getF (ofF l n) k = some v) : (n, ofF l n) ∈ l ∧ (k, v) ∈ ofF l n := by
  have h1 := getF_in h
  exact ⟨of_in (fun e => by rw [e] at h1; simp at h1), h1⟩
theorem puts_iff {a b : FL} (hb : Forest b) (x : Plc) : x ∈ b.flatMap (putsT a) ↔ x.gone = false ∧ getF (ofF b x.name) x.key = some x.value ∧ getF (ofF a x.name) x.key ≠ some x.value := by
  rw [List.mem_flatMap]
  constructor
  · rintro ⟨t, ht, hx⟩
    unfold putsT at hx
    obtain ⟨p, hp, rfl⟩ := List.mem_map.1 hx
    obtain ⟨hp1, hp2⟩ := List.mem_filter.1 hp
    have e := in_of hb ht
    refine ⟨rfl, ?_, by simpa using hp2⟩
    show getF (ofF b t.1) p.1 = some p.2
    rw [e]
    exact in_getF (e ▸ (of_tree hb t.1).rises) hp1
  · rintro ⟨h1, h2, h3⟩
    obtain ⟨m1, m2⟩ := got_in h2
    refine ⟨_, m1, ?_⟩
    unfold putsT
    refine List.mem_map.2 ⟨(x.key, x.value), List.mem_filter.2 ⟨m2, by simpa using h3⟩, ?_⟩
    rw [← h1]
theorem gones_iff {a b : FL} (ha : Forest a) (x : Plc) : x ∈ a.flatMap (gonesT b) ↔ x.gone = true ∧ x.value = [] ∧ (getF (ofF a x.name) x.key).isSome = true ∧ getF (ofF b x.name) x.key = none := by
  rw [List.mem_flatMap]
  constructor
  · rintro ⟨t, ht, hx⟩
    unfold gonesT at hx
    obtain ⟨p, hp, rfl⟩ := List.mem_map.1 hx
    obtain ⟨hp1, hp2⟩ := List.mem_filter.1 hp
    have e := in_of ha ht
    refine ⟨rfl, rfl, ?_, by simpa using hp2⟩
    show (getF (ofF a t.1) p.1).isSome = true
    rw [e, in_getF (e ▸ (of_tree ha t.1).rises) hp1]; rfl
  · rintro ⟨h1, h2, h3, h4⟩
    obtain ⟨v, hv⟩ := Option.isSome_iff_exists.1 h3
    obtain ⟨m1, m2⟩ := got_in hv
    refine ⟨_, m1, ?_⟩
    unfold gonesT
    refine List.mem_map.2 ⟨(x.key, v), List.mem_filter.2 ⟨m2, by simp [h4]⟩, ?_⟩
    rw [← h1, ← h2]
theorem side_apart {f : Tn → List Plc} (l : FL) (hl : Forest l) (hn : ∀ t ∈ l, ∀ x ∈ f t, x.name = t.1) (hk : ∀ t ∈ l, Apart (f t)) : Apart (l.flatMap f) := by
  unfold Apart
  rw [List.pairwise_flatMap]
  refine ⟨hk, hl.rises.imp_of_mem ?_⟩
  intro s t hs ht hst x hx y hy e
  have h1 := hn s hs x hx
  have h2 := hn t ht y hy
  rw [← h1, ← h2, e.1, klt_irrefl] at hst
  cases hst
theorem keys_apart {g : Pr → Plc} {q : Pr → Bool} {l : PL} (h : Rises l) (hg : ∀ p, (g p).key = p.1) : Apart ((l.filter q).map g) := by
  unfold Apart
  rw [List.pairwise_map]
  refine (List.Pairwise.filter q h).imp ?_
  intro a b hab e
  rw [← hg a, ← hg b, e.2, klt_irrefl] at hab
  cases hab
theorem puts_apart {a b : FL} (hb : Forest b) : Apart (b.flatMap (putsT a)) := by
  refine side_apart b hb (fun t _ x hx => ?_) (fun t ht => ?_)
  · unfold putsT at hx
    obtain ⟨p, _, rfl⟩ := List.mem_map.1 hx
    rfl
  · exact keys_apart (in_of hb ht ▸ (of_tree hb t.1).rises) (fun _ => rfl)
theorem gones_apart {a b : FL} (ha : Forest a) : Apart (a.flatMap (gonesT b)) := by
  refine side_apart a ha (fun t _ x hx => ?_) (fun t ht => ?_)
  · unfold gonesT at hx
    obtain ⟨p, _, rfl⟩ := List.mem_map.1 hx
    rfl
  · exact keys_apart (in_of ha ht ▸ (of_tree ha t.1).rises) (fun _ => rfl)
theorem changes_rises {a b : FL} (ha : Forest a) (hb : Forest b) : PRises (changesL a b) := by
  unfold changesL
  refine insAll_rises _ _ (insAll_rises _ _ List.Pairwise.nil (puts_apart hb) (fun c _ x hx => by simp at hx)) (gones_apart ha) fun c hc x hx => ?_
  rcases (mem_insAll _ _ _).1 hx with hx | hx
  · simp at hx
  · intro e
    obtain ⟨_, _, _, h4⟩ := (gones_iff ha c).1 hc
    obtain ⟨_, h2, _⟩ := (puts_iff hb x).1 hx
    rw [e.1, e.2, h2] at h4
    cases h4
theorem changes_iff {a b : FL} (ha : Forest a) (hb : Forest b) (x : Plc) : x ∈ changesL a b ↔ (x.gone = false ∧ getF (ofF b x.name) x.key = some x.value ∧ getF (ofF a x.name) x.key ≠ some x.value) ∨ (x.gone = true ∧ x.value = [] ∧ (getF (ofF a x.name) x.key).isSome = true ∧ getF (ofF b x.name) x.key = none) := by
  unfold changesL
  rw [mem_insAll, mem_insAll, gones_iff ha, puts_iff hb]
  simp
/-- Writes that rise and are the changes are these. -/
theorem changes_ext {a b : FL} (ha : Forest a) (hb : Forest b) {l : List Plc} (hl : PRises l) (h : ∀ x, x ∈ l ↔ (x.gone = false ∧ getF (ofF b x.name) x.key = some x.value ∧ getF (ofF a x.name) x.key ≠ some x.value) ∨ (x.gone = true ∧ x.value = [] ∧ (getF (ofF a x.name) x.key).isSome = true ∧ getF (ofF b x.name) x.key = none)) : l = changesL a b :=
  prises_ext _ _ hl (changes_rises ha hb) fun x => by rw [h, changes_iff ha hb]
end Go.Proofs.Ytpmfbfflacbmjac

/-
  Transactions, with no program: what P8 says of reads, writes, notes, looks, scans and clashes.
-/
namespace Go.Proofs.Ytpmfbfflacbmjac
open Go.RowKit
/-- A read: a name, a key, and where it is wide a last key. -/
structure Rd where
  name : List UInt8
  key : List UInt8
  wide : Bool
  last : List UInt8
def noRd : Rd := ⟨[], [], false, []⟩
def rdSame (a b : Rd) : Bool := a.wide == b.wide && (decide (a.name = b.name) && (decide (a.key = b.key) && decide (a.last = b.last)))
theorem rdSame_iff (a b : Rd) : rdSame a b = true ↔ a = b := by
  obtain ⟨n, k, w, l⟩ := a
  obtain ⟨n2, k2, w2, l2⟩ := b
  simp only [rdSame, Bool.and_eq_true, decide_eq_true_iff, beq_iff_eq, Rd.mk.injEq]
  exact ⟨fun ⟨h1, h2, h3, h4⟩ => ⟨h2, h3, h1, h4⟩, fun ⟨h1, h2, h3, h4⟩ => ⟨h3, h1, h2, h4⟩⟩
def plSame (a b : Plc) : Bool := decide (a.name = b.name) && decide (a.key = b.key)
theorem plSame_iff (a b : Plc) : plSame a b = true ↔ pSame a b := by
  simp only [plSame, Bool.and_eq_true, decide_eq_true_iff]; exact Iff.rfl
theorem plSame_not {a b : Plc} (h : plSame a b = false) : ¬ pSame a b := fun e => by rw [(plSame_iff a b).2 e] at h; cases h
/-- What P8.1 refuses of a read. -/
def readE (r : Rd) : Int := if nameFaultF r.name.length = 0 then (if keyFaultF r.key.length = 0 then (if r.wide = true then keyFaultF r.last.length else (if 0 < r.last.length then 4 else 0)) else keyFaultF r.key.length) else nameFaultF r.name.length
theorem readE_iff (r : Rd) : readE r = 0 ↔ (1 ≤ r.name.length ∧ r.name.length ≤ 8) ∧ (1 ≤ r.key.length ∧ r.key.length ≤ 16) ∧ (if r.wide = true then 1 ≤ r.last.length ∧ r.last.length ≤ 16 else r.last = []) := by
  unfold readE
  by_cases hn : nameFaultF r.name.length = 0
  · rw [if_pos hn]
    have hn' := (nameFault_iff _).1 hn
    by_cases hk : keyFaultF r.key.length = 0
    · rw [if_pos hk]
      have hk' := (keyFault_iff _).1 hk
      by_cases hw : r.wide = true
      · rw [if_pos hw, if_pos hw, keyFault_iff]
        exact ⟨fun h => ⟨hn', hk', h⟩, fun h => h.2.2⟩
      · rw [if_neg hw, if_neg hw]
        by_cases hl : 0 < r.last.length
        · rw [if_pos hl]
          exact ⟨fun h => by omega, fun h => by rw [h.2.2] at hl; simp at hl⟩
        · rw [if_neg hl]
          exact ⟨fun _ => ⟨hn', hk', List.eq_nil_of_length_eq_zero (by omega)⟩, fun _ => rfl⟩
    · rw [if_neg hk]
      exact ⟨fun h => absurd h hk, fun h => absurd ((keyFault_iff _).2 h.2.1) hk⟩
  · rw [if_neg hn]
    exact ⟨fun h => absurd h hn, fun h => absurd ((nameFault_iff _).2 h.1) hn⟩
/-- Reads, behind those ahead of them. -/
def rdsE : List Rd → List Rd → Int
  | _, [] => 0
  | p, r :: rs => if readE r = 0 then (if p.any (fun q => rdSame q r) = true then 3 else rdsE (p ++ [r]) rs) else readE r
def wrsE : List Plc → List Plc → Int
  | _, [] => 0
  | p, w :: ws => if writeE w = 0 then (if p.any (fun q => plSame q w) = true then 3 else wrsE (p ++ [w]) ws) else writeE w
theorem rdsE_iff : ∀ (rs p : List Rd), rdsE p rs = 0 ↔ (∀ r ∈ rs, readE r = 0) ∧ (∀ r ∈ rs, r ∉ p) ∧ rs.Nodup
  | [], p => by simp [rdsE]
  | r :: rs, p => by
    have ih := rdsE_iff rs (p ++ [r])
    rw [rdsE]
    by_cases h1 : readE r = 0
    · rw [if_pos h1]
      by_cases h2 : p.any (fun q => rdSame q r) = true
      · rw [if_pos h2]
        refine ⟨fun h => by omega, fun h => ?_⟩
        obtain ⟨q, hq, he⟩ := List.any_eq_true.1 h2
        rw [(rdSame_iff q r).1 he] at hq
        exact absurd hq (h.2.1 r (List.mem_cons_self ..))
      · rw [if_neg h2, ih]
        have hr : r ∉ p := fun hm => h2 (List.any_eq_true.2 ⟨r, hm, (rdSame_iff r r).2 rfl⟩)
        constructor
        · rintro ⟨a, b, c⟩
          refine ⟨fun x hx => ?_, fun x hx => ?_, List.nodup_cons.2 ⟨fun hm => b r hm (by simp), c⟩⟩
          · rcases List.mem_cons.1 hx with rfl | hx
            · exact h1
            · exact a x hx
          · rcases List.mem_cons.1 hx with rfl | hx
            · exact hr
            · exact fun hm => b x hx (List.mem_append.2 (.inl hm))
        · rintro ⟨a, b, c⟩
          have c' := List.nodup_cons.1 c
          refine ⟨fun x hx => a x (List.mem_cons_of_mem _ hx), fun x hx hm => ?_, c'.2⟩
          rcases List.mem_append.1 hm with hm | hm
          · exact b x (List.mem_cons_of_mem _ hx) hm
          · simp only [List.mem_cons, List.not_mem_nil, or_false] at hm
            subst hm
            exact c'.1 hx
    · rw [if_neg h1]
      exact ⟨fun h => absurd h h1, fun h => absurd (h.1 r (List.mem_cons_self ..)) h1⟩
theorem wrsE_iff : ∀ (ws p : List Plc), wrsE p ws = 0 ↔ (∀ w ∈ ws, writeE w = 0) ∧ (∀ w ∈ ws, ∀ q ∈ p, ¬ pSame q w) ∧ Apart ws
  | [], p => by simp [wrsE, Apart]
  | w :: ws, p => by
    have ih := wrsE_iff ws (p ++ [w])
    rw [wrsE]
    by_cases h1 : writeE w = 0
    · rw [if_pos h1]
      by_cases h2 : p.any (fun q => plSame q w) = true
      · rw [if_pos h2]
        refine ⟨fun h => by omega, fun h => ?_⟩
        obtain ⟨q, hq, he⟩ := List.any_eq_true.1 h2
        exact absurd ((plSame_iff q w).1 he) (h.2.1 w (List.mem_cons_self ..) q hq)
      · rw [if_neg h2, ih]
        have hr : ∀ q ∈ p, ¬ pSame q w := fun q hm e => h2 (List.any_eq_true.2 ⟨q, hm, (plSame_iff q w).2 e⟩)
        constructor
        · rintro ⟨a, b, c⟩
          refine ⟨fun x hx => ?_, fun x hx q hq => ?_, List.pairwise_cons.2 ⟨fun x hx => b x hx w (by simp), c⟩⟩
          · rcases List.mem_cons.1 hx with rfl | hx
            · exact h1
            · exact a x hx
          · rcases List.mem_cons.1 hx with rfl | hx
            · exact hr q hq
            · exact b x hx q (List.mem_append.2 (.inl hq))
        · rintro ⟨a, b, c⟩
          have c' := List.pairwise_cons.1 c
          refine ⟨fun x hx => a x (List.mem_cons_of_mem _ hx), fun x hx q hm => ?_, c'.2⟩
          rcases List.mem_append.1 hm with hm | hm
          · exact b x (List.mem_cons_of_mem _ hx) q hm
          · simp only [List.mem_cons, List.not_mem_nil, or_false] at hm
            subst hm
            exact c'.1 x hx
    · rw [if_neg h1]
      exact ⟨fun h => absurd h h1, fun h => absurd (h.1 w (List.mem_cons_self ..)) h1⟩
/-- A transaction. -/
structure Tx where
  start : Int
  reads : List Rd
  writes : List Plc
def noTx : Tx := ⟨0, [], []⟩
/-- What P8.2 refuses. -/
def txE (t : Tx) : Int := if 0 ≤ t.start ∧ t.start ≤ 1048576 then (if 20 < t.reads.length ∨ 10 < t.writes.length then 1 else (if rdsE [] t.reads = 0 then wrsE [] t.writes else rdsE [] t.reads)) else 2
structure TxOK (t : Tx) : Prop where
  start : 0 ≤ t.start ∧ t.start ≤ 1048576
  reads : t.reads.length ≤ 20
  writes : t.writes.length ≤ 10
  each : ∀ r ∈ t.reads, readE r = 0
  once : t.reads.Nodup
  wrs : ∀ w ∈ t.writes, writeE w = 0
  apart : Apart t.writes
theorem tx_iff (t : Tx) : txE t = 0 ↔ TxOK t := by
  unfold txE
  by_cases h1 : 0 ≤ t.start ∧ t.start ≤ 1048576
  · rw [if_pos h1]
    by_cases h2 : 20 < t.reads.length ∨ 10 < t.writes.length
    · rw [if_pos h2]
      exact ⟨fun h => by omega, fun h => by have := h.reads; have := h.writes; omega⟩
    · rw [if_neg h2]
      by_cases h3 : rdsE [] t.reads = 0
      · rw [if_pos h3, wrsE_iff]
        have h3' := (rdsE_iff _ _).1 h3
        exact ⟨fun h => ⟨h1, by omega, by omega, h3'.1, h3'.2.2, h.1, h.2.2⟩, fun h => ⟨h.wrs, fun _ _ _ hq => by simp at hq, h.apart⟩⟩
      · rw [if_neg h3]
        exact ⟨fun h => absurd h h3, fun h => absurd ((rdsE_iff _ _).2 ⟨h.each, fun _ _ hq => by simp at hq, h.once⟩) h3⟩
  · rw [if_neg h1]
    exact ⟨fun h => by omega, fun h => absurd h.start h1⟩
theorem tx_none : TxOK noTx := ⟨by simp [noTx], by simp [noTx], by simp [noTx], by simp [noTx], by simp [noTx], by simp [noTx], by simp [noTx, Apart]⟩
/-- What P8.3 answers. -/
def hasR (t : Tx) (r : Rd) : Bool := t.reads.any (fun q => rdSame q r)
theorem hasR_iff (t : Tx) (r : Rd) : hasR t r = true ↔ r ∈ t.reads := by
  unfold hasR
  rw [List.any_eq_true]
  exact ⟨fun ⟨q, hq, e⟩ => (rdSame_iff q r).1 e ▸ hq, fun h => ⟨r, h, (rdSame_iff r r).2 rfl⟩⟩
def noteE (t : Tx) (r : Rd) : Int := if txE t = 0 then (if readE r = 0 then (if hasR t r = true then 0 else (if t.reads.length = 20 then 11 else 0)) else readE r) else txE t
def noteT (t : Tx) (r : Rd) : Tx := if noteE t r = 0 then (if hasR t r = true then t else ⟨t.start, t.reads ++ [r], t.writes⟩) else noTx
theorem note_ok {t : Tx} (h : TxOK t) {r : Rd} (hr : readE r = 0) : noteE t r = if hasR t r = true then 0 else (if t.reads.length = 20 then 11 else 0) := by
  rw [noteE, if_pos ((tx_iff t).2 h), if_pos hr]
theorem note_tx {t : Tx} (h : TxOK t) {r : Rd} (hr : readE r = 0) (he : noteE t r = 0) : TxOK (noteT t r) := by
  rw [noteT, if_pos he]
  by_cases hh : hasR t r = true
  · rw [if_pos hh]; exact h
  · rw [if_neg hh]
    rw [note_ok h hr, if_neg hh] at he
    have hm : r ∉ t.reads := fun e => hh ((hasR_iff t r).2 e)
    have h20 : t.reads.length ≠ 20 := fun e => by rw [if_pos e] at he; omega
    refine ⟨h.start, ?_, h.writes, fun x hx => ?_, ?_, h.wrs, h.apart⟩
    · have := h.reads; simp; omega
    · rcases List.mem_append.1 hx with hx | hx
      · exact h.each x hx
      · simp only [List.mem_cons, List.not_mem_nil, or_false] at hx
        rw [hx]; exact hr
    · rw [List.nodup_append]
      refine ⟨h.once, by simp, fun a ha b hb e => ?_⟩
      simp only [List.mem_cons, List.not_mem_nil, or_false] at hb
      subst hb; subst e
      exact hm ha
/-- What P8.4 answers. -/
def hasW (l : List Plc) (w : Plc) : Bool := l.any (fun q => plSame q w)
def putW : List Plc → Plc → List Plc
  | [], w => [w]
  | a :: l, w => if plSame a w = true then w :: l else a :: putW l w
def twriteE (t : Tx) (w : Plc) : Int := if txE t = 0 then (if writeE w = 0 then (if hasW t.writes w = true then 0 else (if t.writes.length = 10 then 11 else 0)) else writeE w) else txE t
def twriteT (t : Tx) (w : Plc) : Tx := if twriteE t w = 0 then ⟨t.start, t.reads, putW t.writes w⟩ else noTx
theorem hasW_iff (l : List Plc) (w : Plc) : hasW l w = true ↔ ∃ q ∈ l, pSame q w := by
  unfold hasW
  rw [List.any_eq_true]
  exact ⟨fun ⟨q, hq, e⟩ => ⟨q, hq, (plSame_iff q w).1 e⟩, fun ⟨q, hq, e⟩ => ⟨q, hq, (plSame_iff q w).2 e⟩⟩
theorem putW_len : ∀ (l : List Plc) (w : Plc), (putW l w).length = if hasW l w = true then l.length else l.length + 1
  | [], w => rfl
  | a :: l, w => by
    rw [putW, hasW, List.any_cons]
    by_cases h : plSame a w = true
    · rw [if_pos h, h]; rfl
    · rw [if_neg h, List.length_cons, putW_len l w]
      have hf : plSame a w = false := by simpa using h
      rw [hf, Bool.false_or]
      show _ = if hasW l w = true then _ else _
      by_cases h2 : hasW l w = true
      · rw [if_pos h2, if_pos h2]; rfl
      · rw [if_neg h2, if_neg h2]; rfl
theorem mem_putW : ∀ (l : List Plc) (w x : Plc), x ∈ putW l w → x = w ∨ x ∈ l
  | [], w, x, h => by simpa [putW] using h
  | a :: l, w, x, h => by
    rw [putW] at h
    by_cases h1 : plSame a w = true
    · rw [if_pos h1] at h
      rcases List.mem_cons.1 h with h | h
      · exact .inl h
      · exact .inr (List.mem_cons_of_mem _ h)
    · rw [if_neg h1] at h
      rcases List.mem_cons.1 h with h | h
      · exact .inr (by rw [h]; exact List.mem_cons_self ..)
      · exact (mem_putW l w x h).elim .inl fun h => .inr (List.mem_cons_of_mem _ h)
theorem pSame_symm {a b : Plc} (h : pSame a b) : pSame b a := ⟨h.1.symm, h.2.symm⟩
theorem pSame_trans {a b c : Plc} (h : pSame a b) (k : pSame b c) : pSame a c := ⟨h.1.trans k.1, h.2.trans k.2⟩
theorem putW_apart : ∀ (l : List Plc) (w : Plc), Apart l → Apart (putW l w)
  | [], w, _ => List.pairwise_singleton ..
  | a :: l, w, h => by
    have h' := List.pairwise_cons.1 h
    rw [putW]
    by_cases h1 : plSame a w = true
    · rw [if_pos h1]
      exact List.pairwise_cons.2 ⟨fun x hx e => h'.1 x hx (pSame_trans ((plSame_iff a w).1 h1) e), h'.2⟩
    · rw [if_neg h1]
      refine List.pairwise_cons.2 ⟨fun x hx e => ?_, putW_apart l w h'.2⟩
      rcases mem_putW l w x hx with rfl | hx
      · exact h1 ((plSame_iff _ _).2 e)
      · exact h'.1 x hx e
theorem write_ok {t : Tx} (h : TxOK t) {w : Plc} (hw : writeE w = 0) : twriteE t w = if hasW t.writes w = true then 0 else (if t.writes.length = 10 then 11 else 0) := by
  rw [twriteE, if_pos ((tx_iff t).2 h), if_pos hw]
theorem write_tx {t : Tx} (h : TxOK t) {w : Plc} (hw : writeE w = 0) (he : twriteE t w = 0) : TxOK (twriteT t w) := by
  rw [twriteT, if_pos he]
  rw [write_ok h hw] at he
  refine ⟨h.start, h.reads, ?_, h.each, h.once, fun x hx => ?_, putW_apart _ _ h.apart⟩
  · show (putW t.writes w).length ≤ 10
    rw [putW_len]
    have := h.writes
    by_cases hh : hasW t.writes w = true
    · rw [if_pos hh]; exact this
    · rw [if_neg hh] at he ⊢
      have h10 : t.writes.length ≠ 10 := fun e => by rw [if_pos e] at he; omega
      omega
  · rcases mem_putW _ _ _ hx with rfl | hx
    · exact hw
    · exact h.wrs x hx
/-- The write at a place. -/
def atW (l : List Plc) (n k : List UInt8) : Option Plc := l.find? fun q => decide (q.name = n) && decide (q.key = k)
theorem atW_none {l : List Plc} {n k : List UInt8} (h : atW l n k = none) : ∀ q ∈ l, ¬ (q.name = n ∧ q.key = k) := by
  intro q hq e
  have := List.find?_eq_none.1 h q hq
  simp [e.1, e.2] at this
theorem atW_some {l : List Plc} {n k : List UInt8} {w : Plc} (h : atW l n k = some w) : w ∈ l ∧ w.name = n ∧ w.key = k := by
  refine ⟨List.mem_of_find?_eq_some h, ?_⟩
  have := List.find?_some h
  simpa using this
theorem atW_put : ∀ (l : List Plc) (w : Plc) (n k : List UInt8), atW (putW l w) n k = if w.name = n ∧ w.key = k then some w else atW l n k
  | [], w, n, k => by
    by_cases h : w.name = n ∧ w.key = k
    · rw [if_pos h]; simp [putW, atW, h.1, h.2]
    · rw [if_neg h]
      show List.find? _ [w] = none
      rw [List.find?_cons_of_neg (by simpa using h)]; rfl
  | a :: l, w, n, k => by
    have ih := atW_put l w n k
    rw [putW]
    by_cases h1 : plSame a w = true
    · have hs := (plSame_iff a w).1 h1
      rw [if_pos h1]
      by_cases h : w.name = n ∧ w.key = k
      · rw [if_pos h]
        show List.find? _ (w :: l) = _
        rw [List.find?_cons_of_pos (by simpa using h)]
      · rw [if_neg h]
        show List.find? _ (w :: l) = List.find? _ (a :: l)
        rw [List.find?_cons_of_neg (by simpa using h), List.find?_cons_of_neg (by rw [← hs.1, ← hs.2] at h; simpa using h)]
    · rw [if_neg h1]
      by_cases h : a.name = n ∧ a.key = k
      · have hne : ¬ (w.name = n ∧ w.key = k) := fun e => h1 ((plSame_iff a w).2 ⟨h.1.trans e.1.symm, h.2.trans e.2.symm⟩)
        rw [if_neg hne]
        show List.find? _ (a :: putW l w) = List.find? _ (a :: l)
        rw [List.find?_cons_of_pos (by simpa using h), List.find?_cons_of_pos (by simpa using h)]
      · show List.find? _ (a :: putW l w) = if _ then _ else List.find? _ (a :: l)
        rw [List.find?_cons_of_neg (by simpa using h), List.find?_cons_of_neg (by simpa using h)]
        exact ih
/-- What a forest has behind writes, none of which has the place of another: the write there tells it. -/
theorem apply_at : ∀ (ws : List Plc) (l : FL), Forest l → applyE l ws = 0 → Apart ws → ∀ n k, getF (ofF (applyL l ws) n) k = match atW ws n k with
    | some w => if w.gone = true then none else some w.value
    | none => getF (ofF l n) k
  | [], l, _, _, _, n, k => rfl
  | w :: ws, l, h, he, ha, n, k => by
    have ha' := List.pairwise_cons.1 ha
    rw [applyE] at he
    have hw : writeE w = 0 := by
      by_cases e : writeE w = 0
      · exact e
      · rw [if_neg e] at he; exact absurd he e
    rw [if_pos hw] at he
    have hn : writtenE l w = 0 := by
      by_cases e : writtenE l w = 0
      · exact e
      · rw [if_neg e] at he; exact absurd he e
    rw [if_pos hn] at he
    have ih := apply_at ws (writtenL l w) (written_forest h hw hn) he ha'.2 n k
    rw [applyL, ih]
    by_cases hp : w.name = n ∧ w.key = k
    · have hat : atW (w :: ws) n k = some w := by
        show List.find? _ (w :: ws) = _
        rw [List.find?_cons_of_pos (by simpa using hp)]
      have hno : atW ws n k = none := by
        cases e : atW ws n k with
        | none => rfl
        | some q =>
          obtain ⟨h1, h2, h3⟩ := atW_some e
          exact absurd ⟨hp.1.trans h2.symm, hp.2.trans h3.symm⟩ (ha'.1 q h1)
      rw [hat, hno]
      show getF (ofF (writtenL l w) n) k = if w.gone = true then none else some w.value
      rw [get_written h, if_pos hp]
    · have hat : atW (w :: ws) n k = atW ws n k := by
        show List.find? _ (w :: ws) = _
        rw [List.find?_cons_of_neg (by simpa using hp)]; rfl
      rw [hat]
      cases atW ws n k with
      | some q => rfl
      | none =>
        show getF (ofF (writtenL l w) n) k = getF (ofF l n) k
        rw [get_written h, if_neg hp]
end Go.Proofs.Ytpmfbfflacbmjac

/-
  A list of writes with two bases (where its own block lies, where its bytes may lie), and blocks that turn beside it.
-/
namespace Go.Proofs.Ytpmfbfflacbmjac
open Go.RowKit
theorem set_self {w : World} {b i : Nat} {cs : Array Value} {t : TypeId} {fz : Nat × Nat} {u : Value} (h : w.heap[b]? = some (.cells cs t fz)) : (w.setCell ⟨b, i, none⟩ u).heap[b]? = some (.cells (cs.setIfInBounds i u) t fz) := by
  simp only [World.setCell, Array.getElem?_modify, if_true, h, Option.map_some]; rfl
theorem set_apart {w : World} {b c i : Nat} {o : Obj} {u : Value} (h : w.heap[b]? = some o) (hne : b ≠ c) : (w.setCell ⟨c, i, none⟩ u).heap[b]? = some o := by
  simp only [World.setCell, Array.getElem?_modify]
  rw [if_neg (fun e => hne e.symm)]; exact h
theorem set_grown (w : World) (b i : Nat) (u : Value) : w.grownBy (w.setCell ⟨b, i, none⟩ u) (some b) := grown_set (grown_refl w _) i u
theorem PartIs.setOther {base : Nat} {w : World} {v : Value} {bs : List UInt8} (h : PartIs base w v bs) {b i : Nat} {cs : Array Value} {t : TypeId} {fz : Nat × Nat} (hb : w.heap[b]? = some (.cells cs t fz)) (ht : t ≠ 5) (hbb : base ≤ b) (u : Value) : PartIs base (w.setCell ⟨b, i, none⟩ u) v bs :=
  h.keptT (set_grown w b i u) (.inr ⟨b, cs, t, fz, rfl, hbb, hb, ht⟩)
/-- The list v of writes is the call's own, from block rb on; its bytes lie ahead of block pb, or in blocks of bytes. -/
def OwnV (rb pb : Nat) (w : World) (v : Value) (l : List Plc) : Prop :=
  ∃ us : List WV, us.map (·.1) = l ∧ w.ownsRow rb 53 4 v l.length (flatW us) ∧ ∀ x ∈ us, PartIs pb w x.2.1 x.1.name ∧ PartIs pb w x.2.2.1 x.1.key ∧ PartIs pb w x.2.2.2 x.1.value
theorem ownV_nil (rb pb : Nat) (w : World) : OwnV rb pb w (.slice none 0 0) [] := ⟨[], rfl, World.ownsRow_nil _ _ _ _, fun x hx => by simp at hx⟩
theorem OwnV.own {rb : Nat} {w : World} {v : Value} {l : List Plc} (h : OwnV rb rb w v l) : OwnW rb w v l := h
theorem OwnV.row {rb pb : Nat} {w : World} {v : Value} {l : List Plc} (h : OwnV rb pb w v l) : v.ownBlock = none ∨ ∃ g cur fz, v.ownBlock = some g ∧ rb ≤ g ∧ w.heap[g]? = some (.cells cur 53 fz) := by
  obtain ⟨us, _, h, _⟩ := h
  rcases h.2 with ⟨rfl, _⟩ | ⟨g, cap, cur, rfl, hb, hg, _⟩
  · exact .inl rfl
  · exact .inr ⟨g, cur, _, rfl, hb, hg⟩
theorem OwnV.lt {rb pb : Nat} {w : World} {v : Value} {l : List Plc} (h : OwnV rb pb w v l) : ∀ k, v.ownBlock = some k → rb ≤ k ∧ k < w.heap.size := by
  obtain ⟨us, _, h, _⟩ := h
  exact World.ownsRow.lt h
theorem OwnV.ne {rb pb : Nat} {w : World} {v : Value} {l : List Plc} (h : OwnV rb pb w v l) {b : Nat} {cs : Array Value} {t : TypeId} {fz : Nat × Nat} (hb : w.heap[b]? = some (.cells cs t fz)) (ht : t ≠ 53) : v.ownBlock ≠ some b := by
  intro e
  rcases h.row with h0 | ⟨g, cur, fz2, h1, _, h2⟩
  · rw [h0] at e; cases e
  · rw [h1] at e
    cases e
    rw [hb] at h2
    simp only [Option.some.injEq, Obj.cells.injEq] at h2
    exact ht h2.2.1
theorem OwnV.kept {rb pb : Nat} {w w' : World} {v : Value} {l : List Plc} (h : OwnV rb pb w v l) {row : Option Nat} (hg : w.grownBy w' row) (hne : v.ownBlock = none ∨ v.ownBlock ≠ row) (hrow : row = none ∨ ∃ g cur t fz, row = some g ∧ pb ≤ g ∧ w.heap[g]? = some (.cells cur t fz) ∧ t ≠ 5) : OwnV rb pb w' v l := by
  obtain ⟨us, h1, h2, h3⟩ := h
  exact ⟨us, h1, World.ownsRow.kept h2 hg hne, fun x hx => ⟨(h3 x hx).1.keptT hg hrow, (h3 x hx).2.1.keptT hg hrow, (h3 x hx).2.2.keptT hg hrow⟩⟩
theorem OwnV.grownNone {rb pb : Nat} {w w' : World} {v : Value} {l : List Plc} (h : OwnV rb pb w v l) (hg : w.grownBy w' none) : OwnV rb pb w' v l := h.kept hg (by
  cases hv : v.ownBlock with
  | none => exact .inl rfl
  | some k => exact .inr (by simp)) (.inl rfl)
theorem OwnV.setOther {rb pb : Nat} {w : World} {v : Value} {l : List Plc} (h : OwnV rb pb w v l) {b i : Nat} {cs : Array Value} {t : TypeId} {fz : Nat × Nat} (hb : w.heap[b]? = some (.cells cs t fz)) (ht : t ≠ 5) (ht2 : t ≠ 53) (hbb : pb ≤ b) (u : Value) : OwnV rb pb (w.setCell ⟨b, i, none⟩ u) v l :=
  h.kept (set_grown w b i u) (.inr (h.ne hb ht2)) (.inr ⟨b, cs, t, fz, rfl, hbb, hb, ht⟩)
theorem OwnV.shape {rb pb : Nat} {w : World} {v : Value} {l : List Plc} (h : OwnV rb pb w v l) : ∃ a cap, v = .slice a l.length cap := by
  obtain ⟨us, _, h, _⟩ := h
  rcases h.2 with ⟨rfl, h0⟩ | ⟨g, cap, cur, rfl, _⟩
  · exact ⟨none, 0, by rw [h0]⟩
  · exact ⟨_, cap, rfl⟩
theorem OwnV.any {rb pb : Nat} {w : World} {v : Value} {l : List Plc} (h : OwnV rb pb w v l) : ∃ a n cap, v = .slice a n cap := by
  obtain ⟨a, cap, e⟩ := h.shape
  exact ⟨a, _, cap, e⟩
theorem OwnV.down {rb pb : Nat} {w : World} {v : Value} {l : List Plc} (h : OwnV rb pb w v l) (rb' : Nat) (hb : rb' ≤ rb) : OwnV rb' pb w v l := by
  obtain ⟨us, h1, h2, h3⟩ := h
  refine ⟨us, h1, ⟨h2.1, ?_⟩, h3⟩
  rcases h2.2 with h | ⟨g, cap, cur, e, hb2, rest⟩
  · exact .inl h
  · exact .inr ⟨g, cap, cur, e, Nat.le_trans hb hb2, rest⟩
theorem OwnV.writesB {rb pb : Nat} {w : World} {v : Value} {l : List Plc} (h : OwnV rb pb w v l) : WritesB pb w v l := by
  obtain ⟨us, hl, hr, h3⟩ := h
  rcases hr.2 with ⟨rfl, h0⟩ | ⟨g, cap, cur, rfl, hb, hg, hn, hm, hs, ht⟩
  · have : l = [] := List.eq_nil_of_length_eq_zero h0
    rw [this]
    exact writesB_nil pb w
  · have hcell : ∀ j u, (flatW us)[j]? = some u → w.cell? ⟨g, j, none⟩ = some u := by
      intro j u hj
      have hlt : j < l.length * 4 := by
        have := (List.getElem?_eq_some_iff.1 hj).1
        rw [hr.1] at this
        exact this
      have e2 : (cur.toList.take (l.length * 4))[j]? = (flatW us)[j]? := by rw [ht]
      rw [List.getElem?_take, if_pos hlt, hj] at e2
      simp [World.cell?, hg]
      simpa using e2
    refine ⟨_, cap, rfl, hn, .inr ⟨g, 0, rfl, .inr ⟨_, _, hg⟩, fun i hi => ?_⟩⟩
    obtain ⟨e1, e2⟩ := mapW_getD hl i hi
    have hlen : us.length = l.length := by rw [← hl]; simp
    obtain ⟨c1, c2, c3, c4⟩ := flatW_get us i (by omega)
    have hp := h3 _ e2
    rw [e1] at c3 hp
    rw [Nat.zero_add]
    exact ⟨_, _, _, hcell _ _ c1, hcell _ _ c2, hcell _ _ c3, hcell _ _ c4, hp.1, hp.2.1, hp.2.2⟩
theorem OwnV.list {rb pb : Nat} {w : World} {v : Value} {l : List Plc} (h : OwnV rb pb w v l) : WritesIs w v l := h.writesB.list
theorem grown_ownV {rb pb : Nat} {w W w1 : World} {v : Value} {l : List Plc} (h : w.grownBy W none) (ho : OwnV rb pb W v l) (hb : w.heap.size ≤ rb) (hg : W.grownBy w1 v.ownBlock) : w.grownBy w1 none :=
  ⟨hg.os.trans h.os, hg.tape.trans h.tape, hg.output.trans h.output, Nat.le_trans h.size hg.size, fun i hi hn => (hg.block i (Nat.lt_of_lt_of_le hi h.size) (fun e => by have := (ho.lt i e.symm).1; omega)).trans (h.block i hi hn)⟩
/-- append(v, x) of one write. -/
theorem wpList_append_wrV {w : World} {ops : Array Oper} {rest : List Oper} {o : Oper} {a : Act} {Q : Exit → Act → World → Prop} (hgd : o.guard = none) (s x : Operand)
    (ho : o.op = .call { callee := .builtin .append, args := #[s, x], argTypes := #[26, 26] }) (rb : Nat) (v : Value) (l : List Plc) (hs : a.eval s = v) (hown : OwnV rb 0 w v l)
    (vn vk vv : Value) (p : Plc) (h1 : PartIs 0 w vn p.name) (h2 : PartIs 0 w vk p.key) (h3 : PartIs 0 w vv p.value) (nb : Nat) (hb : w.heap[nb]? = some (.cells #[vn, vk, .bool p.gone, vv] 53))
    (hx : a.eval x = .slice (some ⟨nb, 0, none⟩) 1 1) (hl : (l.length + 1) * 80 ≤ 140737488355328) (hbase : rb ≤ w.heap.size)
    (h : ∀ v' w', OwnV rb 0 w' v' (l ++ [p]) → w.grownBy w' v.ownBlock → wpList Try.prog ops Q rest (a.put o.dst v') w') : wpList Try.prog ops Q (o :: rest) a w := by
  obtain ⟨i0, hi, hz0, hz1, hz2⟩ := info_parts infoWr
  have hrow : v.ownBlock = none ∨ ∃ g cur t fz, v.ownBlock = some g ∧ 0 ≤ g ∧ w.heap[g]? = some (.cells cur t fz) ∧ t ≠ 5 := by
    rcases hown.row with h | ⟨g, cur, fz, e, _, h⟩
    · exact .inl h
    · exact .inr ⟨g, cur, _, fz, e, Nat.zero_le _, h, wrT5⟩
  obtain ⟨us, hul, hr, hp⟩ := hown
  refine wpList_plain hgd fun K hK => ?_
  refine wp_append_lies w s x 26 ho rb 53 i0 (.agg #[.slice none 0 0, .slice none 0 0, .bool false, .slice none 0 0]) 4 80 Try.underlying26 hi hz0 hz1 hz2 rfl (by decide) v l.length (flatW us) hs hr ⟨nb, 0, none⟩ 1 1 (flatW [(p, vn, vk, vv)]) hx rfl (World.news_of_block (cs := #[vn, vk, .bool p.gone, vv]) hb) ?_ (by omega) (by unfold maxLen; omega) hl hbase _ rfl ?_
  · intro u hu
    simp only [flatW, List.flatMap_cons, List.flatMap_nil, List.append_nil, List.mem_cons, List.not_mem_nil, or_false] at hu
    rcases hu with rfl | rfl | rfl | rfl
    · exact part_oneCell h1
    · exact part_oneCell h2
    · rfl
    · exact part_oneCell h3
  · intro g cap w' q1 q2 _ _
    refine hK _ _ (h _ w' ⟨us ++ [(p, vn, vk, vv)], by simp [hul], ?_, ?_⟩ q2)
    · rw [flatW_append, List.length_append]; exact q1
    · intro y hy
      rcases List.mem_append.1 hy with hy | hy
      · exact ⟨(hp y hy).1.keptT q2 hrow, (hp y hy).2.1.keptT q2 hrow, (hp y hy).2.2.keptT q2 hrow⟩
      · simp only [List.mem_cons, List.not_mem_nil, or_false] at hy
        subst hy
        exact ⟨h1.keptT q2 hrow, h2.keptT q2 hrow, h3.keptT q2 hrow⟩
end Go.Proofs.Ytpmfbfflacbmjac

/-
  Reads and transactions in memory.
-/
namespace Go.Proofs.Ytpmfbfflacbmjac
open Go.RowKit
/-- A read, as a value; one that lies at a place; a list of reads, as it is handed over. -/
def ReadIs (w : World) (v : Value) (r : Rd) : Prop := ∃ vn vk vl, v = .agg #[vn, vk, .bool r.wide, vl] ∧ SliceIs w vn r.name ∧ SliceIs w vk r.key ∧ SliceIs w vl r.last
theorem ReadIs.grown {w w' : World} {v : Value} {r : Rd} (h : ReadIs w v r) (hg : w.grownBy w' none) : ReadIs w' v r := by
  obtain ⟨vn, vk, vl, rfl, h1, h2, h3⟩ := h
  exact ⟨vn, vk, vl, rfl, h1.grown hg, h2.grown hg, h3.grown hg⟩
theorem ReadIs.agg {w : World} {v : Value} {r : Rd} (h : ReadIs w v r) : ∃ na nc ka kc la lc, v = .agg #[.slice na r.name.length nc, .slice ka r.key.length kc, .bool r.wide, .slice la r.last.length lc] := by
  obtain ⟨vn, vk, vl, rfl, h1, h2, h3⟩ := h
  obtain ⟨na, nc, rfl⟩ := h1.shape
  obtain ⟨ka, kc, rfl⟩ := h2.shape
  obtain ⟨la, lc, rfl⟩ := h3.shape
  exact ⟨na, nc, ka, kc, la, lc, rfl⟩
theorem ReadIs.parts {w : World} {r : Rd} {x y g z : Value} (h : ReadIs w (.agg #[x, y, g, z]) r) : SliceIs w x r.name ∧ SliceIs w y r.key ∧ g = .bool r.wide ∧ SliceIs w z r.last := by
  obtain ⟨vn, vk, vl, e, h1, h2, h3⟩ := h
  simp only [Value.agg.injEq, Array.mk.injEq, List.cons.injEq, and_true] at e
  obtain ⟨rfl, rfl, rfl, rfl⟩ := e
  exact ⟨h1, h2, rfl, h3⟩
def ReadAt (w : World) (b o : Nat) (r : Rd) : Prop := ∃ vn vk vl, w.cell? ⟨b, o, none⟩ = some vn ∧ w.cell? ⟨b, o + 1, none⟩ = some vk ∧ w.cell? ⟨b, o + 2, none⟩ = some (.bool r.wide) ∧ w.cell? ⟨b, o + 3, none⟩ = some vl ∧ SliceIs w vn r.name ∧ SliceIs w vk r.key ∧ SliceIs w vl r.last
theorem ReadAt.grown {w w' : World} {b o : Nat} {r : Rd} (h : ReadAt w b o r) (hg : w.grownBy w' none) : ReadAt w' b o r := by
  obtain ⟨vn, vk, vl, c1, c2, c3, c4, h1, h2, h3⟩ := h
  exact ⟨vn, vk, vl, hg.cell c1 (by simp), hg.cell c2 (by simp), hg.cell c3 (by simp), hg.cell c4 (by simp), h1.grown hg, h2.grown hg, h3.grown hg⟩
def ReadsIs (w : World) (v : Value) (l : List Rd) : Prop :=
  ∃ a cap, v = .slice a l.length cap ∧ l.length ≤ cap ∧ ((l = [] ∧ (a = none → cap = 0)) ∨ ∃ b o, a = some ⟨b, o, none⟩ ∧ ∀ i, i < l.length → ReadAt w b (o + i * 4) (l.getD i noRd))
theorem readsIs_nil (w : World) : ReadsIs w (.slice none 0 0) [] := ⟨none, 0, rfl, Nat.le_refl _, .inl ⟨rfl, fun _ => rfl⟩⟩
theorem ReadsIs.shape {w : World} {v : Value} {l : List Rd} (h : ReadsIs w v l) : ∃ a cap, v = .slice a l.length cap := by
  obtain ⟨a, cap, rfl, _⟩ := h
  exact ⟨a, cap, rfl⟩
theorem ReadsIs.grown {w w' : World} {v : Value} {l : List Rd} (h : ReadsIs w v l) (hg : w.grownBy w' none) : ReadsIs w' v l := by
  obtain ⟨a, cap, rfl, hc, h⟩ := h
  refine ⟨a, cap, rfl, hc, ?_⟩
  rcases h with h | ⟨b, o, rfl, h⟩
  · exact .inl h
  · exact .inr ⟨b, o, rfl, fun i hi => (h i hi).grown hg⟩
theorem ReadsIs.at {w : World} {a : Option Addr} {n cap : Nat} {l : List Rd} (h : ReadsIs w (.slice a n cap) l) (i : Nat) (hi : i < l.length) : ∃ b o, a = some ⟨b, o, none⟩ ∧ ReadAt w b (o + i * 4) (l.getD i noRd) := by
  obtain ⟨a', cap', e, hc, h⟩ := h
  simp only [Value.slice.injEq] at e
  obtain ⟨rfl, rfl, rfl⟩ := e
  rcases h with ⟨rfl, _⟩ | ⟨b, o, rfl, h⟩
  · simp at hi
  · exact ⟨b, o, rfl, h i hi⟩
/-- What came in fits into memory. -/
structure RdFits (r : Rd) : Prop where
  name : r.name.length ≤ 140737488355328
  key : r.key.length ≤ 140737488355328
  last : r.last.length ≤ 140737488355328
structure FitsR (l : List Rd) : Prop where
  many : l.length * 80 ≤ 140737488355328
  each : ∀ i, i < l.length → RdFits (l.getD i noRd)
structure FitsX (t : Tx) : Prop where
  start : -9223372036854775808 ≤ t.start ∧ t.start ≤ 9223372036854775807
  reads : FitsR t.reads
  writes : FitsW t.writes
/-- A transaction, as a value. -/
def TxIs (w : World) (v : Value) (t : Tx) : Prop := ∃ vr vw, v = .agg #[.int .i64 t.start, vr, vw] ∧ ReadsIs w vr t.reads ∧ WritesIs w vw t.writes
theorem TxIs.grown {w w' : World} {v : Value} {t : Tx} (h : TxIs w v t) (hg : w.grownBy w' none) : TxIs w' v t := by
  obtain ⟨vr, vw, rfl, h1, h2⟩ := h
  exact ⟨vr, vw, rfl, h1.grown hg, h2.grown hg⟩
theorem TxIs.agg {w : World} {v : Value} {t : Tx} (h : TxIs w v t) : ∃ ra rc wa wc, v = .agg #[.int .i64 t.start, .slice ra t.reads.length rc, .slice wa t.writes.length wc] := by
  obtain ⟨vr, vw, rfl, h1, h2⟩ := h
  obtain ⟨ra, rc, rfl⟩ := h1.shape
  obtain ⟨wa, wc, rfl⟩ := h2.shape
  exact ⟨ra, rc, wa, wc, rfl⟩
theorem TxIs.parts {w : World} {t : Tx} {x y z : Value} (h : TxIs w (.agg #[x, y, z]) t) : x = .int .i64 t.start ∧ ReadsIs w y t.reads ∧ WritesIs w z t.writes := by
  obtain ⟨vr, vw, e, h1, h2⟩ := h
  simp only [Value.agg.injEq, Array.mk.injEq, List.cons.injEq, and_true] at e
  obtain ⟨rfl, rfl, rfl⟩ := e
  exact ⟨rfl, h1, h2⟩
theorem txIs_no (w : World) : TxIs w (.agg #[.int .i64 0, .slice none 0 0, .slice none 0 0]) noTx := ⟨_, _, rfl, readsIs_nil w, writesIs_nil w⟩
/-- A read that may be fits. -/
theorem read_fits {r : Rd} (h : readE r = 0) : RdFits r := by
  obtain ⟨h1, h2, h3⟩ := (readE_iff r).1 h
  refine ⟨by omega, by omega, ?_⟩
  split at h3
  · omega
  · rw [h3]; simp
/-- A list of reads of the call's own, from block rb on; its bytes lie ahead of block pb, or in blocks of bytes. -/
abbrev RV := Rd × Value × Value × Value
def noRV : RV := (noRd, undef, undef, undef)
def flatR (us : List RV) : List Value := us.flatMap fun x => [x.2.1, x.2.2.1, .bool x.1.wide, x.2.2.2]
theorem flatR_len (us : List RV) : (flatR us).length = us.length * 4 := by
  induction us with
  | nil => rfl
  | cons x us ih => rw [flatR, List.flatMap_cons, List.length_append, ← flatR, ih, List.length_cons]; simp; omega
theorem flatR_append (a b : List RV) : flatR (a ++ b) = flatR a ++ flatR b := by simp [flatR]
theorem flatR_get : ∀ (us : List RV) (i : Nat), i < us.length → (flatR us)[i * 4]? = some (us.getD i noRV).2.1 ∧ (flatR us)[i * 4 + 1]? = some (us.getD i noRV).2.2.1 ∧ (flatR us)[i * 4 + 2]? = some (.bool (us.getD i noRV).1.wide) ∧ (flatR us)[i * 4 + 3]? = some (us.getD i noRV).2.2.2
  | [], i, h => by simp at h
  | x :: us, 0, _ => ⟨rfl, rfl, rfl, rfl⟩
  | x :: us, i + 1, h => by
    have := flatR_get us i (by simpa using h)
    rw [show (i + 1) * 4 = i * 4 + 4 by omega]
    exact this
theorem rdT5 : (40 : Nat) ≠ 5 := by decide
theorem rdTW : (40 : Nat) ≠ 53 := by decide
def OwnR (rb pb : Nat) (w : World) (v : Value) (l : List Rd) : Prop :=
  ∃ us : List RV, us.map (·.1) = l ∧ w.ownsRow rb 40 4 v l.length (flatR us) ∧ ∀ x ∈ us, PartIs pb w x.2.1 x.1.name ∧ PartIs pb w x.2.2.1 x.1.key ∧ PartIs pb w x.2.2.2 x.1.last
theorem ownR_nil (rb pb : Nat) (w : World) : OwnR rb pb w (.slice none 0 0) [] := ⟨[], rfl, World.ownsRow_nil _ _ _ _, fun x hx => by simp at hx⟩
theorem OwnR.row {rb pb : Nat} {w : World} {v : Value} {l : List Rd} (h : OwnR rb pb w v l) : v.ownBlock = none ∨ ∃ g cur fz, v.ownBlock = some g ∧ rb ≤ g ∧ w.heap[g]? = some (.cells cur 40 fz) := by
  obtain ⟨us, _, h, _⟩ := h
  rcases h.2 with ⟨rfl, _⟩ | ⟨g, cap, cur, rfl, hb, hg, _⟩
  · exact .inl rfl
  · exact .inr ⟨g, cur, _, rfl, hb, hg⟩
theorem OwnR.lt {rb pb : Nat} {w : World} {v : Value} {l : List Rd} (h : OwnR rb pb w v l) : ∀ k, v.ownBlock = some k → rb ≤ k ∧ k < w.heap.size := by
  obtain ⟨us, _, h, _⟩ := h
  exact World.ownsRow.lt h
theorem OwnR.ne {rb pb : Nat} {w : World} {v : Value} {l : List Rd} (h : OwnR rb pb w v l) {b : Nat} {cs : Array Value} {t : TypeId} {fz : Nat × Nat} (hb : w.heap[b]? = some (.cells cs t fz)) (ht : t ≠ 40) : v.ownBlock ≠ some b := by
  intro e
  rcases h.row with h0 | ⟨g, cur, fz2, h1, _, h2⟩
  · rw [h0] at e; cases e
  · rw [h1] at e
    cases e
    rw [hb] at h2
    simp only [Option.some.injEq, Obj.cells.injEq] at h2
    exact ht h2.2.1
theorem OwnR.kept {rb pb : Nat} {w w' : World} {v : Value} {l : List Rd} (h : OwnR rb pb w v l) {row : Option Nat} (hg : w.grownBy w' row) (hne : v.ownBlock = none ∨ v.ownBlock ≠ row) (hrow : row = none ∨ ∃ g cur t fz, row = some g ∧ pb ≤ g ∧ w.heap[g]? = some (.cells cur t fz) ∧ t ≠ 5) : OwnR rb pb w' v l := by
  obtain ⟨us, h1, h2, h3⟩ := h
  exact ⟨us, h1, World.ownsRow.kept h2 hg hne, fun x hx => ⟨(h3 x hx).1.keptT hg hrow, (h3 x hx).2.1.keptT hg hrow, (h3 x hx).2.2.keptT hg hrow⟩⟩
theorem OwnR.grownNone {rb pb : Nat} {w w' : World} {v : Value} {l : List Rd} (h : OwnR rb pb w v l) (hg : w.grownBy w' none) : OwnR rb pb w' v l := h.kept hg (by
  cases hv : v.ownBlock with
  | none => exact .inl rfl
  | some k => exact .inr (by simp)) (.inl rfl)
theorem OwnR.setOther {rb pb : Nat} {w : World} {v : Value} {l : List Rd} (h : OwnR rb pb w v l) {b i : Nat} {cs : Array Value} {t : TypeId} {fz : Nat × Nat} (hb : w.heap[b]? = some (.cells cs t fz)) (ht : t ≠ 5) (ht2 : t ≠ 40) (hbb : pb ≤ b) (u : Value) : OwnR rb pb (w.setCell ⟨b, i, none⟩ u) v l :=
  h.kept (set_grown w b i u) (.inr (h.ne hb ht2)) (.inr ⟨b, cs, t, fz, rfl, hbb, hb, ht⟩)
theorem OwnR.shape {rb pb : Nat} {w : World} {v : Value} {l : List Rd} (h : OwnR rb pb w v l) : ∃ a cap, v = .slice a l.length cap := by
  obtain ⟨us, _, h, _⟩ := h
  rcases h.2 with ⟨rfl, h0⟩ | ⟨g, cap, cur, rfl, _⟩
  · exact ⟨none, 0, by rw [h0]⟩
  · exact ⟨_, cap, rfl⟩
theorem mapR_getD {us : List RV} {l : List Rd} (h : us.map (·.1) = l) (i : Nat) (hi : i < l.length) : (us.getD i noRV).1 = l.getD i noRd ∧ us.getD i noRV ∈ us := by
  subst h
  have hi' : i < us.length := by simpa using hi
  refine ⟨by simp [hi'], ?_⟩
  rw [show us.getD i noRV = us[i] by simp [hi']]
  exact List.getElem_mem hi'
theorem OwnR.list {rb pb : Nat} {w : World} {v : Value} {l : List Rd} (h : OwnR rb pb w v l) : ReadsIs w v l := by
  obtain ⟨us, hl, hr, h3⟩ := h
  rcases hr.2 with ⟨rfl, h0⟩ | ⟨g, cap, cur, rfl, hb, hg, hn, hm, hs, ht⟩
  · have : l = [] := List.eq_nil_of_length_eq_zero h0
    rw [this]
    exact readsIs_nil w
  · have hcell : ∀ j u, (flatR us)[j]? = some u → w.cell? ⟨g, j, none⟩ = some u := by
      intro j u hj
      have hlt : j < l.length * 4 := by
        have := (List.getElem?_eq_some_iff.1 hj).1
        rw [hr.1] at this
        exact this
      have e2 : (cur.toList.take (l.length * 4))[j]? = (flatR us)[j]? := by rw [ht]
      rw [List.getElem?_take, if_pos hlt, hj] at e2
      simp [World.cell?, hg]
      simpa using e2
    refine ⟨_, cap, rfl, hn, .inr ⟨g, 0, rfl, fun i hi => ?_⟩⟩
    obtain ⟨e1, e2⟩ := mapR_getD hl i hi
    have hlen : us.length = l.length := by rw [← hl]; simp
    obtain ⟨c1, c2, c3, c4⟩ := flatR_get us i (by omega)
    have hp := h3 _ e2
    rw [e1] at c3 hp
    rw [Nat.zero_add]
    exact ⟨_, _, _, hcell _ _ c1, hcell _ _ c2, hcell _ _ c3, hcell _ _ c4, hp.1.1, hp.2.1.1, hp.2.2.1⟩
theorem grown_ownR {rb pb : Nat} {w W w1 : World} {v : Value} {l : List Rd} (h : w.grownBy W none) (ho : OwnR rb pb W v l) (hb : w.heap.size ≤ rb) (hg : W.grownBy w1 v.ownBlock) : w.grownBy w1 none :=
  ⟨hg.os.trans h.os, hg.tape.trans h.tape, hg.output.trans h.output, Nat.le_trans h.size hg.size, fun i hi hn => (hg.block i (Nat.lt_of_lt_of_le hi h.size) (fun e => by have := (ho.lt i e.symm).1; omega)).trans (h.block i hi hn)⟩
theorem infoRd : (Try.prog.info? 40).map (fun i => (i.zero, i.size, i.bytes)) = some (some (.agg #[.slice none 0 0, .slice none 0 0, .bool false, .slice none 0 0]), 4, 80) := by kernel_rfl
/-- append(v, x) of one read. -/
theorem wp_append_rd {w : World} {o : Oper} {a : Act} {K : Act → World → Prop} {Q : Exit → Act → World → Prop} (s x : Operand)
    (ho : o.op = .call { callee := .builtin .append, args := #[s, x], argTypes := #[25, 25] }) (rb : Nat) (v : Value) (l : List Rd) (hs : a.eval s = v) (hown : OwnR rb 0 w v l)
    (vn vk vl : Value) (r : Rd) (h1 : PartIs 0 w vn r.name) (h2 : PartIs 0 w vk r.key) (h3 : PartIs 0 w vl r.last) (nb : Nat) (hb : w.heap[nb]? = some (.cells #[vn, vk, .bool r.wide, vl] 40))
    (hx : a.eval x = .slice (some ⟨nb, 0, none⟩) 1 1) (hl : (l.length + 1) * 80 ≤ 140737488355328) (hbase : rb ≤ w.heap.size)
    (h : ∀ v' w', OwnR rb 0 w' v' (l ++ [r]) → w.grownBy w' v.ownBlock → K (a.put o.dst v') w') : o.wp Try.prog a w K Q := by
  obtain ⟨i0, hi, hz0, hz1, hz2⟩ := info_parts infoRd
  have hrow : v.ownBlock = none ∨ ∃ g cur t fz, v.ownBlock = some g ∧ 0 ≤ g ∧ w.heap[g]? = some (.cells cur t fz) ∧ t ≠ 5 := by
    rcases hown.row with h | ⟨g, cur, fz, e, _, h⟩
    · exact .inl h
    · exact .inr ⟨g, cur, _, fz, e, Nat.zero_le _, h, rdT5⟩
  obtain ⟨us, hul, hr, hp⟩ := hown
  refine wp_append_lies w s x 25 ho rb 40 i0 (.agg #[.slice none 0 0, .slice none 0 0, .bool false, .slice none 0 0]) 4 80 Try.underlying25 hi hz0 hz1 hz2 rfl (by decide) v l.length (flatR us) hs hr ⟨nb, 0, none⟩ 1 1 (flatR [(r, vn, vk, vl)]) hx rfl (World.news_of_block (cs := #[vn, vk, .bool r.wide, vl]) hb) ?_ (by omega) (by unfold maxLen; omega) hl hbase _ rfl ?_
  · intro u hu
    simp only [flatR, List.flatMap_cons, List.flatMap_nil, List.append_nil, List.mem_cons, List.not_mem_nil, or_false] at hu
    rcases hu with rfl | rfl | rfl | rfl
    · exact part_oneCell h1
    · exact part_oneCell h2
    · rfl
    · exact part_oneCell h3
  · intro g cap w' q1 q2 _ _
    refine h _ w' ⟨us ++ [(r, vn, vk, vl)], by simp [hul], ?_, ?_⟩ q2
    · rw [flatR_append, List.length_append]; exact q1
    · intro y hy
      rcases List.mem_append.1 hy with hy | hy
      · exact ⟨(hp y hy).1.keptT q2 hrow, (hp y hy).2.1.keptT q2 hrow, (hp y hy).2.2.keptT q2 hrow⟩
      · simp only [List.mem_cons, List.not_mem_nil, or_false] at hy
        subst hy
        exact ⟨h1.keptT q2 hrow, h2.keptT q2 hrow, h3.keptT q2 hrow⟩
theorem wpList_append_rd {w : World} {ops : Array Oper} {rest : List Oper} {o : Oper} {a : Act} {Q : Exit → Act → World → Prop} (hgd : o.guard = none) (s x : Operand)
    (ho : o.op = .call { callee := .builtin .append, args := #[s, x], argTypes := #[25, 25] }) (rb : Nat) (v : Value) (l : List Rd) (hs : a.eval s = v) (hown : OwnR rb 0 w v l)
    (vn vk vl : Value) (r : Rd) (h1 : PartIs 0 w vn r.name) (h2 : PartIs 0 w vk r.key) (h3 : PartIs 0 w vl r.last) (nb : Nat) (hb : w.heap[nb]? = some (.cells #[vn, vk, .bool r.wide, vl] 40))
    (hx : a.eval x = .slice (some ⟨nb, 0, none⟩) 1 1) (hl : (l.length + 1) * 80 ≤ 140737488355328) (hbase : rb ≤ w.heap.size)
    (h : ∀ v' w', OwnR rb 0 w' v' (l ++ [r]) → w.grownBy w' v.ownBlock → wpList Try.prog ops Q rest (a.put o.dst v') w') : wpList Try.prog ops Q (o :: rest) a w :=
  wpList_plain hgd fun _ hK => wp_append_rd s x ho rb v l hs hown vn vk vl r h1 h2 h3 nb hb hx hl hbase fun v' w' h1 h2 => hK _ _ (h v' w' h1 h2)
end Go.Proofs.Ytpmfbfflacbmjac

/-
  What txn.Write must keep.
-/
namespace Go.Proofs.Ytpmfbfflacbmjac
open Go.RowKit
def TxWriteOK : Prop := ∀ (w : World) (v u : Value) (t : Tx) (r : Plc), TxIs w v t → FitsX t → WriteIs w u r → PlcFits r → Calls Try.prog 22 #[v, u] w fun e w' => ∃ x, e = .returned (.tuple #[x, .int .i64 (twriteE t r)]) ∧ TxIs w' x (twriteT t r) ∧ w.grownBy w' none
theorem fitsX_no2 : FitsX noTx := ⟨by decide, ⟨by decide, fun i hi => absurd hi (by simp [noTx])⟩, ⟨by decide, fun i hi => absurd hi (by simp [noTx])⟩⟩
theorem getD_in {l : List Plc} {i : Nat} (hi : i < l.length) : l.getD i noPlc = l[i] := by simp [List.getD, hi]
theorem fitsW_mem {l : List Plc} (h : FitsW l) {x : Plc} (hx : x ∈ l) : PlcFits x := by
  obtain ⟨i, hi, rfl⟩ := List.getElem_of_mem hx
  have := h.each i hi
  rwa [getD_in hi] at this
theorem fitsW_put {l : List Plc} {r : Plc} (h : FitsW l) (hr : PlcFits r) (hl : l.length ≤ 10) : FitsW (putW l r) := by
  refine ⟨?_, fun i hi => ?_⟩
  · rw [putW_len]; split <;> omega
  · rw [getD_in hi]
    rcases mem_putW l r _ (List.getElem_mem hi) with e | e
    · rw [e]; exact hr
    · exact fitsW_mem h e
theorem twrite_fits {t : Tx} {r : Plc} (hf : FitsX t) (hr : PlcFits r) : FitsX (twriteT t r) := by
  rw [twriteT]
  by_cases h0 : twriteE t r = 0
  · rw [if_pos h0]
    have ht : txE t = 0 := by
      by_cases e : txE t = 0
      · exact e
      · rw [twriteE, if_neg e] at h0; exact h0
    exact ⟨hf.start, hf.reads, fitsW_put hf.writes hr ((tx_iff t).1 ht).writes⟩
  · rw [if_neg h0]; exact fitsX_no2
end Go.Proofs.Ytpmfbfflacbmjac

/-
  Reads, writes and transactions in memory: what the walks share, with no function named.
-/
namespace Go.Proofs.Ytpmfbfflacbmjac
open Go.RowKit
theorem alloc_namedX (w : World) (o : Obj) : ∃ W : World, Hid (W = w.alloc o) ∧ w.grownBy W none ∧ Hid (W.heap[w.heap.size]? = some o) := ⟨w.alloc o, rfl, World.grownBy_alloc _ _ _, heap_alloc_new w o⟩
theorem ret_intX {x y : Int} (h : x = y) : Ending.returned (Value.int .i64 y) = Ending.returned (Value.int .i64 x) := by rw [h]
theorem ret_boolX {x y : Bool} (h : x = y) : Ending.returned (Value.bool y) = Ending.returned (Value.bool x) := by rw [h]
theorem trip_room {W w : World} {b : Nat} {x y z : Value} {t : TypeId} (hg : W.grownBy w none) (h : W.heap[b]? = some (.cells #[x, y, z] t)) : w.cell? ⟨b, 0, none⟩ = some x ∧ w.cell? ⟨b, 1, none⟩ = some y ∧ w.cell? ⟨b, 2, none⟩ = some z := by
  have hb : w.heap[b]? = some (.cells #[x, y, z] t) := by rw [hg.block b (Array.getElem?_eq_some_iff.1 h).1 (by simp)]; exact h
  refine ⟨?_, ?_, ?_⟩ <;> simp [World.cell?, hb]
/-- One read, one write of the walk. -/
def rdE1 (p : List Rd) (r : Rd) : Int := if readE r = 0 then (if p.any (fun q => rdSame q r) = true then 3 else 0) else readE r
def wrE1 (p : List Plc) (w : Plc) : Int := if writeE w = 0 then (if p.any (fun q => plSame q w) = true then 3 else 0) else writeE w
theorem rds_step (l : List Rd) (m : Nat) (h : m < l.length) : rdsE (l.take m) (l.drop m) = if rdE1 (l.take m) (l.getD m noRd) = 0 then rdsE (l.take (m + 1)) (l.drop (m + 1)) else rdE1 (l.take m) (l.getD m noRd) := by
  rw [List.drop_eq_getElem_cons h, rdsE, List.take_succ_eq_append_getElem h, show l[m] = l.getD m noRd by simp [h]]
  unfold rdE1
  by_cases h1 : readE (l.getD m noRd) = 0
  · rw [if_pos h1, if_pos h1]
    by_cases h2 : (l.take m).any (fun q => rdSame q (l.getD m noRd)) = true
    · rw [if_pos h2, if_pos h2, if_neg (by omega)]
    · rw [if_neg h2, if_neg h2, if_pos rfl]
  · rw [if_neg h1, if_neg h1, if_neg h1]
theorem wrs_step (l : List Plc) (m : Nat) (h : m < l.length) : wrsE (l.take m) (l.drop m) = if wrE1 (l.take m) (l.getD m noPlc) = 0 then wrsE (l.take (m + 1)) (l.drop (m + 1)) else wrE1 (l.take m) (l.getD m noPlc) := by
  rw [List.drop_eq_getElem_cons h, wrsE, List.take_succ_eq_append_getElem h, show l[m] = l.getD m noPlc by simp [h]]
  unfold wrE1
  by_cases h1 : writeE (l.getD m noPlc) = 0
  · rw [if_pos h1, if_pos h1]
    by_cases h2 : (l.take m).any (fun q => plSame q (l.getD m noPlc)) = true
    · rw [if_pos h2, if_pos h2, if_neg (by omega)]
    · rw [if_neg h2, if_neg h2, if_pos rfl]
  · rw [if_neg h1, if_neg h1, if_neg h1]
theorem any_takeS {α : Type} (d : α) (f : α → Bool) (l : List α) (k : Nat) (h : k < l.length) : (l.take (k + 1)).any f = ((l.take k).any f || f (l.getD k d)) := by
  rw [List.take_succ_eq_append_getElem h, List.any_append, show l[k] = l.getD k d by simp [h]]
  simp
theorem any_takeT {α : Type} (d : α) (f : α → Bool) (l : List α) (k m : Nat) (hk : k < m) (hm : m ≤ l.length) (h : f (l.getD k d) = true) : (l.take m).any f = true := by
  rw [List.any_eq_true]
  refine ⟨l.getD k d, ?_, h⟩
  rw [show l.getD k d = (l.take m)[k]'(by rw [List.length_take]; omega) by rw [List.getElem_take]; simp [show k < l.length by omega]]
  exact List.getElem_mem _
/-- The cells of an element, by its value. -/
theorem reads_cells {w : World} {a : Option Addr} {n cap : Nat} {l : List Rd} (h : ReadsIs w (.slice a n cap) l) (i : Nat) (hi : i < l.length) : ∃ b o, a = some ⟨b, o, none⟩ ∧ ∃ u1 u2 u3 u4 u5 u6, (w.cell? ⟨b, o + i * 4, none⟩ = some (.slice u1 (l.getD i noRd).name.length u2) ∧ w.cell? ⟨b, o + i * 4 + 1, none⟩ = some (.slice u3 (l.getD i noRd).key.length u4) ∧ w.cell? ⟨b, o + i * 4 + 2, none⟩ = some (.bool (l.getD i noRd).wide) ∧ w.cell? ⟨b, o + i * 4 + 3, none⟩ = some (.slice u5 (l.getD i noRd).last.length u6)) ∧ ReadIs w (.agg #[.slice u1 (l.getD i noRd).name.length u2, .slice u3 (l.getD i noRd).key.length u4, .bool (l.getD i noRd).wide, .slice u5 (l.getD i noRd).last.length u6]) (l.getD i noRd) := by
  obtain ⟨b, o, rfl, hat⟩ := h.at i hi
  obtain ⟨vn, vk, vl, c1, c2, c3, c4, s1, s2, s3⟩ := hat
  obtain ⟨u1, u2, rfl⟩ := s1.shape
  obtain ⟨u3, u4, rfl⟩ := s2.shape
  obtain ⟨u5, u6, rfl⟩ := s3.shape
  exact ⟨b, o, rfl, u1, u2, u3, u4, u5, u6, ⟨c1, c2, c3, c4⟩, ⟨_, _, _, rfl, s1, s2, s3⟩⟩
theorem writes_cells {w : World} {a : Option Addr} {n cap : Nat} {l : List Plc} (h : WritesIs w (.slice a n cap) l) (i : Nat) (hi : i < l.length) : ∃ b o, a = some ⟨b, o, none⟩ ∧ ∃ u1 u2 u3 u4 u5 u6, (w.cell? ⟨b, o + i * 4, none⟩ = some (.slice u1 (l.getD i noPlc).name.length u2) ∧ w.cell? ⟨b, o + i * 4 + 1, none⟩ = some (.slice u3 (l.getD i noPlc).key.length u4) ∧ w.cell? ⟨b, o + i * 4 + 2, none⟩ = some (.bool (l.getD i noPlc).gone) ∧ w.cell? ⟨b, o + i * 4 + 3, none⟩ = some (.slice u5 (l.getD i noPlc).value.length u6)) ∧ WriteIs w (.agg #[.slice u1 (l.getD i noPlc).name.length u2, .slice u3 (l.getD i noPlc).key.length u4, .bool (l.getD i noPlc).gone, .slice u5 (l.getD i noPlc).value.length u6]) (l.getD i noPlc) := by
  obtain ⟨b, o, rfl, hat⟩ := h.at i hi
  obtain ⟨vn, vk, vl, c1, c2, c3, c4, s1, s2, s3⟩ := hat
  obtain ⟨u1, u2, rfl⟩ := s1.shape
  obtain ⟨u3, u4, rfl⟩ := s2.shape
  obtain ⟨u5, u6, rfl⟩ := s3.shape
  exact ⟨b, o, rfl, u1, u2, u3, u4, u5, u6, ⟨c1, c2, c3, c4⟩, ⟨_, _, _, rfl, s1, s2, s3⟩⟩
theorem ret_twoX {x y : Bool} {a b : Int} (h : x = y) (k : a = b) : Ending.returned (Value.tuple #[.bool y, .int .i64 b]) = Ending.returned (Value.tuple #[.bool x, .int .i64 a]) := by rw [h, k]
theorem any_allT {α : Type} (f : α → Bool) (l : List α) (d : α) (i : Nat) (hi : i < l.length) (h : f (l.getD i d) = true) : l.any f = true := by
  have := any_takeT d f l i l.length hi (Nat.le_refl _) h
  rw [List.take_length] at this
  exact this
theorem txT5 : (28 : Nat) ≠ 5 := by decide
theorem txTR : (28 : Nat) ≠ 40 := by decide
theorem txTW : (28 : Nat) ≠ 53 := by decide
theorem OwnR.block {rb pb : Nat} {W w' : World} {v : Value} {l : List Rd} (ho : OwnR rb pb W v l) (hg : W.grownBy w' v.ownBlock) {b : Nat} {cs : Array Value} {t : TypeId} {fz : Nat × Nat} (h : W.heap[b]? = some (.cells cs t fz)) (ht : t ≠ 40) : w'.heap[b]? = some (.cells cs t fz) := by
  rw [hg.block b (Array.getElem?_eq_some_iff.1 h).1 (fun e => ho.ne h ht e.symm)]; exact h
theorem OwnV.block {rb pb : Nat} {W w' : World} {v : Value} {l : List Plc} (ho : OwnV rb pb W v l) (hg : W.grownBy w' v.ownBlock) {b : Nat} {cs : Array Value} {t : TypeId} {fz : Nat × Nat} (h : W.heap[b]? = some (.cells cs t fz)) (ht : t ≠ 53) : w'.heap[b]? = some (.cells cs t fz) := by
  rw [hg.block b (Array.getElem?_eq_some_iff.1 h).1 (fun e => ho.ne h ht e.symm)]; exact h
/-- A list of reads stands while a list of writes grows. -/
theorem OwnR.keptV {rb rb' : Nat} {W w' : World} {v u : Value} {l : List Rd} {k : List Plc} (hR : OwnR rb 0 W v l) (hV : OwnV rb' 0 W u k) (hg : W.grownBy w' u.ownBlock) : OwnR rb 0 w' v l := by
  refine hR.kept hg ?_ ?_
  · rcases hR.row with h | ⟨g, cur, fz, e, _, h⟩
    · exact .inl h
    · refine .inr ?_
      rw [e]
      exact fun e2 => hV.ne h (fun e => rdTW e) e2.symm
  · rcases hV.row with h | ⟨g, cur, fz, e, _, h⟩
    · exact .inl h
    · exact .inr ⟨g, cur, _, fz, e, Nat.zero_le _, h, wrT5⟩
theorem trip_room2 {w : World} {b : Nat} {x y z : Value} {t : TypeId} (h : w.heap[b]? = some (.cells #[x, y, z] t)) : (w.cell? ⟨b, 0, none⟩ = some x ∧ w.cell? ⟨b, 1, none⟩ = some y ∧ w.cell? ⟨b, 2, none⟩ = some z) ∧ w.frozen? ⟨b, 0, none⟩ = false ∧ w.frozen? ⟨b, 1, none⟩ = false ∧ w.frozen? ⟨b, 2, none⟩ = false := by
  refine ⟨⟨?_, ?_, ?_⟩, ?_, ?_, ?_⟩ <;> simp [World.cell?, World.frozen?, h]
/-- A transaction is stored into the result's own block. -/
theorem res_set {rb : Nat} {w wr : World} {RB : Nat} {x y z : Value} {st : Int} {va ua : Option Addr} {n m vc uc : Nat} {R : List Rd} {V : List Plc} (h : wr.heap[RB]? = some (.cells #[x, y, z] 28)) (hR : OwnR rb 0 wr (.slice va n vc) R) (hV : OwnV rb 0 wr (.slice ua m uc) V) (hg : w.grownBy wr none) (hw : w.heap.size ≤ RB) :
    ((((wr.setCell ⟨RB, 0, none⟩ (.int .i64 st)).setCell ⟨RB, 1, none⟩ (.slice va n vc)).setCell ⟨RB, 2, none⟩ (.slice ua m uc)).cell? ⟨RB, 0, none⟩ = some (.int .i64 st) ∧ (((wr.setCell ⟨RB, 0, none⟩ (.int .i64 st)).setCell ⟨RB, 1, none⟩ (.slice va n vc)).setCell ⟨RB, 2, none⟩ (.slice ua m uc)).cell? ⟨RB, 1, none⟩ = some (.slice va n vc) ∧ (((wr.setCell ⟨RB, 0, none⟩ (.int .i64 st)).setCell ⟨RB, 1, none⟩ (.slice va n vc)).setCell ⟨RB, 2, none⟩ (.slice ua m uc)).cell? ⟨RB, 2, none⟩ = some (.slice ua m uc)) ∧ OwnR rb 0 (((wr.setCell ⟨RB, 0, none⟩ (.int .i64 st)).setCell ⟨RB, 1, none⟩ (.slice va n vc)).setCell ⟨RB, 2, none⟩ (.slice ua m uc)) (.slice va n vc) R ∧ OwnV rb 0 (((wr.setCell ⟨RB, 0, none⟩ (.int .i64 st)).setCell ⟨RB, 1, none⟩ (.slice va n vc)).setCell ⟨RB, 2, none⟩ (.slice ua m uc)) (.slice ua m uc) V ∧ w.grownBy (((wr.setCell ⟨RB, 0, none⟩ (.int .i64 st)).setCell ⟨RB, 1, none⟩ (.slice va n vc)).setCell ⟨RB, 2, none⟩ (.slice ua m uc)) none := by
  have b1 := set_self (i := 0) (u := .int .i64 st) h
  have b2 := set_self (i := 1) (u := .slice va n vc) b1
  have b3 := set_self (i := 2) (u := .slice ua m uc) b2
  exact ⟨(trip_room2 (x := .int .i64 st) (y := .slice va n vc) (z := .slice ua m uc) b3).1, ((hR.setOther h txT5 txTR (Nat.zero_le _) _).setOther b1 txT5 txTR (Nat.zero_le _) _).setOther b2 txT5 txTR (Nat.zero_le _) _, ((hV.setOther h txT5 txTW (Nat.zero_le _) _).setOther b1 txT5 txTW (Nat.zero_le _) _).setOther b2 txT5 txTW (Nat.zero_le _) _, grown_setNew (grown_setNew (grown_setNew hg _ hw _ _) _ hw _ _) _ hw _ _⟩
/-- A list of writes stands while a list of reads grows. -/
theorem OwnV.keptR {rb rb' : Nat} {W w' : World} {v u : Value} {l : List Plc} {k : List Rd} (hV : OwnV rb 0 W v l) (hR : OwnR rb' 0 W u k) (hg : W.grownBy w' u.ownBlock) : OwnV rb 0 w' v l := by
  refine hV.kept hg ?_ ?_
  · rcases hV.row with h | ⟨g, cur, fz, e, _, h⟩
    · exact .inl h
    · refine .inr ?_
      rw [e]
      exact fun e2 => hR.ne h (fun e => rdTW e.symm) e2.symm
  · rcases hR.row with h | ⟨g, cur, fz, e, _, h⟩
    · exact .inl h
    · exact .inr ⟨g, cur, _, fz, e, Nat.zero_le _, h, rdT5⟩
theorem tx_of {w : World} {v1 v2 : Value} {st : Int} {R : List Rd} {V : List Plc} {rb : Nat} {t : Tx} (e : t = ⟨st, R, V⟩) (h1 : OwnR rb 0 w v1 R) (h2 : OwnV rb 0 w v2 V) : TxIs w (.agg #[.int .i64 st, v1, v2]) t := by
  subst e; exact ⟨_, _, rfl, h1.list, h2.list⟩
theorem ret_txE {v : Value} {a b : Int} (h : a = b) : Ending.returned (Value.tuple #[v, .int .i64 b]) = Ending.returned (Value.tuple #[v, .int .i64 a]) := by rw [h]
theorem putW_at : ∀ (l : List Plc) (w : Plc) (m : Nat), m < l.length → (l.take m).any (fun q => plSame q w) = false → plSame (l.getD m noPlc) w = true → putW l w = l.set m w
  | [], _, _, h, _, _ => by simp at h
  | a :: l, w, 0, _, _, h => by
    have h' : plSame a w = true := h
    rw [putW, if_pos h']; rfl
  | a :: l, w, m + 1, h0, h1, h2 => by
    rw [List.take_succ_cons, List.any_cons, Bool.or_eq_false_iff] at h1
    rw [putW, if_neg (by rw [h1.1]; decide), List.set_cons_succ, putW_at l w m (by simpa using h0) h1.2 (by simpa using h2)]
theorem putW_new : ∀ (l : List Plc) (w : Plc), l.any (fun q => plSame q w) = false → putW l w = l ++ [w]
  | [], _, _ => rfl
  | a :: l, w, h => by
    rw [List.any_cons, Bool.or_eq_false_iff] at h
    rw [putW, if_neg (by rw [h.1]; decide), putW_new l w h.2]; rfl
theorem OwnV.zero {rb : Nat} {w : World} {b o n cap : Nat} {l : List Plc} (h : OwnV rb 0 w (.slice (some ⟨b, o, none⟩) n cap) l) : o = 0 := by
  obtain ⟨us, hl, hr, h3⟩ := h
  rcases hr.2 with ⟨e, _⟩ | ⟨g', cap', cur, e, _⟩
  · cases e
  · simp only [Value.slice.injEq, Option.some.injEq, Addr.mk.injEq] at e
    exact e.1.2.1
theorem OwnV.frozenT {rb : Nat} {w : World} {g n cap : Nat} {l : List Plc} (h : OwnV rb 0 w (.slice (some ⟨g, 0, none⟩) n cap) l) (j : Nat) : w.frozen? ⟨g, j, none⟩ = false := by
  obtain ⟨us, hl, hr, h3⟩ := h
  rcases hr.2 with ⟨e, _⟩ | ⟨g', cap', cur, e, hb, hg, _⟩
  · cases e
  · simp only [Value.slice.injEq, Option.some.injEq, Addr.mk.injEq] at e
    obtain ⟨⟨rfl, _⟩, _⟩ := e
    simp [World.frozen?, hg]
theorem flatW_setT : ∀ (us : List WV) (i : Nat) (x : WV), flatW (us.set i x) = ((((flatW us).set (i * 4) x.2.1).set (i * 4 + 1) x.2.2.1).set (i * 4 + 2) (.bool x.1.gone)).set (i * 4 + 3) x.2.2.2
  | [], i, x => by simp [flatW]
  | y :: us, 0, x => by simp [flatW]
  | y :: us, i + 1, x => by
    have ih := flatW_setT us i x
    have e : ∀ us : List WV, flatW (y :: us) = y.2.1 :: y.2.2.1 :: .bool y.1.gone :: y.2.2.2 :: flatW us := fun us => by simp [flatW]
    rw [List.set_cons_succ, e, e, ih, show (i + 1) * 4 = i * 4 + 4 by omega]
    rfl
/-- out[k] = p. -/
theorem OwnV.setT {rb : Nat} {w : World} {g n cap : Nat} {l : List Plc} (h : OwnV rb 0 w (.slice (some ⟨g, 0, none⟩) n cap) l) (i : Nat) (vn vk vv : Value) (p : Plc) (h1 : PartIs 0 w vn p.name) (h2 : PartIs 0 w vk p.key) (h3 : PartIs 0 w vv p.value) :
    OwnV rb 0 ((((w.setCell ⟨g, i * 4, none⟩ vn).setCell ⟨g, i * 4 + 1, none⟩ vk).setCell ⟨g, i * 4 + 2, none⟩ (.bool p.gone)).setCell ⟨g, i * 4 + 3, none⟩ vv) (.slice (some ⟨g, 0, none⟩) n cap) (l.set i p) := by
  obtain ⟨us, hul, hr, hp⟩ := h
  have hgr : w.grownBy ((((w.setCell ⟨g, i * 4, none⟩ vn).setCell ⟨g, i * 4 + 1, none⟩ vk).setCell ⟨g, i * 4 + 2, none⟩ (.bool p.gone)).setCell ⟨g, i * 4 + 3, none⟩ vv) (some g) := grown_set (grown_set (grown_set (grown_set (grown_refl _ _) _ _) _ _) _ _) _ _
  rcases hr.2 with ⟨e, _⟩ | ⟨g', cap', cur, e, hb, hg, hn, hm, hs, ht⟩
  · cases e
  · simp only [Value.slice.injEq, Option.some.injEq, Addr.mk.injEq] at e
    obtain ⟨⟨rfl, _⟩, rfl, rfl⟩ := e
    have hrow : (some g : Option Nat) = none ∨ ∃ g' cur t fz, (some g : Option Nat) = some g' ∧ 0 ≤ g' ∧ w.heap[g']? = some (.cells cur t fz) ∧ t ≠ 5 := .inr ⟨g, cur, _, _, rfl, Nat.zero_le _, hg, wrT5⟩
    have hus : us.length = l.length := by rw [← hul]; simp
    refine ⟨us.set i (p, vn, vk, vv), by rw [List.map_set, hul], ⟨by rw [flatW_len, List.length_set, List.length_set, hus], .inr ⟨g, cap, _, by rw [List.length_set], hb, set_self (set_self (set_self (set_self hg))), by rw [List.length_set]; exact hn, hm, by simpa using hs, ?_⟩⟩, ?_⟩
    · rw [flatW_setT, List.length_set]
      simp only [Array.toList_setIfInBounds]
      rw [List.take_set, List.take_set, List.take_set, List.take_set, ht]
    · intro x hx
      rcases List.mem_or_eq_of_mem_set hx with hx | rfl
      · exact ⟨(hp x hx).1.keptT hgr hrow, (hp x hx).2.1.keptT hgr hrow, (hp x hx).2.2.keptT hgr hrow⟩
      · exact ⟨h1.keptT hgr hrow, h2.keptT hgr hrow, h3.keptT hgr hrow⟩
end Go.Proofs.Ytpmfbfflacbmjac

/-
  What a transaction looks up, scans and clashes with, with no program.
-/
namespace Go.Proofs.Ytpmfbfflacbmjac
open Go.RowKit
def inR (a b k : List UInt8) : Bool := !klt k a && !klt b k
theorem get_filt (f : List UInt8 → Bool) : ∀ (l : PL) (k : List UInt8), getF (l.filter fun q => f q.1) k = if f k = true then getF l k else none
  | [], k => by simp [getF]
  | q :: l, k => by
    have ih := get_filt f l k
    by_cases hq : f q.1 = true
    · rw [List.filter_cons_of_pos (p := fun q : Pr => f q.1) hq, get_cons, get_cons, ih]
      by_cases e : q.1 = k
      · subst e
        rw [if_pos rfl, if_pos hq, if_pos rfl]
      · rw [if_neg e, if_neg e]
    · rw [List.filter_cons_of_neg (p := fun q : Pr => f q.1) hq, ih, get_cons]
      by_cases e : q.1 = k
      · subst e
        rw [if_neg hq, if_neg hq]
      · rw [if_neg e]
theorem get_range (l : PL) (a b k : List UInt8) : getF (rangeL l a b) k = if inR a b k = true then getF l k else none := get_filt (inR a b) l k
theorem range_put (l : PL) (h : Rises l) (a b : List UInt8) (p : Pr) : rangeL (putL l p) a b = if inR a b p.1 = true then putL (rangeL l a b) p else rangeL l a b := by
  have hr := range_rises l a b h
  refine rises_ext _ _ (range_rises _ a b (put_rises l p h)) ?_ fun k => ?_
  · split
    · exact put_rises _ _ hr
    · exact hr
  · rw [get_range, get_put l p k h]
    by_cases hp : inR a b p.1 = true
    · rw [if_pos hp, get_put _ p k hr, get_range]
      by_cases e : p.1 = k
      · subst e; rw [if_pos hp, if_pos rfl, if_pos rfl]
      · rw [if_neg e, if_neg e]
    · rw [if_neg hp, get_range]
      by_cases e : p.1 = k
      · subst e; rw [if_neg hp, if_neg hp]
      · rw [if_neg e]
theorem range_del (l : PL) (h : Rises l) (a b k0 : List UInt8) : rangeL (delL l k0) a b = if inR a b k0 = true then delL (rangeL l a b) k0 else rangeL l a b := by
  have hr := range_rises l a b h
  refine rises_ext _ _ (range_rises _ a b (del_rises l k0 h)) ?_ fun k => ?_
  · split
    · exact del_rises _ _ hr
    · exact hr
  · rw [get_range, get_del]
    by_cases hp : inR a b k0 = true
    · rw [if_pos hp, get_del, get_range]
      by_cases e : k0 = k
      · subst e; rw [if_pos hp, if_pos rfl, if_pos rfl]
      · rw [if_neg e, if_neg e]
    · rw [if_neg hp, get_range]
      by_cases e : k0 = k
      · subst e; rw [if_neg hp, if_neg hp]
      · rw [if_neg e]
/-- What a write does to what was scanned. -/
def scanN (n a b : List UInt8) (l : PL) (w : Plc) : PL := if w.name = n ∧ inR a b w.key = true then (if w.gone = true then delL l w.key else putL l (w.key, w.value)) else l
def scanLs (n a b : List UInt8) : PL → List Plc → PL
  | l, [] => l
  | l, w :: ws => scanLs n a b (scanN n a b l w) ws
def scanEs (n a b : List UInt8) : PL → List Plc → Int
  | _, [] => 0
  | l, w :: ws => if 60 < (scanN n a b l w).length then 11 else scanEs n a b (scanN n a b l w) ws
theorem scan_written {f : FL} (h : Forest f) (w : Plc) (n a b : List UInt8) : scanN n a b (rangeL (ofF f n) a b) w = rangeL (ofF (writtenL f w) n) a b := by
  have hr := (of_tree h n).rises
  rw [written_of h.rises]
  unfold scanN
  by_cases hn : w.name = n
  · subst hn
    rw [if_pos rfl]
    unfold nextL
    by_cases hg : w.gone = true
    · simp only [if_pos hg]
      rw [range_del _ hr]
      by_cases hi : inR a b w.key = true
      · rw [if_pos ⟨by first | rfl | trivial, hi⟩, if_pos hi]
      · rw [if_neg (fun e => hi e.2), if_neg hi]
    · simp only [if_neg hg]
      rw [range_put _ hr]
      by_cases hi : inR a b w.key = true
      · rw [if_pos ⟨by first | rfl | trivial, hi⟩, if_pos hi]
      · rw [if_neg (fun e => hi e.2), if_neg hi]
  · rw [if_neg hn, if_neg (fun e => hn e.1)]
theorem apply_step {f : FL} {w : Plc} {ws : List Plc} (he : applyE f (w :: ws) = 0) : writeE w = 0 ∧ writtenE f w = 0 ∧ applyE (writtenL f w) ws = 0 := by
  rw [applyE] at he
  have hw : writeE w = 0 := by
    by_cases e : writeE w = 0
    · exact e
    · rw [if_neg e] at he; exact absurd he e
  rw [if_pos hw] at he
  have hn : writtenE f w = 0 := by
    by_cases e : writtenE f w = 0
    · exact e
    · rw [if_neg e] at he; exact absurd he e
  rw [if_pos hn] at he
  exact ⟨hw, hn, he⟩
/-- What is scanned over the writes is the range behind them; there is room. -/
theorem scan_apply : ∀ (ws : List Plc) (f : FL), Forest f → applyE f ws = 0 → ∀ n a b, scanLs n a b (rangeL (ofF f n) a b) ws = rangeL (ofF (applyL f ws) n) a b ∧ scanEs n a b (rangeL (ofF f n) a b) ws = 0
  | [], f, _, _, n, a, b => ⟨rfl, rfl⟩
  | w :: ws, f, h, he, n, a, b => by
    obtain ⟨hw, hn, he'⟩ := apply_step he
    have hf := written_forest h hw hn
    obtain ⟨h1, h2⟩ := scan_apply ws _ hf he' n a b
    have hl : ¬ 60 < (rangeL (ofF (writtenL f w) n) a b).length := by
      have := range_len (ofF (writtenL f w) n) a b
      have := (of_tree hf n).room
      omega
    rw [scanLs, scanEs, scan_written h, if_neg hl]
    exact ⟨h1, h2⟩
/-- Whether a write touches what was read. -/
def touch (r : Rd) (w : Plc) : Bool := decide (r.name = w.name) && (if r.wide = true then inR r.key r.last w.key else decide (r.key = w.key))
def hitsW (t : Tx) (ws : List Plc) : Bool := ws.any fun w => t.reads.any fun r => touch r w
def clashL (t : Tx) (l : List Cmt) : Bool := l.any fun c => decide (t.start < c.turn) && hitsW t c.writes
def clashE (t : Tx) : Int := txE t
def clashB (t : Tx) (l : List Cmt) : Bool := if txE t = 0 then clashL t l else false
theorem hits_none {t : Tx} {ws : List Plc} (h : hitsW t ws = false) {r : Rd} (hr : r ∈ t.reads) {w : Plc} (hw : w ∈ ws) : touch r w = false := by
  cases e : touch r w with
  | false => rfl
  | true =>
    have : hitsW t ws = true := List.any_eq_true.2 ⟨w, hw, List.any_eq_true.2 ⟨r, hr, e⟩⟩
    rw [this] at h; cases h
/-- Writes that do not touch what was read leave it as it was. -/
theorem untouched_get : ∀ (ws : List Plc) (f : FL), Forest f → applyE f ws = 0 → ∀ (r : Rd), r.wide = false → (∀ w ∈ ws, touch r w = false) → getF (ofF (applyL f ws) r.name) r.key = getF (ofF f r.name) r.key
  | [], _, _, _, _, _, _ => rfl
  | w :: ws, f, h, he, r, hw0, ht => by
    obtain ⟨hw, hn, he'⟩ := apply_step he
    rw [applyL, untouched_get ws _ (written_forest h hw hn) he' r hw0 (fun x hx => ht x (List.mem_cons_of_mem _ hx)), get_written h]
    have h1 := ht w (List.mem_cons_self ..)
    unfold touch at h1
    rw [hw0, if_neg (by decide)] at h1
    rw [if_neg (fun e => by rw [e.1, e.2] at h1; simp at h1)]
theorem untouched_range : ∀ (ws : List Plc) (f : FL), Forest f → applyE f ws = 0 → ∀ (r : Rd), r.wide = true → (∀ w ∈ ws, touch r w = false) → rangeL (ofF (applyL f ws) r.name) r.key r.last = rangeL (ofF f r.name) r.key r.last
  | [], _, _, _, _, _, _ => rfl
  | w :: ws, f, h, he, r, hw0, ht => by
    obtain ⟨hw, hn, he'⟩ := apply_step he
    rw [applyL, untouched_range ws _ (written_forest h hw hn) he' r hw0 (fun x hx => ht x (List.mem_cons_of_mem _ hx)), ← scan_written h]
    have h1 := ht w (List.mem_cons_self ..)
    unfold touch at h1
    rw [hw0, if_pos rfl] at h1
    unfold scanN
    rw [if_neg (fun e => by rw [← e.1, e.2] at h1; simp at h1)]
/-- A history that clashes with nothing that was read has it as it was. -/
theorem goes_apply {f : FL} (h : Forest f) {ws : List Plc} (he : appliedE f ws = 0) : applyE f ws = 0 ∧ appliedF f ws = applyL f ws := by
  unfold appliedE at he
  rw [if_pos ((forest_iff f).2 h)] at he
  by_cases h10 : 10 < ws.length
  · rw [if_pos h10] at he; omega
  · rw [if_neg h10] at he
    exact ⟨he, by rw [appliedF, appliedE, if_pos ((forest_iff f).2 h), if_neg h10, if_pos he]⟩
theorem goes_get : ∀ (cs : List Cmt) (f : FL) (i : Nat), Forest f → Goes f i cs → ∀ (r : Rd), r.wide = false → (∀ c ∈ cs, ∀ w ∈ c.writes, touch r w = false) → getF (ofF (foldH f cs) r.name) r.key = getF (ofF f r.name) r.key
  | [], _, _, _, _, _, _, _ => rfl
  | c :: cs, f, i, h, hg, r, hw0, ht => by
    obtain ⟨e1, e2⟩ := goes_apply h hg.2.2.1
    rw [foldH, goes_get cs _ (i + 1) (appliedF_forest h c.writes) hg.2.2.2 r hw0 (fun x hx => ht x (List.mem_cons_of_mem _ hx)), e2]
    exact untouched_get _ _ h e1 r hw0 (ht c (List.mem_cons_self ..))
theorem goes_range : ∀ (cs : List Cmt) (f : FL) (i : Nat), Forest f → Goes f i cs → ∀ (r : Rd), r.wide = true → (∀ c ∈ cs, ∀ w ∈ c.writes, touch r w = false) → rangeL (ofF (foldH f cs) r.name) r.key r.last = rangeL (ofF f r.name) r.key r.last
  | [], _, _, _, _, _, _, _ => rfl
  | c :: cs, f, i, h, hg, r, hw0, ht => by
    obtain ⟨e1, e2⟩ := goes_apply h hg.2.2.1
    rw [foldH, goes_range cs _ (i + 1) (appliedF_forest h c.writes) hg.2.2.2 r hw0 (fun x hx => ht x (List.mem_cons_of_mem _ hx)), e2]
    exact untouched_range _ _ h e1 r hw0 (ht c (List.mem_cons_self ..))
theorem Goes.drop : ∀ {cs : List Cmt} {f : FL} {i : Nat} (_ : Goes f i cs) (j : Nat), Goes (foldH f (cs.take j)) (i + j) (cs.drop j)
  | _, _, _, h, 0 => h
  | [], _, _, _, j + 1 => by simp [Goes]
  | c :: cs, f, i, h, j + 1 => by
    have := Goes.drop h.2.2.2 j
    rw [show i + (j + 1) = i + 1 + j by omega]
    exact this
/-- Behind the start, where nothing clashes, nothing that was read is touched. -/
theorem no_clash {t : Tx} {cs : List Cmt} (hg : Goes [] 0 cs) {k : Nat} (hk : t.start = (k : Int)) (h : clashL t cs = false) {r : Rd} (hr : r ∈ t.reads) : ∀ c ∈ cs.drop k, ∀ w ∈ c.writes, touch r w = false := by
  intro c hc w hw
  obtain ⟨j, hj, rfl⟩ := List.getElem_of_mem hc
  rw [List.length_drop] at hj
  rw [List.getElem_drop] at hw
  have hcm : cs[k + j] ∈ cs := List.getElem_mem _
  have ht := (hg.at (k + j) (by omega)).2.1
  rw [show cs.getD (k + j) noCmt = cs[k + j] by simp [show k + j < cs.length by omega]] at ht
  have hh : hitsW t (cs[k + j]).writes = false := by
    cases e : hitsW t (cs[k + j]).writes with
    | false => rfl
    | true =>
      have : clashL t cs = true := List.any_eq_true.2 ⟨_, hcm, by rw [Bool.and_eq_true]; exact ⟨decide_eq_true (by rw [hk, ht]; omega), e⟩⟩
      rw [this] at h; cases h
  exact hits_none hh hr hw
theorem clash_get {t : Tx} {cs : List Cmt} (hg : Goes [] 0 cs) {k : Nat} (hk : t.start = (k : Int)) (h : clashL t cs = false) {r : Rd} (hr : r ∈ t.reads) (hw : r.wide = false) : getF (ofF (foldH [] cs) r.name) r.key = getF (ofF (foldH [] (cs.take k)) r.name) r.key := by
  have hd := hg.drop k
  have := goes_get _ _ _ (foldH_forest (cs.take k) [] forest_nil) hd r hw (no_clash hg hk h hr)
  rw [← foldH_append, List.take_append_drop] at this
  exact this
theorem clash_range {t : Tx} {cs : List Cmt} (hg : Goes [] 0 cs) {k : Nat} (hk : t.start = (k : Int)) (h : clashL t cs = false) {r : Rd} (hr : r ∈ t.reads) (hw : r.wide = true) : rangeL (ofF (foldH [] cs) r.name) r.key r.last = rangeL (ofF (foldH [] (cs.take k)) r.name) r.key r.last := by
  have hd := hg.drop k
  have := goes_range _ _ _ (foldH_forest (cs.take k) [] forest_nil) hd r hw (no_clash hg hk h hr)
  rw [← foldH_append, List.take_append_drop] at this
  exact this
/-- Who has read more clashes no less; who began later clashes no more. -/
theorem hits_more {t u : Tx} (h : ∀ r ∈ t.reads, r ∈ u.reads) {ws : List Plc} (hh : hitsW t ws = true) : hitsW u ws = true := by
  obtain ⟨w, hw, e⟩ := List.any_eq_true.1 hh
  obtain ⟨r, hr, e⟩ := List.any_eq_true.1 e
  exact List.any_eq_true.2 ⟨w, hw, List.any_eq_true.2 ⟨r, h r hr, e⟩⟩
theorem clash_more {t u : Tx} (h : ∀ r ∈ t.reads, r ∈ u.reads) (hs : u.start ≤ t.start) {l : List Cmt} (hc : clashL t l = true) : clashL u l = true := by
  obtain ⟨c, hm, e⟩ := List.any_eq_true.1 hc
  rw [Bool.and_eq_true, decide_eq_true_iff] at e
  exact List.any_eq_true.2 ⟨c, hm, by rw [Bool.and_eq_true, decide_eq_true_iff]; exact ⟨by omega, hits_more h e.2⟩⟩
/-- What P8.5 answers. -/
def ftE (l : FL) (t : Tx) : Int := if forestE l = 0 then txE t else forestE l
def lookE (l : FL) (t : Tx) (n k : List UInt8) : Int := if ftE l t = 0 then (if nameFaultF n.length = 0 then keyFaultF k.length else nameFaultF n.length) else ftE l t
def lookO (l : FL) (t : Tx) (n k : List UInt8) : Bool := if lookE l t n k = 0 then (atW t.writes n k).isSome else false
def lookB (l : FL) (t : Tx) (n k : List UInt8) : Bool := if lookE l t n k = 0 then (match atW t.writes n k with | some w => !w.gone | none => fgetB l n k) else false
def lookV (l : FL) (t : Tx) (n k : List UInt8) : List UInt8 := if lookE l t n k = 0 then (match atW t.writes n k with | some w => w.value | none => fgetV l n k) else []
theorem look_ok {l : FL} {t : Tx} (hl : Forest l) (ht : TxOK t) {n k : List UInt8} (hn : 1 ≤ n.length ∧ n.length ≤ 8) (hk : 1 ≤ k.length ∧ k.length ≤ 16) : lookE l t n k = 0 := by
  rw [lookE, ftE, if_pos ((forest_iff l).2 hl), if_pos ((tx_iff t).2 ht), if_pos ((nameFault_iff _).2 hn), (keyFault_iff _).2 hk]
/-- What P8.6 answers. -/
def scanE (l : FL) (t : Tx) (n a b : List UInt8) : Int := if ftE l t = 0 then (if nameFaultF n.length = 0 then (if keyFaultF a.length = 0 then (if keyFaultF b.length = 0 then scanEs n a b (rangeL (ofF l n) a b) t.writes else keyFaultF b.length) else keyFaultF a.length) else nameFaultF n.length) else ftE l t
def scanF (l : FL) (t : Tx) (n a b : List UInt8) : PL := if scanE l t n a b = 0 then scanLs n a b (rangeL (ofF l n) a b) t.writes else []
/-- What is seen is what the forest has behind the writes. -/
theorem look_applied {l : FL} {t : Tx} (hl : Forest l) (ht : TxOK t) (he : applyE l t.writes = 0) {n k : List UInt8} (hn : 1 ≤ n.length ∧ n.length ≤ 8) (hk : 1 ≤ k.length ∧ k.length ≤ 16) : lookB l t n k = fgetB (applyL l t.writes) n k ∧ lookV l t n k = fgetV (applyL l t.writes) n k := by
  have h0 := look_ok hl ht hn hk
  have hf := apply_forest t.writes l hl he
  obtain ⟨_, g2, g3⟩ := fget_ok hf n k hn hk
  obtain ⟨_, f2, f3⟩ := fget_ok hl n k hn hk
  have ha := apply_at t.writes l hl he ht.apart n k
  rw [lookB, lookV, if_pos h0, if_pos h0, g2, g3, ha, f2, f3]
  cases hat : atW t.writes n k with
  | none => exact ⟨rfl, rfl⟩
  | some w =>
    have hm := atW_some hat
    have hv := ((writeE_iff w).1 (ht.wrs w hm.1)).2.2
    cases hg : w.gone with
    | true =>
      rw [hg, if_pos rfl] at hv
      exact ⟨by simp [hg], by simp [hg, hv]⟩
    | false => exact ⟨by simp [hg], by simp [hg]⟩
theorem scan_applied {l : FL} {t : Tx} (hl : Forest l) (ht : TxOK t) (he : applyE l t.writes = 0) {n a b : List UInt8} (hn : 1 ≤ n.length ∧ n.length ≤ 8) (ha : 1 ≤ a.length ∧ a.length ≤ 16) (hb : 1 ≤ b.length ∧ b.length ≤ 16) : scanE l t n a b = 0 ∧ scanF l t n a b = rangeL (ofF (applyL l t.writes) n) a b := by
  obtain ⟨h1, h2⟩ := scan_apply t.writes l hl he n a b
  have h0 : scanE l t n a b = 0 := by
    rw [scanE, ftE, if_pos ((forest_iff l).2 hl), if_pos ((tx_iff t).2 ht), if_pos ((nameFault_iff _).2 hn), if_pos ((keyFault_iff _).2 ha), if_pos ((keyFault_iff _).2 hb), h2]
  exact ⟨h0, by rw [scanF, if_pos h0, h1]⟩
end Go.Proofs.Ytpmfbfflacbmjac

/-
  Looks and scans step by step, with no program: what the walks of P8.5 and P8.6 rest on.
-/
namespace Go.Proofs.Ytpmfbfflacbmjac
open Go.RowKit
/-- Is a write at a place? -/
def atPl (n k : List UInt8) (q : Plc) : Bool := decide (q.name = n) && decide (q.key = k)
theorem find_hit {α : Type} (p : α → Bool) (d : α) : ∀ (l : List α) (m : Nat), m < l.length → (l.take m).any p = false → p (l.getD m d) = true → l.find? p = some (l.getD m d)
  | [], _, h, _, _ => by simp at h
  | a :: l, 0, _, _, h => by
    have h' : p a = true := h
    rw [List.find?_cons_of_pos h']; rfl
  | a :: l, m + 1, h0, h1, h2 => by
    rw [List.take_succ_cons, List.any_cons, Bool.or_eq_false_iff] at h1
    rw [List.find?_cons_of_neg (by rw [h1.1]; decide), find_hit p d l m (by simpa using h0) h1.2 (by simpa using h2)]
    simp
theorem find_miss {α : Type} (p : α → Bool) (l : List α) (h : l.any p = false) : l.find? p = none := by
  rw [List.find?_eq_none]
  intro x hx hp
  rw [List.any_eq_false] at h
  exact h x hx hp
theorem at_hit {l : List Plc} {n k : List UInt8} {m : Nat} (h : m < l.length) (h1 : (l.take m).any (atPl n k) = false) (h2 : atPl n k (l.getD m noPlc) = true) : atW l n k = some (l.getD m noPlc) := find_hit (atPl n k) noPlc l m h h1 h2
theorem at_miss {l : List Plc} {n k : List UInt8} (h : l.any (atPl n k) = false) : atW l n k = none := find_miss (atPl n k) l h
/-- Where the forest or the transaction may not be. -/
theorem look_bad {l : FL} {t : Tx} {n k : List UInt8} (h : lookE l t n k ≠ 0) : lookO l t n k = false ∧ lookB l t n k = false ∧ lookV l t n k = [] := by
  rw [lookO, lookB, lookV, if_neg h, if_neg h, if_neg h]; exact ⟨rfl, rfl, rfl⟩
theorem look_ft {l : FL} {t : Tx} {n k : List UInt8} (h : ftE l t ≠ 0) : lookE l t n k = ftE l t := by rw [lookE, if_neg h]
theorem ft_ok {l : FL} {t : Tx} (h : ftE l t = 0) : Forest l ∧ TxOK t := by
  unfold ftE at h
  by_cases hf : forestE l = 0
  · rw [if_pos hf] at h; exact ⟨(forest_iff l).1 hf, (tx_iff t).1 h⟩
  · rw [if_neg hf] at h; exact absurd h hf
theorem look_hit {l : FL} {t : Tx} {n k : List UInt8} (h : ftE l t = 0) {m : Nat} (hm : m < t.writes.length) (h1 : (t.writes.take m).any (atPl n k) = false) (h2 : atPl n k (t.writes.getD m noPlc) = true) : lookE l t n k = 0 ∧ lookO l t n k = true ∧ lookB l t n k = !(t.writes.getD m noPlc).gone ∧ lookV l t n k = (t.writes.getD m noPlc).value := by
  obtain ⟨hf, ht⟩ := ft_ok h
  have ha := at_hit hm h1 h2
  have hs := atW_some ha
  have hw := (writeE_iff _).1 (ht.wrs _ hs.1)
  rw [hs.2.1, hs.2.2] at hw
  have h0 := look_ok hf ht hw.1 hw.2.1
  refine ⟨h0, ?_, ?_, ?_⟩
  · rw [lookO, if_pos h0, ha]; rfl
  · rw [lookB, if_pos h0, ha]
  · rw [lookV, if_pos h0, ha]
/-- Where the transaction has no write there: as the forest's Get. -/
theorem look_get {l : FL} {t : Tx} {n k : List UInt8} (h : ftE l t = 0) (h1 : t.writes.any (atPl n k) = false) : lookE l t n k = fgetE l n k ∧ lookO l t n k = false ∧ lookB l t n k = fgetB l n k ∧ lookV l t n k = fgetV l n k := by
  obtain ⟨hf, ht⟩ := ft_ok h
  have ha := at_miss h1
  have hfo := (forest_iff l).2 hf
  have hE : lookE l t n k = fgetE l n k := by
    rw [lookE, if_pos h, fgetE, fnE, if_pos hfo]
    by_cases hn : nameFaultF n.length = 0
    · rw [if_pos hn, if_pos hn, getE, if_pos ((tree_iff _).2 (of_tree hf n))]
    · rw [if_neg hn, if_neg hn]
  refine ⟨hE, ?_, ?_, ?_⟩
  · rw [lookO, ha]; by_cases h0 : lookE l t n k = 0
    · rw [if_pos h0]; rfl
    · rw [if_neg h0]
  · rw [lookB, ha]
    by_cases h0 : lookE l t n k = 0
    · rw [if_pos h0]
    · rw [if_neg h0]
      rw [hE] at h0
      rw [fgetB]
      by_cases hn : fnE l n = 0
      · rw [fgetE, if_pos hn] at h0
        rw [if_pos hn, getB]; simp [h0]
      · rw [if_neg hn]
  · rw [lookV, ha]
    by_cases h0 : lookE l t n k = 0
    · rw [if_pos h0]
    · rw [if_neg h0]
      rw [hE] at h0
      rw [fgetV]
      by_cases hn : fnE l n = 0
      · rw [fgetE, if_pos hn] at h0
        rw [if_pos hn, getV, if_neg h0]
      · rw [if_neg hn]
/-- Scans. -/
theorem del_treeX {X : PL} (h : Tree X) (k : List UInt8) : Tree (delL X k) := ⟨Nat.le_trans (del_len X k) h.room, fun p hp => h.pairs p (List.mem_filter.1 hp).1, del_rises X k h.rises⟩
theorem range_treeX {X : PL} (h : Tree X) (f u : List UInt8) : Tree (rangeL X f u) := ⟨Nat.le_trans (range_len X f u) h.room, fun p hp => h.pairs p (List.mem_filter.1 hp).1, range_rises X f u h.rises⟩
theorem put_treeX {X : PL} (h : Tree X) {p : Pr} (hp : (1 ≤ p.1.length ∧ p.1.length ≤ 16) ∧ p.2.length ≤ 32) (hl : (putL X p).length ≤ 60) : Tree (putL X p) := ⟨hl, put_pairs X p h.pairs hp, put_rises X p h.rises⟩
theorem scan_touch (n a b : List UInt8) (w : Plc) : touch ⟨n, a, true, b⟩ w = true ↔ w.name = n ∧ inR a b w.key = true := by
  show (decide (n = w.name) && inR a b w.key) = true ↔ _
  rw [Bool.and_eq_true, decide_eq_true_iff]
  exact ⟨fun h => ⟨h.1.symm, h.2⟩, fun h => ⟨h.1.symm, h.2⟩⟩
theorem scan_off {n a b : List UInt8} {w : Plc} (h : touch ⟨n, a, true, b⟩ w = false) (X : PL) : scanN n a b X w = X := by
  rw [scanN, if_neg]
  intro e
  rw [(scan_touch n a b w).2 e] at h
  cases h
theorem scan_del {n a b : List UInt8} {w : Plc} (h : touch ⟨n, a, true, b⟩ w = true) (hg : w.gone = true) {X : PL} (hX : Tree X) (hw : writeE w = 0) : getE X w.key = 0 ∧ delF X w.key = scanN n a b X w ∧ Tree (scanN n a b X w) := by
  have hk := ((writeE_iff w).1 hw).2.1
  have h0 := getE_ok hX hk
  have e : scanN n a b X w = delL X w.key := by rw [scanN, if_pos ((scan_touch n a b w).1 h), if_pos hg]
  refine ⟨h0, by rw [e, delF, if_pos h0], by rw [e]; exact del_treeX hX _⟩
theorem scan_put {n a b : List UInt8} {w : Plc} (h : touch ⟨n, a, true, b⟩ w = true) (hg : w.gone = false) {X : PL} (hX : Tree X) (hw : writeE w = 0) : scanN n a b X w = putL X (w.key, w.value) ∧ (60 < (scanN n a b X w).length → putE X (w.key, w.value) = 11) ∧ (¬ 60 < (scanN n a b X w).length → putE X (w.key, w.value) = 0 ∧ putF X (w.key, w.value) = scanN n a b X w ∧ Tree (scanN n a b X w)) := by
  have hk := (writeE_iff w).1 hw
  have hv : w.value.length ≤ 32 := by have := hk.2.2; rw [hg, if_neg (by decide)] at this; exact this
  have e : scanN n a b X w = putL X (w.key, w.value) := by rw [scanN, if_pos ((scan_touch n a b w).1 h), hg, if_neg (by decide)]
  have h0 : putE0 X (w.key, w.value) = 0 := by rw [putE0, if_pos ((tree_iff X).2 hX)]; exact (pairFault_iff _).2 ⟨hk.2.1, hv⟩
  refine ⟨e, fun hl => ?_, fun hl => ?_⟩
  · rw [e] at hl; rw [putE, if_pos h0, if_pos hl]
  · rw [e] at hl
    have h1 : putE X (w.key, w.value) = 0 := by rw [putE, if_pos h0, if_neg hl]
    refine ⟨h1, by rw [e, putF, if_pos h1], ?_⟩
    rw [e]
    exact put_treeX hX ⟨hk.2.1, hv⟩ (by omega)
/-- The scan behind m writes. -/
def scanAt (n a b : List UInt8) (X : PL) (ws : List Plc) : Int × PL := (scanEs n a b X ws, if scanEs n a b X ws = 0 then scanLs n a b X ws else [])
theorem scanAt_nil (n a b : List UInt8) (X : PL) : scanAt n a b X [] = (0, X) := rfl
theorem scanAt_go {n a b : List UInt8} {X : PL} {ws : List Plc} {m : Nat} (hm : m < ws.length) (h : ¬ 60 < (scanN n a b X (ws.getD m noPlc)).length) : scanAt n a b X (ws.drop m) = scanAt n a b (scanN n a b X (ws.getD m noPlc)) (ws.drop (m + 1)) := by
  rw [List.drop_eq_getElem_cons hm, show ws[m] = ws.getD m noPlc by simp [hm]]
  rw [scanAt, scanAt, scanEs, if_neg h]; rfl
theorem scanAt_full {n a b : List UInt8} {X : PL} {ws : List Plc} {m : Nat} (hm : m < ws.length) (h : 60 < (scanN n a b X (ws.getD m noPlc)).length) : scanAt n a b X (ws.drop m) = (11, []) := by
  rw [List.drop_eq_getElem_cons hm, show ws[m] = ws.getD m noPlc by simp [hm]]
  rw [scanAt, scanEs, if_pos h, if_neg (by decide)]
theorem scan_ft {l : FL} {t : Tx} {n a b : List UInt8} (h : ftE l t ≠ 0) : scanE l t n a b = ftE l t ∧ scanF l t n a b = [] := by
  have e : scanE l t n a b = ftE l t := by rw [scanE, if_neg h]
  exact ⟨e, by rw [scanF, e, if_neg h]⟩
/-- The forest's Range ahead of the writes. -/
theorem scan_range {l : FL} {t : Tx} {n a b : List UInt8} (h : ftE l t = 0) (h1 : frangeE l n a b ≠ 0) : scanE l t n a b = frangeE l n a b ∧ scanF l t n a b = [] := by
  obtain ⟨hf, ht⟩ := ft_ok h
  have hfo := (forest_iff l).2 hf
  have e : scanE l t n a b = frangeE l n a b := by
    have hE : frangeE l n a b = if nameFaultF n.length = 0 then (if keyFaultF a.length = 0 then keyFaultF b.length else keyFaultF a.length) else nameFaultF n.length := by
      rw [frangeE, fnE, if_pos hfo]
      by_cases hn : nameFaultF n.length = 0
      · rw [if_pos hn, if_pos hn, rangeE, getE, if_pos ((tree_iff _).2 (of_tree hf n))]
      · rw [if_neg hn, if_neg hn]
    rw [scanE, if_pos h, hE]
    by_cases hn : nameFaultF n.length = 0
    · rw [if_pos hn, if_pos hn]
      by_cases ha : keyFaultF a.length = 0
      · rw [if_pos ha, if_pos ha]
        by_cases hb : keyFaultF b.length = 0
        · rw [hE, if_pos hn, if_pos ha] at h1; exact absurd hb h1
        · rw [if_neg hb]
      · rw [if_neg ha, if_neg ha]
    · rw [if_neg hn, if_neg hn]
  exact ⟨e, by rw [scanF, e, if_neg h1]⟩
theorem scan_start {l : FL} {t : Tx} {n a b : List UInt8} (h : ftE l t = 0) (h1 : frangeE l n a b = 0) : scanAt n a b (frangeF l n a b) t.writes = (scanE l t n a b, scanF l t n a b) ∧ Tree (frangeF l n a b) := by
  obtain ⟨hf, ht⟩ := ft_ok h
  have hfo := (forest_iff l).2 hf
  have hn : fnE l n = 0 := by
    by_cases hn : fnE l n = 0
    · exact hn
    · rw [frangeE, if_neg hn] at h1; exact absurd h1 hn
  have hr : rangeE (ofF l n) a b = 0 := by rw [frangeE, if_pos hn] at h1; exact h1
  have hg := rangeE_get hr
  have hb : keyFaultF b.length = 0 := by rw [rangeE, if_pos hg] at hr; exact hr
  have ha : keyFaultF a.length = 0 := (keyFault_iff _).2 (getE_key hg)
  have hnn : nameFaultF n.length = 0 := (nameFault_iff _).2 (fnE_forest hn).2
  have e : frangeF l n a b = rangeL (ofF l n) a b := by rw [frangeF, if_pos hn, rangeF, if_pos hr]
  have eE : scanE l t n a b = scanEs n a b (rangeL (ofF l n) a b) t.writes := by rw [scanE, if_pos h, if_pos hnn, if_pos ha, if_pos hb]
  refine ⟨?_, by rw [e]; exact range_treeX (of_tree hf n) a b⟩
  rw [e, scanAt, scanF, eE]
end Go.Proofs.Ytpmfbfflacbmjac

/-
  What txn.Check must keep.
-/
namespace Go.Proofs.Ytpmfbfflacbmjac
open Go.RowKit
def TxCheckOK : Prop := ∀ (w : World) (v : Value) (t : Tx), TxIs w v t → FitsX t → Calls Try.prog 18 #[v] w fun e w' => e = .returned (.int .i64 (txE t)) ∧ w.grownBy w' none
end Go.Proofs.Ytpmfbfflacbmjac

/-
  append of one read, of one write, at a step of a region that draws its order.
-/
namespace Go.Proofs.Ytpmfbfflacbmjac
open Go.RowKit
theorem set_namedX (w : World) (b i : Nat) (u : Value) : ∃ W : World, Hid (W = w.setCell ⟨b, i, none⟩ u) ∧ w.grownBy W (some b) := ⟨_, rfl, set_grown w b i u⟩
/-- append(v, x) of one write, at a step of a region that draws its order. -/
theorem step_append_wrX {w : World} {ops : Array Oper} {o : Oper} {a : Act} {K : Act → World → Prop} {Q : Exit → Act → World → Prop} {E : Prop} (hgd : o.guard = none) (s x : Operand)
    (ho : o.op = .call { callee := .builtin .append, args := #[s, x], argTypes := #[26, 26] }) (rb : Nat) (v : Value) (l : List Plc) (hs : a.eval s = v) (hown : OwnV rb 0 w v l)
    (vn vk vv : Value) (p : Plc) (h1 : PartIs 0 w vn p.name) (h2 : PartIs 0 w vk p.key) (h3 : PartIs 0 w vv p.value) (nb : Nat) (hb : w.heap[nb]? = some (.cells #[vn, vk, .bool p.gone, vv] 53))
    (hx : a.eval x = .slice (some ⟨nb, 0, none⟩) 1 1) (hl : (l.length + 1) * 80 ≤ 140737488355328) (hbase : rb ≤ w.heap.size)
    (h : ∀ v' w', OwnV rb 0 w' v' (l ++ [p]) → w.grownBy w' v.ownBlock → K (a.put o.dst v') w') : if Region.wanted o (yielded ops a.tmps) = true then Oper.wp Try.prog o a w K Q else E := by
  have hw : Region.wanted o (yielded ops a.tmps) = true := by simp [Region.wanted, hgd]
  rw [if_pos hw]
  obtain ⟨i0, hi, hz0, hz1, hz2⟩ := info_parts infoWr
  have hrow : v.ownBlock = none ∨ ∃ g cur t fz, v.ownBlock = some g ∧ 0 ≤ g ∧ w.heap[g]? = some (.cells cur t fz) ∧ t ≠ 5 := by
    rcases hown.row with h | ⟨g, cur, fz, e, _, h⟩
    · exact .inl h
    · exact .inr ⟨g, cur, _, fz, e, Nat.zero_le _, h, wrT5⟩
  obtain ⟨us, hul, hr, hp⟩ := hown
  refine wp_append_lies w s x 26 ho rb 53 i0 (.agg #[.slice none 0 0, .slice none 0 0, .bool false, .slice none 0 0]) 4 80 Try.underlying26 hi hz0 hz1 hz2 rfl (by decide) v l.length (flatW us) hs hr ⟨nb, 0, none⟩ 1 1 (flatW [(p, vn, vk, vv)]) hx rfl (World.news_of_block (cs := #[vn, vk, .bool p.gone, vv]) hb) ?_ (by omega) (by unfold maxLen; omega) hl hbase _ rfl ?_
  · intro u hu
    simp only [flatW, List.flatMap_cons, List.flatMap_nil, List.append_nil, List.mem_cons, List.not_mem_nil, or_false] at hu
    rcases hu with rfl | rfl | rfl | rfl
    · exact part_oneCell h1
    · exact part_oneCell h2
    · rfl
    · exact part_oneCell h3
  · intro g cap w' q1 q2 _ _
    refine h _ w' ⟨us ++ [(p, vn, vk, vv)], by simp [hul], ?_, ?_⟩ q2
    · rw [flatW_append, List.length_append]; exact q1
    · intro y hy
      rcases List.mem_append.1 hy with hy | hy
      · exact ⟨(hp y hy).1.keptT q2 hrow, (hp y hy).2.1.keptT q2 hrow, (hp y hy).2.2.keptT q2 hrow⟩
      · simp only [List.mem_cons, List.not_mem_nil, or_false] at hy
        subst hy
        exact ⟨h1.keptT q2 hrow, h2.keptT q2 hrow, h3.keptT q2 hrow⟩
/-- append(v, x) of one read, at a step of a region that draws its order. -/
theorem step_append_rd {w : World} {ops : Array Oper} {o : Oper} {a : Act} {K : Act → World → Prop} {Q : Exit → Act → World → Prop} {E : Prop} (hgd : o.guard = none) (s x : Operand)
    (ho : o.op = .call { callee := .builtin .append, args := #[s, x], argTypes := #[25, 25] }) (rb : Nat) (v : Value) (l : List Rd) (hs : a.eval s = v) (hown : OwnR rb 0 w v l)
    (vn vk vv : Value) (p : Rd) (h1 : PartIs 0 w vn p.name) (h2 : PartIs 0 w vk p.key) (h3 : PartIs 0 w vv p.last) (nb : Nat) (hb : w.heap[nb]? = some (.cells #[vn, vk, .bool p.wide, vv] 40))
    (hx : a.eval x = .slice (some ⟨nb, 0, none⟩) 1 1) (hl : (l.length + 1) * 80 ≤ 140737488355328) (hbase : rb ≤ w.heap.size)
    (h : ∀ v' w', OwnR rb 0 w' v' (l ++ [p]) → w.grownBy w' v.ownBlock → K (a.put o.dst v') w') : if Region.wanted o (yielded ops a.tmps) = true then Oper.wp Try.prog o a w K Q else E := by
  have hw : Region.wanted o (yielded ops a.tmps) = true := by simp [Region.wanted, hgd]
  rw [if_pos hw]
  obtain ⟨i0, hi, hz0, hz1, hz2⟩ := info_parts infoRd
  have hrow : v.ownBlock = none ∨ ∃ g cur t fz, v.ownBlock = some g ∧ 0 ≤ g ∧ w.heap[g]? = some (.cells cur t fz) ∧ t ≠ 5 := by
    rcases hown.row with h | ⟨g, cur, fz, e, _, h⟩
    · exact .inl h
    · exact .inr ⟨g, cur, _, fz, e, Nat.zero_le _, h, rdT5⟩
  obtain ⟨us, hul, hr, hp⟩ := hown
  refine wp_append_lies w s x 25 ho rb 40 i0 (.agg #[.slice none 0 0, .slice none 0 0, .bool false, .slice none 0 0]) 4 80 Try.underlying25 hi hz0 hz1 hz2 rfl (by decide) v l.length (flatR us) hs hr ⟨nb, 0, none⟩ 1 1 (flatR [(p, vn, vk, vv)]) hx rfl (World.news_of_block (cs := #[vn, vk, .bool p.wide, vv]) hb) ?_ (by omega) (by unfold maxLen; omega) hl hbase _ rfl ?_
  · intro u hu
    simp only [flatR, List.flatMap_cons, List.flatMap_nil, List.append_nil, List.mem_cons, List.not_mem_nil, or_false] at hu
    rcases hu with rfl | rfl | rfl | rfl
    · exact part_oneCell h1
    · exact part_oneCell h2
    · rfl
    · exact part_oneCell h3
  · intro g cap w' q1 q2 _ _
    refine h _ w' ⟨us ++ [(p, vn, vk, vv)], by simp [hul], ?_, ?_⟩ q2
    · rw [flatR_append, List.length_append]; exact q1
    · intro y hy
      rcases List.mem_append.1 hy with hy | hy
      · exact ⟨(hp y hy).1.keptT q2 hrow, (hp y hy).2.1.keptT q2 hrow, (hp y hy).2.2.keptT q2 hrow⟩
      · simp only [List.mem_cons, List.not_mem_nil, or_false] at hy
        subst hy
        exact ⟨h1.keptT q2 hrow, h2.keptT q2 hrow, h3.keptT q2 hrow⟩
end Go.Proofs.Ytpmfbfflacbmjac

/-
  What txn.Note must keep.
-/
namespace Go.Proofs.Ytpmfbfflacbmjac
open Go.RowKit
def TxNoteOK : Prop := ∀ (w : World) (v u : Value) (t : Tx) (r : Rd), TxIs w v t → FitsX t → ReadIs w u r → RdFits r → Calls Try.prog 15 #[v, u] w fun e w' => ∃ x, e = .returned (.tuple #[x, .int .i64 (noteE t r)]) ∧ TxIs w' x (noteT t r) ∧ w.grownBy w' none
theorem fitsX_no : FitsX noTx := ⟨by decide, ⟨by decide, fun i hi => absurd hi (by simp [noTx])⟩, ⟨by decide, fun i hi => absurd hi (by simp [noTx])⟩⟩
theorem fitsR_add {l : List Rd} {r : Rd} (h : FitsR l) (hr : RdFits r) (hl : l.length ≤ 20) : FitsR (l ++ [r]) := by
  refine ⟨by simp; omega, fun i hi => ?_⟩
  by_cases hlt : i < l.length
  · have : (l ++ [r]).getD i noRd = l.getD i noRd := by simp [List.getD, List.getElem?_append_left hlt]
    rw [this]; exact h.each i hlt
  · obtain rfl : i = l.length := by simp at hi; omega
    have : (l ++ [r]).getD l.length noRd = r := by simp [List.getD]
    rw [this]; exact hr
theorem note_fits {t : Tx} {r : Rd} (hf : FitsX t) (hr : RdFits r) : FitsX (noteT t r) := by
  rw [noteT]
  by_cases h0 : noteE t r = 0
  · rw [if_pos h0]
    by_cases hh : hasR t r = true
    · rw [if_pos hh]; exact hf
    · rw [if_neg hh]
      have ht : txE t = 0 := by
        by_cases e : txE t = 0
        · exact e
        · rw [noteE, if_neg e] at h0; exact h0
      exact ⟨hf.start, fitsR_add hf.reads hr ((tx_iff t).1 ht).reads, hf.writes⟩
  · rw [if_neg h0]; exact fitsX_no
end Go.Proofs.Ytpmfbfflacbmjac

/-
  The type of commits is none of bytes and none of writes.
-/
namespace Go.Proofs.Ytpmfbfflacbmjac
theorem cmtT5 : (55 : Nat) ≠ 5 := by decide
theorem cmtTW : (55 : Nat) ≠ 53 := by decide
end Go.Proofs.Ytpmfbfflacbmjac

/-
  Lists of commits in memory.
-/
namespace Go.Proofs.Ytpmfbfflacbmjac
open Go.RowKit
def CmtAt (w : World) (b o : Nat) (c : Cmt) : Prop := ∃ vs, w.cell? ⟨b, o, none⟩ = some (.int .i64 c.turn) ∧ w.cell? ⟨b, o + 1, none⟩ = some vs ∧ WritesIs w vs c.writes
theorem CmtAt.grown {w w' : World} {b o : Nat} {c : Cmt} (h : CmtAt w b o c) (hg : w.grownBy w' none) : CmtAt w' b o c := by
  obtain ⟨vs, c1, c2, h⟩ := h
  exact ⟨vs, hg.cell c1 (by simp), hg.cell c2 (by simp), h.grown hg⟩
def CommitsIs (w : World) (v : Value) (l : List Cmt) : Prop :=
  ∃ a cap, v = .slice a l.length cap ∧ l.length ≤ cap ∧ ((l = [] ∧ (a = none → cap = 0)) ∨ ∃ b o, a = some ⟨b, o, none⟩ ∧ ∀ i, i < l.length → CmtAt w b (o + i * 2) (l.getD i noCmt))
theorem commitsIs_nil (w : World) : CommitsIs w (.slice none 0 0) [] := ⟨none, 0, rfl, Nat.le_refl _, .inl ⟨rfl, fun _ => rfl⟩⟩
theorem CommitsIs.shape {w : World} {v : Value} {l : List Cmt} (h : CommitsIs w v l) : ∃ a cap, v = .slice a l.length cap := by
  obtain ⟨a, cap, rfl, _⟩ := h
  exact ⟨a, cap, rfl⟩
theorem CommitsIs.grown {w w' : World} {v : Value} {l : List Cmt} (h : CommitsIs w v l) (hg : w.grownBy w' none) : CommitsIs w' v l := by
  obtain ⟨a, cap, rfl, hc, h⟩ := h
  refine ⟨a, cap, rfl, hc, ?_⟩
  rcases h with h | ⟨b, o, rfl, h⟩
  · exact .inl h
  · exact .inr ⟨b, o, rfl, fun i hi => (h i hi).grown hg⟩
theorem CommitsIs.at {w : World} {a : Option Addr} {n cap : Nat} {l : List Cmt} (h : CommitsIs w (.slice a n cap) l) (i : Nat) (hi : i < l.length) : ∃ b o, a = some ⟨b, o, none⟩ ∧ CmtAt w b (o + i * 2) (l.getD i noCmt) := by
  obtain ⟨a', cap', e, hc, h⟩ := h
  simp only [Value.slice.injEq] at e
  obtain ⟨rfl, rfl, rfl⟩ := e
  rcases h with ⟨rfl, _⟩ | ⟨b, o, rfl, h⟩
  · simp at hi
  · exact ⟨b, o, rfl, h i hi⟩
structure FitsCs (l : List Cmt) : Prop where
  many : l.length * 32 ≤ 140737488355328
  each : ∀ i, i < l.length → FitsC (l.getD i noCmt)
abbrev CV := Cmt × Value
def noCV : CV := (noCmt, undef)
def flatC (us : List CV) : List Value := us.flatMap fun x => [.int .i64 x.1.turn, x.2]
theorem flatC_append (a b : List CV) : flatC (a ++ b) = flatC a ++ flatC b := by simp [flatC]
theorem flatC_get : ∀ (us : List CV) (i : Nat), i < us.length → (flatC us)[i * 2]? = some (.int .i64 (us.getD i noCV).1.turn) ∧ (flatC us)[i * 2 + 1]? = some (us.getD i noCV).2
  | [], i, h => by simp at h
  | x :: us, 0, _ => ⟨rfl, rfl⟩
  | x :: us, i + 1, h => by
    have := flatC_get us i (by simpa using h)
    rw [show (i + 1) * 2 = i * 2 + 2 by omega]
    exact this
/-- The list v of commits is the call's own, from block 'base' on. -/
def OwnC (base : Nat) (w : World) (v : Value) (l : List Cmt) : Prop :=
  ∃ us : List CV, us.map (·.1) = l ∧ w.ownsRow base 55 2 v l.length (flatC us) ∧ ∀ x ∈ us, WritesB base w x.2 x.1.writes
theorem ownC_nil (base : Nat) (w : World) : OwnC base w (.slice none 0 0) [] := ⟨[], rfl, World.ownsRow_nil _ _ _ _, fun x hx => by simp at hx⟩
theorem OwnC.row {base : Nat} {w : World} {v : Value} {l : List Cmt} (h : OwnC base w v l) : v.ownBlock = none ∨ ∃ g cur t fz, v.ownBlock = some g ∧ base ≤ g ∧ w.heap[g]? = some (.cells cur t fz) ∧ t ≠ 5 ∧ t ≠ 53 := by
  obtain ⟨us, _, h, _⟩ := h
  rcases h.2 with ⟨rfl, _⟩ | ⟨g, cap, cur, rfl, hb, hg, _⟩
  · exact .inl rfl
  · exact .inr ⟨g, cur, _, _, rfl, hb, hg, cmtT5, cmtTW⟩
theorem OwnC.lt {base : Nat} {w : World} {v : Value} {l : List Cmt} (h : OwnC base w v l) : ∀ k, v.ownBlock = some k → base ≤ k ∧ k < w.heap.size := by
  obtain ⟨us, _, h, _⟩ := h
  exact World.ownsRow.lt h
theorem OwnC.grownNone {base : Nat} {w w' : World} {v : Value} {l : List Cmt} (h : OwnC base w v l) (hg : w.grownBy w' none) : OwnC base w' v l := by
  obtain ⟨us, h1, h2, h3⟩ := h
  refine ⟨us, h1, World.ownsRow.kept h2 hg ?_, fun x hx => (h3 x hx).kept hg (.inl rfl)⟩
  cases hv : v.ownBlock with
  | none => exact .inl rfl
  | some k => exact .inr (by simp)
theorem OwnC.shape {base : Nat} {w : World} {v : Value} {l : List Cmt} (h : OwnC base w v l) : ∃ a cap, v = .slice a l.length cap := by
  obtain ⟨us, _, h, _⟩ := h
  rcases h.2 with ⟨rfl, h0⟩ | ⟨g, cap, cur, rfl, _⟩
  · exact ⟨none, 0, by rw [h0]⟩
  · exact ⟨_, cap, rfl⟩
theorem mapC_getD {us : List CV} {l : List Cmt} (h : us.map (·.1) = l) (i : Nat) (hi : i < l.length) : (us.getD i noCV).1 = l.getD i noCmt ∧ us.getD i noCV ∈ us := by
  subst h
  have hi' : i < us.length := by simpa using hi
  refine ⟨by simp [hi'], ?_⟩
  rw [show us.getD i noCV = us[i] by simp [hi']]
  exact List.getElem_mem hi'
theorem OwnC.list {base : Nat} {w : World} {v : Value} {l : List Cmt} (h : OwnC base w v l) : CommitsIs w v l := by
  obtain ⟨us, hl, hr, h3⟩ := h
  rcases hr.2 with ⟨rfl, h0⟩ | ⟨g, cap, cur, rfl, hb, hg, hn, hm, hs, ht⟩
  · have : l = [] := List.eq_nil_of_length_eq_zero h0
    rw [this]
    exact commitsIs_nil w
  · have hcell : ∀ j u, (flatC us)[j]? = some u → w.cell? ⟨g, j, none⟩ = some u := by
      intro j u hj
      have hlt : j < l.length * 2 := by
        have := (List.getElem?_eq_some_iff.1 hj).1
        rw [hr.1] at this
        exact this
      have e2 : (cur.toList.take (l.length * 2))[j]? = (flatC us)[j]? := by rw [ht]
      rw [List.getElem?_take, if_pos hlt, hj] at e2
      simp [World.cell?, hg]
      simpa using e2
    refine ⟨_, cap, rfl, hn, .inr ⟨g, 0, rfl, fun i hi => ?_⟩⟩
    obtain ⟨e1, e2⟩ := mapC_getD hl i hi
    have hlen : us.length = l.length := by rw [← hl]; simp
    obtain ⟨c1, c2⟩ := flatC_get us i (by omega)
    have hp := h3 _ e2
    rw [e1] at c1 hp
    rw [Nat.zero_add]
    exact ⟨_, hcell _ _ c1, hcell _ _ c2, hp.list⟩
theorem grown_ownC {base : Nat} {w W w1 : World} {v : Value} {l : List Cmt} (h : w.grownBy W none) (ho : OwnC base W v l) (hb : w.heap.size ≤ base) (hg : W.grownBy w1 v.ownBlock) : w.grownBy w1 none :=
  ⟨hg.os.trans h.os, hg.tape.trans h.tape, hg.output.trans h.output, Nat.le_trans h.size hg.size, fun i hi hn => (hg.block i (Nat.lt_of_lt_of_le hi h.size) (fun e => by have := (ho.lt i e.symm).1; omega)).trans (h.block i hi hn)⟩
theorem infoCmt : (Try.prog.info? 55).map (fun i => (i.zero, i.size, i.bytes)) = some (some (.agg #[.int .i64 0, .slice none 0 0]), 2, 32) := by kernel_rfl
/-- append(v, x) of one commit. -/
theorem wp_append_cmt {w : World} {o : Oper} {a : Act} {K : Act → World → Prop} {Q : Exit → Act → World → Prop} (s x : Operand)
    (ho : o.op = .call { callee := .builtin .append, args := #[s, x], argTypes := #[23, 23] }) (base : Nat) (v : Value) (l : List Cmt) (hs : a.eval s = v) (hown : OwnC base w v l)
    (vw : Value) (c : Cmt) (hw : WritesB base w vw c.writes) (nb : Nat) (hb : w.heap[nb]? = some (.cells #[.int .i64 c.turn, vw] 55))
    (hx : a.eval x = .slice (some ⟨nb, 0, none⟩) 1 1) (hl : (l.length + 1) * 32 ≤ 140737488355328) (hbase : base ≤ w.heap.size)
    (h : ∀ v' w', OwnC base w' v' (l ++ [c]) → w.grownBy w' v.ownBlock → K (a.put o.dst v') w') : o.wp Try.prog a w K Q := by
  obtain ⟨i0, hi, hz0, hz1, hz2⟩ := info_parts infoCmt
  have hrow := hown.row
  obtain ⟨us, hul, hr, hp⟩ := hown
  refine wp_append_lies w s x 23 ho base 55 i0 (.agg #[.int .i64 0, .slice none 0 0]) 2 32 Try.underlying23 hi hz0 hz1 hz2 rfl (by decide) v l.length (flatC us) hs hr ⟨nb, 0, none⟩ 1 1 (flatC [(c, vw)]) hx rfl (World.news_of_block (cs := #[.int .i64 c.turn, vw]) hb) ?_ (by omega) (by unfold maxLen; omega) hl hbase _ rfl ?_
  · intro u hu
    simp only [flatC, List.flatMap_cons, List.flatMap_nil, List.append_nil, List.mem_cons, List.not_mem_nil, or_false] at hu
    rcases hu with rfl | rfl
    · rfl
    · exact hw.oneCell
  · intro g cap w' q1 q2 _ _
    refine h _ w' ⟨us ++ [(c, vw)], by simp [hul], ?_, ?_⟩ q2
    · rw [flatC_append, List.length_append]; exact q1
    · intro y hy
      rcases List.mem_append.1 hy with hy | hy
      · exact (hp y hy).kept q2 hrow
      · simp only [List.mem_cons, List.not_mem_nil, or_false] at hy
        subst hy
        exact hw.kept q2 hrow
theorem wpList_append_cmt {w : World} {ops : Array Oper} {rest : List Oper} {o : Oper} {a : Act} {Q : Exit → Act → World → Prop} (hgd : o.guard = none) (s x : Operand)
    (ho : o.op = .call { callee := .builtin .append, args := #[s, x], argTypes := #[23, 23] }) (base : Nat) (v : Value) (l : List Cmt) (hs : a.eval s = v) (hown : OwnC base w v l)
    (vw : Value) (c : Cmt) (hw : WritesB base w vw c.writes) (nb : Nat) (hb : w.heap[nb]? = some (.cells #[.int .i64 c.turn, vw] 55))
    (hx : a.eval x = .slice (some ⟨nb, 0, none⟩) 1 1) (hl : (l.length + 1) * 32 ≤ 140737488355328) (hbase : base ≤ w.heap.size)
    (h : ∀ v' w', OwnC base w' v' (l ++ [c]) → w.grownBy w' v.ownBlock → wpList Try.prog ops Q rest (a.put o.dst v') w') : wpList Try.prog ops Q (o :: rest) a w :=
  wpList_plain hgd fun _ hK => wp_append_cmt s x ho base v l hs hown vw c hw nb hb hx hl hbase fun v' w' h1 h2 => hK _ _ (h v' w' h1 h2)
end Go.Proofs.Ytpmfbfflacbmjac

/-
  What txn.Clash must keep.
-/
namespace Go.Proofs.Ytpmfbfflacbmjac
open Go.RowKit
def TxClashOK : Prop := ∀ (w : World) (v u : Value) (t : Tx) (l : List Cmt), TxIs w v t → FitsX t → CommitsIs w u l → FitsCs l → Calls Try.prog 9 #[v, u] w fun e w' => e = .returned (.tuple #[.bool (clashB t l), .int .i64 (clashE t)]) ∧ w.grownBy w' none
end Go.Proofs.Ytpmfbfflacbmjac

/-
  Transactions out of raw places, with no program: what canopykeep.txnOf keeps.
-/
namespace Go.Proofs.Ytpmfbfflacbmjac
open Go.RowKit
def readF (p : Plc) : Rd := ⟨nameF p.name, keyF p.key, p.gone, if p.gone = true then keyF p.value else []⟩
theorem keyF_lenX (k : List UInt8) : 1 ≤ (keyF k).length ∧ (keyF k).length ≤ 16 := by
  unfold keyF
  by_cases h : k.length = 0
  · rw [if_pos h]; simp
  · rw [if_neg h, List.length_take]; omega
theorem nameF_lenX (k : List UInt8) : 1 ≤ (nameF k).length ∧ (nameF k).length ≤ 8 := by
  unfold nameF
  by_cases h : k.length = 0
  · rw [if_pos h]; simp
  · rw [if_neg h, List.length_take]; omega
theorem readF_ok (p : Plc) : readE (readF p) = 0 := by
  rw [readE_iff]
  refine ⟨nameF_lenX _, keyF_lenX _, ?_⟩
  show if p.gone = true then 1 ≤ (if p.gone = true then keyF p.value else []).length ∧ (if p.gone = true then keyF p.value else []).length ≤ 16 else (if p.gone = true then keyF p.value else []) = []
  by_cases h : p.gone = true
  · rw [if_pos h, if_pos h]; exact keyF_lenX _
  · rw [if_neg h, if_neg h]
theorem writeF_okX (p : Plc) : writeE (writeF p) = 0 := by
  rw [writeE_iff]
  refine ⟨nameF_lenX _, keyF_lenX _, ?_⟩
  show if p.gone = true then (if p.gone = true then [] else p.value.take 32) = [] else (if p.gone = true then [] else p.value.take 32).length ≤ 32
  by_cases h : p.gone = true
  · rw [if_pos h, if_pos h]
  · rw [if_neg h, if_neg h, List.length_take]; omega
def mkW (l : List Plc) : Tx := l.foldl (fun t p => twriteT t (writeF p)) noTx
def mkN (t : Tx) (l : List Plc) : Tx := l.foldl (fun t p => noteT t (readF p)) t
/-- What txnOf makes. -/
def txOf (ws rs : List Plc) : Tx := mkN (mkW (ws.take 8)) (rs.take 8)
theorem mkW_take (l : List Plc) (i : Nat) (h : i < l.length) : mkW (l.take (i + 1)) = twriteT (mkW (l.take i)) (writeF (l.getD i noPlc)) := by
  rw [mkW, List.take_succ_eq_append_getElem h, List.foldl_append, show l[i] = l.getD i noPlc by simp [h]]; rfl
theorem mkN_take (t : Tx) (l : List Plc) (i : Nat) (h : i < l.length) : mkN t (l.take (i + 1)) = noteT (mkN t (l.take i)) (readF (l.getD i noPlc)) := by
  rw [mkN, List.take_succ_eq_append_getElem h, List.foldl_append, show l[i] = l.getD i noPlc by simp [h]]; rfl
structure TxW (t : Tx) (i : Nat) : Prop where
  ok : TxOK t
  few : t.writes.length ≤ i
  none : t.reads = []
  start : t.start = 0
theorem txW_step {t : Tx} {i : Nat} (h : TxW t i) (hi : i < 10) {w : Plc} (hw : writeE w = 0) : twriteE t w = 0 ∧ TxW (twriteT t w) (i + 1) := by
  have hf := h.few
  have he : twriteE t w = 0 := by
    rw [write_ok h.ok hw]
    by_cases hh : hasW t.writes w = true
    · rw [if_pos hh]
    · rw [if_neg hh, if_neg (by omega)]
  have ht : twriteT t w = ⟨t.start, t.reads, putW t.writes w⟩ := by rw [twriteT, if_pos he]
  refine ⟨he, write_tx h.ok hw he, ?_, ?_, ?_⟩
  · rw [ht]
    show (putW t.writes w).length ≤ _
    rw [putW_len]
    by_cases hh : hasW t.writes w = true
    · rw [if_pos hh]; omega
    · rw [if_neg hh]; omega
  · rw [ht]; exact h.none
  · rw [ht]; exact h.start
theorem mkW_ok (l : List Plc) : ∀ i, i ≤ l.length → i ≤ 10 → TxW (mkW (l.take i)) i
  | 0, _, _ => ⟨tx_none, Nat.le_refl _, rfl, rfl⟩
  | i + 1, h1, h2 => by
    rw [mkW_take l i (by omega)]
    exact (txW_step (mkW_ok l i (by omega) (by omega)) (by omega) (writeF_okX _)).2
structure TxN (t u : Tx) (i : Nat) : Prop where
  ok : TxOK u
  few : u.reads.length ≤ t.reads.length + i
  same : u.writes = t.writes
  start : u.start = t.start
theorem txN_step {t u : Tx} {i : Nat} (h : TxN t u i) (hi : t.reads.length + i < 20) {r : Rd} (hr : readE r = 0) : noteE u r = 0 ∧ TxN t (noteT u r) (i + 1) := by
  have hf := h.few
  have he : noteE u r = 0 := by
    rw [note_ok h.ok hr]
    by_cases hh : hasR u r = true
    · rw [if_pos hh]
    · rw [if_neg hh, if_neg (by omega)]
  refine ⟨he, note_tx h.ok hr he, ?_, ?_, ?_⟩ <;> rw [noteT, if_pos he] <;> by_cases hh : hasR u r = true
  · rw [if_pos hh]; omega
  · rw [if_neg hh]; simp; omega
  · rw [if_pos hh]; exact h.same
  · rw [if_neg hh]; exact h.same
  · rw [if_pos hh]; exact h.start
  · rw [if_neg hh]; exact h.start
theorem mkN_ok {t : Tx} (ht : TxOK t) (l : List Plc) : ∀ i, i ≤ l.length → t.reads.length + i ≤ 20 → TxN t (mkN t (l.take i)) i
  | 0, _, _ => ⟨ht, Nat.le_refl _, rfl, rfl⟩
  | i + 1, h1, h2 => by
    rw [mkN_take t l i (by omega)]
    exact (txN_step (mkN_ok ht l i (by omega) (by omega)) (by omega) (readF_ok _)).2
theorem txOf_ok (ws rs : List Plc) : TxOK (txOf ws rs) ∧ (txOf ws rs).start = 0 ∧ (txOf ws rs).writes.length ≤ 8 ∧ (txOf ws rs).reads.length ≤ 8 := by
  have h1 := mkW_ok (ws.take 8) (ws.take 8).length (Nat.le_refl _) (by rw [List.length_take]; omega)
  rw [List.take_length] at h1
  have h2 := mkN_ok h1.ok (rs.take 8) (rs.take 8).length (Nat.le_refl _) (by rw [h1.none, List.length_take]; simp; omega)
  rw [List.take_length] at h2
  have l1 : (ws.take 8).length ≤ 8 := by rw [List.length_take]; omega
  have l2 : (rs.take 8).length ≤ 8 := by rw [List.length_take]; omega
  have f1 := h1.few
  have f2 := h2.few
  rw [h1.none] at f2
  refine ⟨h2.ok, by rw [txOf, h2.start, h1.start], by rw [txOf, h2.same]; omega, by rw [txOf]; simp at f2; omega⟩
theorem txOf_reads (ws : List Plc) : (txOf ws []).reads = [] := by
  have h1 := mkW_ok (ws.take 8) (ws.take 8).length (Nat.le_refl _) (by rw [List.length_take]; omega)
  rw [List.take_length] at h1
  exact h1.none
theorem txOf_writes (rs : List Plc) : (txOf [] rs).writes = [] := by
  have h2 := mkN_ok (t := mkW []) tx_none (rs.take 8) (rs.take 8).length (Nat.le_refl _) (by rw [List.length_take]; show 0 + _ ≤ _; omega)
  rw [List.take_length] at h2
  exact h2.same
end Go.Proofs.Ytpmfbfflacbmjac

/-
  A transaction stays where the three cells of another transaction's box are written.
-/
namespace Go.Proofs.Ytpmfbfflacbmjac
open Go.RowKit
abbrev setTrip (w : World) (nb : Nat) (u1 u2 u3 : Value) : World := ((w.setCell ⟨nb, 0, none⟩ u1).setCell ⟨nb, 1, none⟩ u2).setCell ⟨nb, 2, none⟩ u3
theorem cell_trip {w : World} {nb c j : Nat} {z : Value} (h : w.cell? ⟨c, j, none⟩ = some z) (hne : c ≠ nb) (u1 u2 u3 : Value) : (setTrip w nb u1 u2 u3).cell? ⟨c, j, none⟩ = some z := by
  unfold setTrip
  rw [World.cell?_setCell_other _ _ _ _ (fun e => hne (congrArg Addr.block e).symm), World.cell?_setCell_other _ _ _ _ (fun e => hne (congrArg Addr.block e).symm), World.cell?_setCell_other _ _ _ _ (fun e => hne (congrArg Addr.block e).symm)]
  exact h
theorem trip_set {w : World} {b : Nat} {x y z : Value} {t : TypeId} (h : w.heap[b]? = some (.cells #[x, y, z] t)) (u1 u2 u3 : Value) : (setTrip w b u1 u2 u3).heap[b]? = some (.cells #[u1, u2, u3] t) := set_self (set_self (set_self h))
/-- No cell of the box is a byte, and it has three cells. -/
structure NoByte (x y z : Value) : Prop where
  one : ∀ q, x ≠ .int .u8 q
  two : ∀ q, y ≠ .int .u8 q
  three : ∀ q, z ≠ .int .u8 q
theorem SliceIs.setTrip {w : World} {v : Value} {bs : List UInt8} (h : SliceIs w v bs) {nb : Nat} {x y z : Value} {t : TypeId} (hb : w.heap[nb]? = some (.cells #[x, y, z] t)) (hn : NoByte x y z) (u1 u2 u3 : Value) : SliceIs (setTrip w nb u1 u2 u3) v bs := by
  obtain ⟨a, cap, rfl, hc, h⟩ := h
  refine ⟨a, cap, rfl, hc, ?_⟩
  rcases h with h | ⟨c, o, rfl, h⟩
  · exact .inl h
  · refine .inr ⟨c, o, rfl, fun i hi => ?_⟩
    have h1 := h i hi
    have hne : c ≠ nb := by
      rintro rfl
      match hj : o + i with
      | 0 => rw [hj] at h1; simp [World.cell?, hb] at h1; exact hn.one _ h1
      | 1 => rw [hj] at h1; simp [World.cell?, hb] at h1; exact hn.two _ h1
      | 2 => rw [hj] at h1; simp [World.cell?, hb] at h1; exact hn.three _ h1
      | n + 3 => rw [hj] at h1; simp [World.cell?, hb] at h1
    exact cell_trip h1 hne _ _ _
theorem WritesIs.setTrip {w : World} {v : Value} {l : List Plc} (h : WritesIs w v l) {nb : Nat} {x y z : Value} {t : TypeId} (hb : w.heap[nb]? = some (.cells #[x, y, z] t)) (hn : NoByte x y z) (u1 u2 u3 : Value) : WritesIs (setTrip w nb u1 u2 u3) v l := by
  obtain ⟨a, cap, rfl, hc, h⟩ := h
  refine ⟨a, cap, rfl, hc, ?_⟩
  rcases h with h | ⟨c, o, rfl, h⟩
  · exact .inl h
  · refine .inr ⟨c, o, rfl, fun i hi => ?_⟩
    obtain ⟨vn, vk, vv, c1, c2, c3, c4, h1, h2, h3⟩ := h i hi
    have hne : c ≠ nb := by
      rintro rfl
      simp [World.cell?, hb] at c4
    exact ⟨vn, vk, vv, cell_trip c1 hne _ _ _, cell_trip c2 hne _ _ _, cell_trip c3 hne _ _ _, cell_trip c4 hne _ _ _, h1.setTrip hb hn _ _ _, h2.setTrip hb hn _ _ _, h3.setTrip hb hn _ _ _⟩
theorem ReadsIs.setTrip {w : World} {v : Value} {l : List Rd} (h : ReadsIs w v l) {nb : Nat} {x y z : Value} {t : TypeId} (hb : w.heap[nb]? = some (.cells #[x, y, z] t)) (hn : NoByte x y z) (u1 u2 u3 : Value) : ReadsIs (setTrip w nb u1 u2 u3) v l := by
  obtain ⟨a, cap, rfl, hc, h⟩ := h
  refine ⟨a, cap, rfl, hc, ?_⟩
  rcases h with h | ⟨c, o, rfl, h⟩
  · exact .inl h
  · refine .inr ⟨c, o, rfl, fun i hi => ?_⟩
    obtain ⟨vn, vk, vv, c1, c2, c3, c4, h1, h2, h3⟩ := h i hi
    have hne : c ≠ nb := by
      rintro rfl
      simp [World.cell?, hb] at c4
    exact ⟨vn, vk, vv, cell_trip c1 hne _ _ _, cell_trip c2 hne _ _ _, cell_trip c3 hne _ _ _, cell_trip c4 hne _ _ _, h1.setTrip hb hn _ _ _, h2.setTrip hb hn _ _ _, h3.setTrip hb hn _ _ _⟩
theorem noByte_tx (st : Int) (a b : Option Addr) (n m c d : Nat) : NoByte (.int .i64 st) (.slice a n c) (.slice b m d) := ⟨fun q e => by simp at e, fun q e => by simp at e, fun q e => by simp at e⟩
theorem TxIs.setTrip {w : World} {v : Value} {T : Tx} (h : TxIs w v T) {nb : Nat} {x y z : Value} {t : TypeId} (hb : w.heap[nb]? = some (.cells #[x, y, z] t)) (hn : NoByte x y z) (u1 u2 u3 : Value) : TxIs (setTrip w nb u1 u2 u3) v T := by
  obtain ⟨vr, vw, rfl, h1, h2⟩ := h
  exact ⟨vr, vw, rfl, h1.setTrip hb hn _ _ _, h2.setTrip hb hn _ _ _⟩
end Go.Proofs.Ytpmfbfflacbmjac

/-
  What a transaction sees, with no program: what WriteSeen, LookApplied, ScanApplied, WriteAgain and NoteOnce rest on.
-/
namespace Go.Proofs.Ytpmfbfflacbmjac
open Go.RowKit
theorem places_nilX (w : World) : PlacesIs w (.slice none 0 0) [] := ⟨none, 0, rfl, Nat.le_refl _, .inl rfl⟩
theorem twrite_writes {t : Tx} {w : Plc} (he : twriteE t w = 0) : (twriteT t w).writes = putW t.writes w ∧ (twriteT t w).reads = t.reads ∧ (twriteT t w).start = t.start := by
  rw [twriteT, if_pos he]; exact ⟨rfl, rfl, rfl⟩
/-- Who has written something sees it. -/
theorem look_own {l : FL} {t : Tx} (hl : Forest l) (ht : TxOK t) {w : Plc} (hw : writeE w = 0) (he : twriteE t w = 0) : lookE l (twriteT t w) w.name w.key = 0 ∧ lookO l (twriteT t w) w.name w.key = true ∧ lookB l (twriteT t w) w.name w.key = !w.gone ∧ lookV l (twriteT t w) w.name w.key = w.value := by
  have hv := (writeE_iff w).1 hw
  have h0 := look_ok hl (write_tx ht hw he) hv.1 hv.2.1
  have ha : atW (twriteT t w).writes w.name w.key = some w := by rw [(twrite_writes he).1, atW_put, if_pos ⟨rfl, rfl⟩]
  refine ⟨h0, ?_, ?_, ?_⟩
  · rw [lookO, if_pos h0, ha]; rfl
  · rw [lookB, if_pos h0, ha]
  · rw [lookV, if_pos h0, ha]
/-- Other places are seen as they were. -/
theorem look_other {l : FL} {t : Tx} (hl : Forest l) (ht : TxOK t) {w : Plc} (hw : writeE w = 0) (he : twriteE t w = 0) {n k : List UInt8} (hn : 1 ≤ n.length ∧ n.length ≤ 8) (hk : 1 ≤ k.length ∧ k.length ≤ 16) (hne : ¬ (w.name = n ∧ w.key = k)) : lookO l (twriteT t w) n k = lookO l t n k ∧ lookB l (twriteT t w) n k = lookB l t n k ∧ lookV l (twriteT t w) n k = lookV l t n k := by
  have h0 := look_ok hl (write_tx ht hw he) hn hk
  have h1 := look_ok hl ht hn hk
  have ha : atW (twriteT t w).writes n k = atW t.writes n k := by rw [(twrite_writes he).1, atW_put, if_neg hne]
  refine ⟨?_, ?_, ?_⟩
  · rw [lookO, lookO, if_pos h0, if_pos h1, ha]
  · rw [lookB, lookB, if_pos h0, if_pos h1, ha]
  · rw [lookV, lookV, if_pos h0, if_pos h1, ha]
theorem look_noname {l : FL} {t : Tx} (hl : Forest l) (ht : TxOK t) (k : List UInt8) : lookE l t [] k = 1 ∧ lookO l t [] k = false ∧ lookB l t [] k = false ∧ lookV l t [] k = [] := by
  have h : lookE l t [] k = 1 := by
    rw [lookE, ftE, if_pos ((forest_iff l).2 hl), if_pos ((tx_iff t).2 ht)]
    rw [if_neg (by show nameFaultF 0 ≠ 0; decide)]
    rfl
  exact ⟨h, look_bad (by rw [h]; decide)⟩
theorem scan_nokey {l : FL} {t : Tx} (hl : Forest l) (ht : TxOK t) {n : List UInt8} (hn : 1 ≤ n.length ∧ n.length ≤ 8) (b : List UInt8) : scanE l t n [] b = 1 ∧ scanF l t n [] b = [] := by
  have h : scanE l t n [] b = 1 := by
    rw [scanE, ftE, if_pos ((forest_iff l).2 hl), if_pos ((tx_iff t).2 ht), if_pos ((nameFault_iff _).2 hn)]
    rw [if_neg (by show keyFaultF 0 ≠ 0; decide)]
    rfl
  exact ⟨h, by rw [scanF, h, if_neg (by decide)]⟩
/-- Of two writes to one place the last one counts. -/
theorem putW_hit : ∀ (l : List Plc) (q u : Plc), plSame q u = true → putW (putW l q) u = putW l u
  | [], q, u, h => by
    show putW [q] u = [u]
    rw [putW, if_pos h]
  | a :: l, q, u, h => by
    have hqu := (plSame_iff q u).1 h
    rw [putW, putW]
    by_cases h1 : plSame a q = true
    · have h2 : plSame a u = true := (plSame_iff a u).2 (pSame_trans ((plSame_iff a q).1 h1) hqu)
      rw [if_pos h1, if_pos h2, putW, if_pos h]
    · have h2 : ¬ plSame a u = true := fun e => h1 ((plSame_iff a q).2 (pSame_trans ((plSame_iff a u).1 e) (pSame_symm hqu)))
      rw [if_neg h1, if_neg h2, putW, if_neg h2, putW_hit l q u h]
theorem putW_again (l : List Plc) (q u : Plc) (h : plSame q u = true) : putW (putW (putW l q) u) q = putW l q := by
  have h' : plSame u q = true := (plSame_iff u q).2 (pSame_symm ((plSame_iff q u).1 h))
  rw [putW_hit l q u h, putW_hit l u q h']
theorem hasW_put (l : List Plc) (q u : Plc) (h : plSame q u = true) : hasW (putW l q) u = true := by
  rw [hasW_iff]
  refine ⟨q, ?_, (plSame_iff q u).1 h⟩
  induction l with
  | nil => simp [putW]
  | cons a l ih =>
    rw [putW]
    by_cases h1 : plSame a q = true
    · rw [if_pos h1]; simp
    · rw [if_neg h1]; exact List.mem_cons_of_mem _ ih
end Go.Proofs.Ytpmfbfflacbmjac

/-
  Commits that may be fit into memory.
-/
namespace Go.Proofs.Ytpmfbfflacbmjac
open Go.RowKit
theorem writes_fits {ws : List Plc} (hn : ws.length ≤ 1000) (h : ∀ w ∈ ws, writeE w = 0) : FitsW ws := ⟨by omega, fun j hj => by
  have h0 := h ws[j] (List.getElem_mem hj)
  rw [show ws[j] = ws.getD j noPlc by simp [hj]] at h0
  have h2 := (writeE_iff _).1 h0
  have h3 : (ws.getD j noPlc).value.length ≤ 32 := by
    have := h2.2.2
    split at this
    · rw [this]; simp
    · exact this
  exact ⟨by omega, by omega, by omega⟩⟩
theorem commit_fits {c : Cmt} (h : commitE c = 0) : FitsC c := by
  obtain ⟨h1, h2, h3⟩ := (commit_iff c).1 h
  exact ⟨by omega, writes_fits (by omega) h3⟩
end Go.Proofs.Ytpmfbfflacbmjac

/-
  What the laws of clashes share: literals of one write and of one commit, a start that is set, and what is sure to clash.
-/
namespace Go.Proofs.Ytpmfbfflacbmjac
open Go.RowKit
theorem cmts_histX {ws : List Plc} {cs : List Cmt} {f : FL} {i : Nat} (h : CmtsOf ws i cs f) (hl : cs.length ≤ 300) : Goes [] 0 cs ∧ histE cs = 0 := by
  have h1 := (foldC_goes cs [] f 0 h.turn h.fold).1
  exact ⟨h1, (hist_iff cs).2 ⟨hl, h1⟩⟩
theorem goes_fitsX {cs : List Cmt} (h : Goes [] 0 cs) (hl : cs.length ≤ 300) : FitsCs cs := ⟨by omega, fun i hi => commit_fits (h.at i hi).1⟩
theorem one_write (w : World) (t : TypeId) (vn vk vv : Value) (p : Plc) (h1 : SliceIs w vn p.name) (h2 : SliceIs w vk p.key) (h3 : SliceIs w vv p.value) : WritesIs (w.alloc (.cells #[vn, vk, .bool p.gone, vv] t)) (.slice (some ⟨w.heap.size, 0, none⟩) 1 1) [p] := by
  refine ⟨_, 1, rfl, by simp, .inr ⟨w.heap.size, 0, rfl, fun i hi => ?_⟩⟩
  obtain rfl : i = 0 := by simpa using hi
  exact ⟨vn, vk, vv, by simp, by simp, by simp, by simp, h1.alloc _, h2.alloc _, h3.alloc _⟩
theorem one_commit (w : World) (t : TypeId) (vs : Value) (c : Cmt) (h : WritesIs w vs c.writes) : CommitsIs (w.alloc (.cells #[.int .i64 c.turn, vs] t)) (.slice (some ⟨w.heap.size, 0, none⟩) 1 1) [c] := by
  refine ⟨_, 1, rfl, by simp, .inr ⟨w.heap.size, 0, rfl, fun i hi => ?_⟩⟩
  obtain rfl : i = 0 := by simpa using hi
  exact ⟨vs, by simp, by simp, h.grown (World.grownBy_alloc _ _ _)⟩
/-- The literal of one commit of one write, as it is laid. -/
theorem commit_lit (w : World) (t t2 : TypeId) (vn vk vv : Value) (p : Plc) (h1 : SliceIs w vn p.name) (h2 : SliceIs w vk p.key) (h3 : SliceIs w vv p.value) (W : World)
    (hW : W = (w.alloc (.cells #[vn, vk, .bool p.gone, vv] t)).alloc (.cells #[.int .i64 1, .slice (some ⟨w.heap.size, 0, none⟩) 1 1] t2)) :
    CommitsIs W (.slice (some ⟨w.heap.size + 1, 0, none⟩) 1 1) [⟨1, [p]⟩] ∧ w.grownBy W none := by
  have s1 := one_write w t vn vk vv p h1 h2 h3
  have s2 := one_commit (w.alloc (.cells #[vn, vk, .bool p.gone, vv] t)) t2 _ ⟨1, [p]⟩ s1
  rw [World.size_alloc] at s2
  rw [hW]
  exact ⟨s2, grown_alloc (World.grownBy_alloc _ _ _) _⟩
theorem TxIs.start {w : World} {s : Int} {x y : Value} {t : Tx} (h : TxIs w (.agg #[.int .i64 s, x, y]) t) (k : Int) : TxIs w (.agg #[.int .i64 k, x, y]) ⟨k, t.reads, t.writes⟩ := by
  obtain ⟨_, h1, h2⟩ := h.parts
  exact ⟨x, y, rfl, h1, h2⟩
theorem start_ok {t : Tx} (h : TxOK t) {k : Int} (h0 : 0 ≤ k) (h1 : k ≤ 1048576) : TxOK ⟨k, t.reads, t.writes⟩ := ⟨⟨h0, h1⟩, h.reads, h.writes, h.each, h.once, h.wrs, h.apart⟩
theorem clash_okX {t : Tx} (h : TxOK t) (l : List Cmt) : clashE t = 0 ∧ clashB t l = clashL t l := by
  have := (tx_iff t).2 h
  exact ⟨this, by rw [clashB, if_pos this]⟩
theorem sure_note {r : Rd} (hr : readE r = 0) : noteE noTx r = 0 ∧ noteT noTx r = ⟨0, [r], []⟩ := by
  have hh : ¬ hasR noTx r = true := by rw [hasR_iff]; simp [noTx]
  have he : noteE noTx r = 0 := by rw [note_ok tx_none hr, if_neg hh, if_neg (by decide)]
  refine ⟨he, ?_⟩
  rw [noteT, if_pos he, if_neg hh]; rfl
theorem sure_clash {n k : List UInt8} {q : Plc} (hn : q.name = n) (hk : q.key = k) : clashL ⟨0, [⟨n, k, false, []⟩], []⟩ [⟨1, [q]⟩] = true := by
  simp [clashL, hitsW, touch, hn, hk]
theorem fits_sure {q : Plc} (hq : writeE q = 0) : FitsCs [⟨1, [q]⟩] := by
  refine ⟨by simp, fun i hi => ?_⟩
  obtain rfl : i = 0 := by simpa using hi
  refine commit_fits ((commit_iff _).2 ⟨by simp, by simp, fun x hx => ?_⟩)
  simp at hx
  rw [hx]; exact hq
theorem note_more {t : Tx} {r : Rd} (he : noteE t r = 0) : (∀ x ∈ t.reads, x ∈ (noteT t r).reads) ∧ (noteT t r).start = t.start := by
  rw [noteT, if_pos he]
  by_cases hh : hasR t r = true
  · rw [if_pos hh]; exact ⟨fun _ h => h, rfl⟩
  · rw [if_neg hh]; exact ⟨fun x h => by simp [h], rfl⟩
theorem bare_read {n k : List UInt8} (hn : 1 ≤ n.length ∧ n.length ≤ 8) (hk : 1 ≤ k.length ∧ k.length ≤ 16) : readE ⟨n, k, false, []⟩ = 0 := (readE_iff _).2 ⟨hn, hk, by simp⟩
end Go.Proofs.Ytpmfbfflacbmjac

/-
  A copy of writes and of reads with one more, at a step of a region that draws its order; and that what stands twice is refused, with no program.
-/
namespace Go.Proofs.Ytpmfbfflacbmjac
open Go.RowKit
/-- Writes that are handed over, by their cells. -/
theorem WritesIs.lies {w : World} {a : Option Addr} {n cap : Nat} {m : List Plc} (h : WritesIs w (.slice a n cap) m) : n = m.length ∧ ∃ us : List WV, us.map (·.1) = m ∧ (∀ x ∈ us, SliceIs w x.2.1 x.1.name ∧ SliceIs w x.2.2.1 x.1.key ∧ SliceIs w x.2.2.2 x.1.value) ∧ ((a = none ∧ m = [] ∧ cap = 0) ∨ ∃ ad, a = some ad ∧ ∀ j u, (flatW us)[j]? = some u → w.cell? (ad.add j) = some u) := by
  obtain ⟨a', cap', e, hc, h⟩ := h
  simp only [Value.slice.injEq] at e
  obtain ⟨rfl, rfl, rfl⟩ := e
  refine ⟨rfl, ?_⟩
  rcases h with ⟨rfl, h⟩ | ⟨b, o, rfl, h⟩
  · refine ⟨[], rfl, by simp, ?_⟩
    cases a with
    | none => exact .inl ⟨rfl, rfl, h rfl⟩
    | some ad => exact .inr ⟨ad, rfl, fun j u hj => by simp [flatW] at hj⟩
  · have each : ∀ i : Nat, ∃ q : WV, i < m.length → q.1 = m.getD i noPlc ∧ w.cell? ⟨b, o + i * 4, none⟩ = some q.2.1 ∧ w.cell? ⟨b, o + i * 4 + 1, none⟩ = some q.2.2.1 ∧ w.cell? ⟨b, o + i * 4 + 2, none⟩ = some (.bool q.1.gone) ∧ w.cell? ⟨b, o + i * 4 + 3, none⟩ = some q.2.2.2 ∧ SliceIs w q.2.1 q.1.name ∧ SliceIs w q.2.2.1 q.1.key ∧ SliceIs w q.2.2.2 q.1.value := by
      intro i
      by_cases hi : i < m.length
      · obtain ⟨vn, vk, vv, c1, c2, c3, c4, s1, s2, s3⟩ := h i hi
        exact ⟨(m.getD i noPlc, vn, vk, vv), fun _ => ⟨rfl, c1, c2, c3, c4, s1, s2, s3⟩⟩
      · exact ⟨noWV, fun h => absurd h hi⟩
    obtain ⟨q, hq'⟩ : ∃ q : Nat → WV, ∀ i, i < m.length → (q i).1 = m.getD i noPlc ∧ w.cell? ⟨b, o + i * 4, none⟩ = some (q i).2.1 ∧ w.cell? ⟨b, o + i * 4 + 1, none⟩ = some (q i).2.2.1 ∧ w.cell? ⟨b, o + i * 4 + 2, none⟩ = some (.bool (q i).1.gone) ∧ w.cell? ⟨b, o + i * 4 + 3, none⟩ = some (q i).2.2.2 ∧ SliceIs w (q i).2.1 (q i).1.name ∧ SliceIs w (q i).2.2.1 (q i).1.key ∧ SliceIs w (q i).2.2.2 (q i).1.value := ⟨fun i => Classical.choose (each i), fun i hi => Classical.choose_spec (each i) hi⟩
    refine ⟨(List.range m.length).map q, ?_, fun x hx => ?_, .inr ⟨_, rfl, fun j u hj => ?_⟩⟩
    · apply List.ext_getElem
      · simp
      · intro i h1 h2
        simp only [List.getElem_map, List.getElem_range]
        rw [(hq' i h2).1]; simp [h2]
    · obtain ⟨i, hi, rfl⟩ := List.mem_map.1 hx
      have := hq' i (List.mem_range.1 hi)
      exact ⟨this.2.2.2.2.2.1, this.2.2.2.2.2.2.1, this.2.2.2.2.2.2.2⟩
    · have hlt : j < m.length * 4 := by
        have := (List.getElem?_eq_some_iff.1 hj).1
        rw [flatW_len] at this
        simpa using this
      obtain ⟨i, k, rfl, hk⟩ : ∃ i k, j = i * 4 + k ∧ k < 4 := ⟨j / 4, j % 4, by omega, by omega⟩
      have hi : i < m.length := by omega
      have hg := flatW_get ((List.range m.length).map q) i (by simpa using hi)
      have he : ((List.range m.length).map q).getD i noWV = q i := by simp [hi]
      rw [he] at hg
      obtain ⟨_, c1, c2, c3, c4, _⟩ := hq' i hi
      rw [addr_add]
      match k, hk with
      | 0, _ => rw [Nat.add_zero] at hj ⊢; rw [hg.1] at hj; cases hj; exact c1
      | 1, _ => rw [hg.2.1] at hj; cases hj; exact c2
      | 2, _ => rw [hg.2.2.1] at hj; cases hj; exact c3
      | 3, _ => rw [hg.2.2.2] at hj; cases hj; exact c4
/-- append(v, x..) at a step of a region that draws its order, the source by its cells. -/
theorem step_append_wrG {w : World} {ops : Array Oper} {o : Oper} {a : Act} {K : Act → World → Prop} {Q : Exit → Act → World → Prop} {E : Prop} (hgd : o.guard = none) (s x : Operand)
    (ho : o.op = .call { callee := .builtin .append, args := #[s, x], argTypes := #[26, 26] }) (base : Nat) (v : Value) (l : List Plc) (hs : a.eval s = v) (hown : OwnV base base w v l)
    (ad : Addr) (cap : Nat) (us : List WV) (hx : a.eval x = .slice (some ad) us.length cap) (hc : ∀ j u, (flatW us)[j]? = some u → w.cell? (ad.add j) = some u) (hpt : ∀ y ∈ us, PartIs base w y.2.1 y.1.name ∧ PartIs base w y.2.2.1 y.1.key ∧ PartIs base w y.2.2.2 y.1.value) (h0 : 0 < us.length)
    (hl : (l.length + us.length) * 80 ≤ 140737488355328) (hbase : base ≤ w.heap.size)
    (h : ∀ v' w', OwnV base base w' v' (l ++ us.map (·.1)) → w.grownBy w' v.ownBlock → K (a.put o.dst v') w') : if Region.wanted o (yielded ops a.tmps) = true then Oper.wp Try.prog o a w K Q else E := by
  have hw : Region.wanted o (yielded ops a.tmps) = true := by simp [Region.wanted, hgd]
  rw [if_pos hw]
  obtain ⟨i0, hi, hz0, hz1, hz2⟩ := info_parts infoWr
  have hrow : v.ownBlock = none ∨ ∃ g cur t fz, v.ownBlock = some g ∧ base ≤ g ∧ w.heap[g]? = some (.cells cur t fz) ∧ t ≠ 5 := by
    rcases hown.row with h | ⟨g, cur, fz, e, e2, h⟩
    · exact .inl h
    · exact .inr ⟨g, cur, _, fz, e, e2, h, wrT5⟩
  obtain ⟨vs, hul, hr, hp⟩ := hown
  refine wp_append_lies w s x 26 ho base 53 i0 (.agg #[.slice none 0 0, .slice none 0 0, .bool false, .slice none 0 0]) 4 80 Try.underlying26 hi hz0 hz1 hz2 rfl (by decide) v l.length (flatW vs) hs hr ad us.length cap (flatW us) hx (flatW_len us) hc ?_ h0 (by unfold maxLen; omega) hl hbase _ rfl ?_
  · intro u hu
    obtain ⟨p, hp1, hp2⟩ := List.mem_flatMap.1 hu
    have := hpt p hp1
    simp only [List.mem_cons, List.not_mem_nil, or_false] at hp2
    rcases hp2 with rfl | rfl | rfl | rfl
    · exact part_oneCell this.1
    · exact part_oneCell this.2.1
    · rfl
    · exact part_oneCell this.2.2
  · intro g cap w' q1 q2 _ _
    refine h _ w' ⟨vs ++ us, by simp [hul], ?_, ?_⟩ q2
    · rw [flatW_append, List.length_append, List.length_map]; exact q1
    · intro y hy
      rcases List.mem_append.1 hy with hy | hy
      · exact ⟨(hp y hy).1.keptT q2 hrow, (hp y hy).2.1.keptT q2 hrow, (hp y hy).2.2.keptT q2 hrow⟩
      · have := hpt y hy
        exact ⟨this.1.keptT q2 hrow, this.2.1.keptT q2 hrow, this.2.2.keptT q2 hrow⟩
/-- append(nil, x..). -/
theorem step_append_wr0 {w : World} {ops : Array Oper} {o : Oper} {a : Act} {K : Act → World → Prop} {Q : Exit → Act → World → Prop} {E : Prop} (hgd : o.guard = none) (s x : Operand)
    (ho : o.op = .call { callee := .builtin .append, args := #[s, x], argTypes := #[26, 26] }) (hs : a.eval s = .slice none 0 0)
    (w0 : World) (hg0 : w0.grownBy w none) (xa : Option Addr) (cap : Nat) (m : List Plc) (hx : a.eval x = .slice xa m.length cap) (hsrc : WritesIs w0 (.slice xa m.length cap) m) (h0 : 0 < m.length) (hl : m.length * 80 ≤ 140737488355328)
    (h : ∀ v' w', OwnV w0.heap.size w0.heap.size w' v' m → w.grownBy w' none → K (a.put o.dst v') w') : if Region.wanted o (yielded ops a.tmps) = true then Oper.wp Try.prog o a w K Q else E := by
  obtain ⟨_, us, hul, hu, hc⟩ := hsrc.lies
  have hlen : us.length = m.length := by rw [← hul]; simp
  rcases hc with ⟨_, rfl, _⟩ | ⟨ad, rfl, hc⟩
  · simp at h0
  · refine step_append_wrG hgd s x ho w0.heap.size (.slice none 0 0) [] hs (ownV_nil _ _ _) ad cap us (by rw [hx, hlen]) (fun j u hj => hg0.cell (hc j u hj) (by simp)) (fun y hy => ?_) (by omega) (by simp; omega) hg0.size ?_
    · have := hu y hy
      exact ⟨this.1.part hg0 _ (Nat.le_refl _), this.2.1.part hg0 _ (Nat.le_refl _), this.2.2.part hg0 _ (Nat.le_refl _)⟩
    · intro v' w' h1 h2
      rw [List.nil_append, hul] at h1
      exact h v' w' h1 h2
/-- append(v, x) of one that is laid as a literal. -/
theorem step_append_wr1 {w : World} {ops : Array Oper} {o : Oper} {a : Act} {K : Act → World → Prop} {Q : Exit → Act → World → Prop} {E : Prop} (hgd : o.guard = none) (s x : Operand)
    (ho : o.op = .call { callee := .builtin .append, args := #[s, x], argTypes := #[26, 26] }) (w0 : World) (hg0 : w0.grownBy w none) (v : Value) (l : List Plc) (hs : a.eval s = v) (hown : OwnV w0.heap.size w0.heap.size w v l)
    (vn vk vv : Value) (p : Plc) (h1 : SliceIs w0 vn p.name) (h2 : SliceIs w0 vk p.key) (h3 : SliceIs w0 vv p.value) (nb : Nat) (hb : w.heap[nb]? = some (.cells #[vn, vk, .bool p.gone, vv] 53))
    (hx : a.eval x = .slice (some ⟨nb, 0, none⟩) 1 1) (hl : (l.length + 1) * 80 ≤ 140737488355328)
    (h : ∀ v' w', OwnV w0.heap.size w0.heap.size w' v' (l ++ [p]) → w.grownBy w' v.ownBlock → K (a.put o.dst v') w') : if Region.wanted o (yielded ops a.tmps) = true then Oper.wp Try.prog o a w K Q else E := by
  refine step_append_wrG hgd s x ho w0.heap.size v l hs hown ⟨nb, 0, none⟩ 1 [(p, vn, vk, vv)] hx (World.news_of_block (cs := #[vn, vk, .bool p.gone, vv]) hb) (fun y hy => ?_) (by simp) hl hg0.size h
  simp only [List.mem_cons, List.not_mem_nil, or_false] at hy
  subst hy
  exact ⟨h1.part hg0 _ (Nat.le_refl _), h2.part hg0 _ (Nat.le_refl _), h3.part hg0 _ (Nat.le_refl _)⟩
/-- Reads that are handed over, by their cells. -/
theorem ReadsIs.lies {w : World} {a : Option Addr} {n cap : Nat} {m : List Rd} (h : ReadsIs w (.slice a n cap) m) : n = m.length ∧ ∃ us : List RV, us.map (·.1) = m ∧ (∀ x ∈ us, SliceIs w x.2.1 x.1.name ∧ SliceIs w x.2.2.1 x.1.key ∧ SliceIs w x.2.2.2 x.1.last) ∧ ((a = none ∧ m = [] ∧ cap = 0) ∨ ∃ ad, a = some ad ∧ ∀ j u, (flatR us)[j]? = some u → w.cell? (ad.add j) = some u) := by
  obtain ⟨a', cap', e, hc, h⟩ := h
  simp only [Value.slice.injEq] at e
  obtain ⟨rfl, rfl, rfl⟩ := e
  refine ⟨rfl, ?_⟩
  rcases h with ⟨rfl, h⟩ | ⟨b, o, rfl, h⟩
  · refine ⟨[], rfl, by simp, ?_⟩
    cases a with
    | none => exact .inl ⟨rfl, rfl, h rfl⟩
    | some ad => exact .inr ⟨ad, rfl, fun j u hj => by simp [flatR] at hj⟩
  · have each : ∀ i : Nat, ∃ q : RV, i < m.length → q.1 = m.getD i noRd ∧ w.cell? ⟨b, o + i * 4, none⟩ = some q.2.1 ∧ w.cell? ⟨b, o + i * 4 + 1, none⟩ = some q.2.2.1 ∧ w.cell? ⟨b, o + i * 4 + 2, none⟩ = some (.bool q.1.wide) ∧ w.cell? ⟨b, o + i * 4 + 3, none⟩ = some q.2.2.2 ∧ SliceIs w q.2.1 q.1.name ∧ SliceIs w q.2.2.1 q.1.key ∧ SliceIs w q.2.2.2 q.1.last := by
      intro i
      by_cases hi : i < m.length
      · obtain ⟨vn, vk, vv, c1, c2, c3, c4, s1, s2, s3⟩ := h i hi
        exact ⟨(m.getD i noRd, vn, vk, vv), fun _ => ⟨rfl, c1, c2, c3, c4, s1, s2, s3⟩⟩
      · exact ⟨noRV, fun h => absurd h hi⟩
    obtain ⟨q, hq'⟩ : ∃ q : Nat → RV, ∀ i, i < m.length → (q i).1 = m.getD i noRd ∧ w.cell? ⟨b, o + i * 4, none⟩ = some (q i).2.1 ∧ w.cell? ⟨b, o + i * 4 + 1, none⟩ = some (q i).2.2.1 ∧ w.cell? ⟨b, o + i * 4 + 2, none⟩ = some (.bool (q i).1.wide) ∧ w.cell? ⟨b, o + i * 4 + 3, none⟩ = some (q i).2.2.2 ∧ SliceIs w (q i).2.1 (q i).1.name ∧ SliceIs w (q i).2.2.1 (q i).1.key ∧ SliceIs w (q i).2.2.2 (q i).1.last := ⟨fun i => Classical.choose (each i), fun i hi => Classical.choose_spec (each i) hi⟩
    refine ⟨(List.range m.length).map q, ?_, fun x hx => ?_, .inr ⟨_, rfl, fun j u hj => ?_⟩⟩
    · apply List.ext_getElem
      · simp
      · intro i h1 h2
        simp only [List.getElem_map, List.getElem_range]
        rw [(hq' i h2).1]; simp [h2]
    · obtain ⟨i, hi, rfl⟩ := List.mem_map.1 hx
      have := hq' i (List.mem_range.1 hi)
      exact ⟨this.2.2.2.2.2.1, this.2.2.2.2.2.2.1, this.2.2.2.2.2.2.2⟩
    · have hlt : j < m.length * 4 := by
        have := (List.getElem?_eq_some_iff.1 hj).1
        rw [flatR_len] at this
        simpa using this
      obtain ⟨i, k, rfl, hk⟩ : ∃ i k, j = i * 4 + k ∧ k < 4 := ⟨j / 4, j % 4, by omega, by omega⟩
      have hi : i < m.length := by omega
      have hg := flatR_get ((List.range m.length).map q) i (by simpa using hi)
      have he : ((List.range m.length).map q).getD i noRV = q i := by simp [hi]
      rw [he] at hg
      obtain ⟨_, c1, c2, c3, c4, _⟩ := hq' i hi
      rw [addr_add]
      match k, hk with
      | 0, _ => rw [Nat.add_zero] at hj ⊢; rw [hg.1] at hj; cases hj; exact c1
      | 1, _ => rw [hg.2.1] at hj; cases hj; exact c2
      | 2, _ => rw [hg.2.2.1] at hj; cases hj; exact c3
      | 3, _ => rw [hg.2.2.2] at hj; cases hj; exact c4
/-- append(v, x..) at a step of a region that draws its order, the source by its cells. -/
theorem step_append_rdG {w : World} {ops : Array Oper} {o : Oper} {a : Act} {K : Act → World → Prop} {Q : Exit → Act → World → Prop} {E : Prop} (hgd : o.guard = none) (s x : Operand)
    (ho : o.op = .call { callee := .builtin .append, args := #[s, x], argTypes := #[25, 25] }) (base : Nat) (v : Value) (l : List Rd) (hs : a.eval s = v) (hown : OwnR base base w v l)
    (ad : Addr) (cap : Nat) (us : List RV) (hx : a.eval x = .slice (some ad) us.length cap) (hc : ∀ j u, (flatR us)[j]? = some u → w.cell? (ad.add j) = some u) (hpt : ∀ y ∈ us, PartIs base w y.2.1 y.1.name ∧ PartIs base w y.2.2.1 y.1.key ∧ PartIs base w y.2.2.2 y.1.last) (h0 : 0 < us.length)
    (hl : (l.length + us.length) * 80 ≤ 140737488355328) (hbase : base ≤ w.heap.size)
    (h : ∀ v' w', OwnR base base w' v' (l ++ us.map (·.1)) → w.grownBy w' v.ownBlock → K (a.put o.dst v') w') : if Region.wanted o (yielded ops a.tmps) = true then Oper.wp Try.prog o a w K Q else E := by
  have hw : Region.wanted o (yielded ops a.tmps) = true := by simp [Region.wanted, hgd]
  rw [if_pos hw]
  obtain ⟨i0, hi, hz0, hz1, hz2⟩ := info_parts infoRd
  have hrow : v.ownBlock = none ∨ ∃ g cur t fz, v.ownBlock = some g ∧ base ≤ g ∧ w.heap[g]? = some (.cells cur t fz) ∧ t ≠ 5 := by
    rcases hown.row with h | ⟨g, cur, fz, e, e2, h⟩
    · exact .inl h
    · exact .inr ⟨g, cur, _, fz, e, e2, h, rdT5⟩
  obtain ⟨vs, hul, hr, hp⟩ := hown
  refine wp_append_lies w s x 25 ho base 40 i0 (.agg #[.slice none 0 0, .slice none 0 0, .bool false, .slice none 0 0]) 4 80 Try.underlying25 hi hz0 hz1 hz2 rfl (by decide) v l.length (flatR vs) hs hr ad us.length cap (flatR us) hx (flatR_len us) hc ?_ h0 (by unfold maxLen; omega) hl hbase _ rfl ?_
  · intro u hu
    obtain ⟨p, hp1, hp2⟩ := List.mem_flatMap.1 hu
    have := hpt p hp1
    simp only [List.mem_cons, List.not_mem_nil, or_false] at hp2
    rcases hp2 with rfl | rfl | rfl | rfl
    · exact part_oneCell this.1
    · exact part_oneCell this.2.1
    · rfl
    · exact part_oneCell this.2.2
  · intro g cap w' q1 q2 _ _
    refine h _ w' ⟨vs ++ us, by simp [hul], ?_, ?_⟩ q2
    · rw [flatR_append, List.length_append, List.length_map]; exact q1
    · intro y hy
      rcases List.mem_append.1 hy with hy | hy
      · exact ⟨(hp y hy).1.keptT q2 hrow, (hp y hy).2.1.keptT q2 hrow, (hp y hy).2.2.keptT q2 hrow⟩
      · have := hpt y hy
        exact ⟨this.1.keptT q2 hrow, this.2.1.keptT q2 hrow, this.2.2.keptT q2 hrow⟩
/-- append(nil, x..). -/
theorem step_append_rd0 {w : World} {ops : Array Oper} {o : Oper} {a : Act} {K : Act → World → Prop} {Q : Exit → Act → World → Prop} {E : Prop} (hgd : o.guard = none) (s x : Operand)
    (ho : o.op = .call { callee := .builtin .append, args := #[s, x], argTypes := #[25, 25] }) (hs : a.eval s = .slice none 0 0)
    (w0 : World) (hg0 : w0.grownBy w none) (xa : Option Addr) (cap : Nat) (m : List Rd) (hx : a.eval x = .slice xa m.length cap) (hsrc : ReadsIs w0 (.slice xa m.length cap) m) (h0 : 0 < m.length) (hl : m.length * 80 ≤ 140737488355328)
    (h : ∀ v' w', OwnR w0.heap.size w0.heap.size w' v' m → w.grownBy w' none → K (a.put o.dst v') w') : if Region.wanted o (yielded ops a.tmps) = true then Oper.wp Try.prog o a w K Q else E := by
  obtain ⟨_, us, hul, hu, hc⟩ := hsrc.lies
  have hlen : us.length = m.length := by rw [← hul]; simp
  rcases hc with ⟨_, rfl, _⟩ | ⟨ad, rfl, hc⟩
  · simp at h0
  · refine step_append_rdG hgd s x ho w0.heap.size (.slice none 0 0) [] hs (ownR_nil _ _ _) ad cap us (by rw [hx, hlen]) (fun j u hj => hg0.cell (hc j u hj) (by simp)) (fun y hy => ?_) (by omega) (by simp; omega) hg0.size ?_
    · have := hu y hy
      exact ⟨this.1.part hg0 _ (Nat.le_refl _), this.2.1.part hg0 _ (Nat.le_refl _), this.2.2.part hg0 _ (Nat.le_refl _)⟩
    · intro v' w' h1 h2
      rw [List.nil_append, hul] at h1
      exact h v' w' h1 h2
/-- append(v, x) of one that is laid as a literal. -/
theorem step_append_rd1 {w : World} {ops : Array Oper} {o : Oper} {a : Act} {K : Act → World → Prop} {Q : Exit → Act → World → Prop} {E : Prop} (hgd : o.guard = none) (s x : Operand)
    (ho : o.op = .call { callee := .builtin .append, args := #[s, x], argTypes := #[25, 25] }) (w0 : World) (hg0 : w0.grownBy w none) (v : Value) (l : List Rd) (hs : a.eval s = v) (hown : OwnR w0.heap.size w0.heap.size w v l)
    (vn vk vv : Value) (p : Rd) (h1 : SliceIs w0 vn p.name) (h2 : SliceIs w0 vk p.key) (h3 : SliceIs w0 vv p.last) (nb : Nat) (hb : w.heap[nb]? = some (.cells #[vn, vk, .bool p.wide, vv] 40))
    (hx : a.eval x = .slice (some ⟨nb, 0, none⟩) 1 1) (hl : (l.length + 1) * 80 ≤ 140737488355328)
    (h : ∀ v' w', OwnR w0.heap.size w0.heap.size w' v' (l ++ [p]) → w.grownBy w' v.ownBlock → K (a.put o.dst v') w') : if Region.wanted o (yielded ops a.tmps) = true then Oper.wp Try.prog o a w K Q else E := by
  refine step_append_rdG hgd s x ho w0.heap.size v l hs hown ⟨nb, 0, none⟩ 1 [(p, vn, vk, vv)] hx (World.news_of_block (cs := #[vn, vk, .bool p.wide, vv]) hb) (fun y hy => ?_) (by simp) hl hg0.size h
  simp only [List.mem_cons, List.not_mem_nil, or_false] at hy
  subst hy
  exact ⟨h1.part hg0 _ (Nat.le_refl _), h2.part hg0 _ (Nat.le_refl _), h3.part hg0 _ (Nat.le_refl _)⟩
theorem rdsE_dup : ∀ (rs p : List Rd) (r : Rd), rdsE p rs = 0 → readE r = 0 → (r ∈ p ∨ r ∈ rs) → rdsE p (rs ++ [r]) = 3
  | [], p, r, _, hr, h => by
    have hm : r ∈ p := by simpa using h
    show (if readE r = 0 then (if p.any (fun q => rdSame q r) = true then 3 else rdsE (p ++ [r]) []) else readE r) = 3
    rw [if_pos hr, if_pos (show p.any (fun q => rdSame q r) = true from List.any_eq_true.2 ⟨r, hm, (rdSame_iff _ _).2 rfl⟩)]
  | a :: rs, p, r, h0, hr, h => by
    rw [rdsE] at h0
    by_cases ha : readE a = 0
    · rw [if_pos ha] at h0
      by_cases hs : p.any (fun q => rdSame q a) = true
      · rw [if_pos hs] at h0; cases h0
      · rw [if_neg hs] at h0
        rw [List.cons_append, rdsE, if_pos ha, if_neg hs]
        refine rdsE_dup rs (p ++ [a]) r h0 hr ?_
        rcases h with h | h
        · exact .inl (by simp [h])
        · rcases List.mem_cons.1 h with h | h
          · exact .inl (by simp [h])
          · exact .inr h
    · rw [if_neg ha] at h0; exact absurd h0 ha
theorem wrsE_dup : ∀ (rs p : List Plc) (r : Plc), wrsE p rs = 0 → writeE r = 0 → (r ∈ p ∨ r ∈ rs) → wrsE p (rs ++ [r]) = 3
  | [], p, r, _, hr, h => by
    have hm : r ∈ p := by simpa using h
    show (if writeE r = 0 then (if p.any (fun q => plSame q r) = true then 3 else wrsE (p ++ [r]) []) else writeE r) = 3
    rw [if_pos hr, if_pos (show p.any (fun q => plSame q r) = true from List.any_eq_true.2 ⟨r, hm, (plSame_iff _ _).2 ⟨rfl, rfl⟩⟩)]
  | a :: rs, p, r, h0, hr, h => by
    rw [wrsE] at h0
    by_cases ha : writeE a = 0
    · rw [if_pos ha] at h0
      by_cases hs : p.any (fun q => plSame q a) = true
      · rw [if_pos hs] at h0; cases h0
      · rw [if_neg hs] at h0
        rw [List.cons_append, wrsE, if_pos ha, if_neg hs]
        refine wrsE_dup rs (p ++ [a]) r h0 hr ?_
        rcases h with h | h
        · exact .inl (by simp [h])
        · rcases List.mem_cons.1 h with h | h
          · exact .inl (by simp [h])
          · exact .inr h
    · rw [if_neg ha] at h0; exact absurd h0 ha
theorem twice_w {t : Tx} (h : TxOK t) (hl : t.writes.length ≤ 8) {p : Plc} (hp : p ∈ t.writes) : txE ⟨t.start, t.reads, t.writes ++ [p]⟩ = 3 := by
  have h1 := h.start
  have h2 := h.reads
  have hr := (rdsE_iff t.reads []).2 ⟨h.each, by simp, h.once⟩
  have hw := (wrsE_iff t.writes []).2 ⟨h.wrs, by simp, h.apart⟩
  show (if 0 ≤ t.start ∧ t.start ≤ 1048576 then (if 20 < t.reads.length ∨ 10 < (t.writes ++ [p]).length then 1 else (if rdsE [] t.reads = 0 then wrsE [] (t.writes ++ [p]) else rdsE [] t.reads)) else 2) = 3
  rw [if_pos h1, if_neg (by simp; omega), if_pos hr, wrsE_dup _ _ _ hw (h.wrs p hp) (.inr hp)]
theorem twice_r {t : Tx} (h : TxOK t) (hl : t.reads.length ≤ 8) {r : Rd} (hp : r ∈ t.reads) : txE ⟨t.start, t.reads ++ [r], t.writes⟩ = 3 := by
  have h1 := h.start
  have h2 := h.writes
  have hr := (rdsE_iff t.reads []).2 ⟨h.each, by simp, h.once⟩
  have hd := rdsE_dup _ _ _ hr (h.each r hp) (.inr hp)
  show (if 0 ≤ t.start ∧ t.start ≤ 1048576 then (if 20 < (t.reads ++ [r]).length ∨ 10 < t.writes.length then 1 else (if rdsE [] (t.reads ++ [r]) = 0 then wrsE [] t.writes else rdsE [] (t.reads ++ [r]))) else 2) = 3
  rw [if_pos h1, if_neg (by simp; omega), hd]; rfl
theorem plc_fitsT {q : Plc} (h : writeE q = 0) : PlcFits q := by
  obtain ⟨h1, h2, h3⟩ := (writeE_iff _).1 h
  refine ⟨by omega, by omega, ?_⟩
  by_cases hg : q.gone = true
  · rw [if_pos hg] at h3; rw [h3]; simp
  · rw [if_neg hg] at h3; omega
theorem fits_tx {t : Tx} (h0 : 0 ≤ t.start ∧ t.start ≤ 1048576) (hr : t.reads.length ≤ 20) (hw : t.writes.length ≤ 20) (h1 : ∀ r ∈ t.reads, readE r = 0) (h2 : ∀ w ∈ t.writes, writeE w = 0) : FitsX t := by
  refine ⟨by omega, ⟨by omega, fun i hi => read_fits ?_⟩, ⟨by omega, fun i hi => plc_fitsT ?_⟩⟩
  · have := h1 t.reads[i] (List.getElem_mem hi)
    rwa [show t.reads[i] = t.reads.getD i noRd by simp [hi]] at this
  · have := h2 t.writes[i] (List.getElem_mem hi)
    rwa [show t.writes[i] = t.writes.getD i noPlc by simp [hi]] at this
theorem twice_fw {t : Tx} (h : TxOK t) {p : Plc} (hp : p ∈ t.writes) : FitsX ⟨t.start, t.reads, t.writes ++ [p]⟩ := by
  have h2 := h.writes
  refine fits_tx h.start h.reads (by simp; omega) h.each fun w hw => ?_
  rcases List.mem_append.1 hw with hw | hw
  · exact h.wrs w hw
  · simp at hw; rw [hw]; exact h.wrs p hp
theorem twice_fr {t : Tx} (h : TxOK t) (hl : t.reads.length ≤ 8) {r : Rd} (hp : r ∈ t.reads) : FitsX ⟨t.start, t.reads ++ [r], t.writes⟩ := by
  have h2 := h.writes
  refine fits_tx h.start (by simp; omega) (by show t.writes.length ≤ 20; omega) (fun w hw => ?_) h.wrs
  rcases List.mem_append.1 hw with hw | hw
  · exact h.each w hw
  · simp at hw; rw [hw]; exact h.each r hp
end Go.Proofs.Ytpmfbfflacbmjac
