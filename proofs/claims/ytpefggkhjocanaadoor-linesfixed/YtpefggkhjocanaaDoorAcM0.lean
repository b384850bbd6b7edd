/-
  Acts in memory: structs of three numbers and bytes.
-/
import Derived.Test.YtpefggkhjocanaaDoorLineF
import Derived.Test.YtpefggkhjocanaaDoorPartM
import Derived.Test.YtpefggkhjocanaaDoorPlaceM
import Derived.Deep.AppendLies
namespace Go.Proofs.YtpefggkhjocanaaDoor
open Go.RowKit
/-- An act, as a value; one that lies at a place; a list of acts, as it is handed over. -/
def AcIs (w : World) (v : Value) (a : Ac) : Prop := ∃ vd, v = .agg #[.int .i64 a.kind, .int .i64 a.sess, .int .i64 a.keep, vd] ∧ SliceIs w vd a.data
theorem AcIs.grown {w w' : World} {v : Value} {a : Ac} (h : AcIs w v a) (hg : w.grownBy w' none) : AcIs w' v a := by
  obtain ⟨vd, rfl, h1⟩ := h
  exact ⟨vd, rfl, h1.grown hg⟩
theorem AcIs.agg {w : World} {v : Value} {a : Ac} (h : AcIs w v a) : ∃ da dc, v = .agg #[.int .i64 a.kind, .int .i64 a.sess, .int .i64 a.keep, .slice da a.data.length dc] ∧ SliceIs w (.slice da a.data.length dc) a.data := by
  obtain ⟨vd, rfl, h1⟩ := h
  obtain ⟨da, dc, rfl⟩ := h1.shape
  exact ⟨da, dc, rfl, h1⟩
theorem acIs_no (w : World) : AcIs w (.agg #[.int .i64 0, .int .i64 0, .int .i64 0, .slice none 0 0]) noAc := ⟨_, rfl, sliceIs_nil w⟩
def ActAt (w : World) (b o : Nat) (a : Ac) : Prop := ∃ vd, w.cell? ⟨b, o, none⟩ = some (.int .i64 a.kind) ∧ w.cell? ⟨b, o + 1, none⟩ = some (.int .i64 a.sess) ∧ w.cell? ⟨b, o + 2, none⟩ = some (.int .i64 a.keep) ∧ w.cell? ⟨b, o + 3, none⟩ = some vd ∧ SliceIs w vd a.data
theorem ActAt.grown {w w' : World} {b o : Nat} {a : Ac} (h : ActAt w b o a) (hg : w.grownBy w' none) : ActAt w' b o a := by
  obtain ⟨vd, c1, c2, c3, c4, h1⟩ := h
  exact ⟨vd, hg.cell c1 (by simp), hg.cell c2 (by simp), hg.cell c3 (by simp), hg.cell c4 (by simp), h1.grown hg⟩
def ActsIs (w : World) (v : Value) (l : List Ac) : Prop :=
  ∃ a cap, v = .slice a l.length cap ∧ l.length ≤ cap ∧ ((l = [] ∧ (a = none → cap = 0)) ∨ ∃ b o, a = some ⟨b, o, none⟩ ∧ ∀ i, i < l.length → ActAt w b (o + i * 4) (l.getD i noAc))
theorem actsIs_nil (w : World) : ActsIs w (.slice none 0 0) [] := ⟨none, 0, rfl, Nat.le_refl _, .inl ⟨rfl, fun _ => rfl⟩⟩
theorem ActsIs.shape {w : World} {v : Value} {l : List Ac} (h : ActsIs w v l) : ∃ a cap, v = .slice a l.length cap := by
  obtain ⟨a, cap, rfl, _⟩ := h
  exact ⟨a, cap, rfl⟩
theorem ActsIs.grown {w w' : World} {v : Value} {l : List Ac} (h : ActsIs w v l) (hg : w.grownBy w' none) : ActsIs w' v l := by
  obtain ⟨a, cap, rfl, hc, h⟩ := h
  refine ⟨a, cap, rfl, hc, ?_⟩
  rcases h with h | ⟨b, o, rfl, h⟩
  · exact .inl h
  · exact .inr ⟨b, o, rfl, fun i hi => (h i hi).grown hg⟩
theorem ActsIs.at {w : World} {a : Option Addr} {n cap : Nat} {l : List Ac} (h : ActsIs w (.slice a n cap) l) (i : Nat) (hi : i < l.length) : ∃ b o, a = some ⟨b, o, none⟩ ∧ ActAt w b (o + i * 4) (l.getD i noAc) := by
  obtain ⟨a', cap', e, hc, h⟩ := h
  simp only [Value.slice.injEq] at e
  obtain ⟨rfl, rfl, rfl⟩ := e
  rcases h with ⟨rfl, _⟩ | ⟨b, o, rfl, h⟩
  · simp at hi
  · exact ⟨b, o, rfl, h i hi⟩
/-- What came in fits into memory. -/
structure AcFits (a : Ac) : Prop where
  kind : -9223372036854775808 ≤ a.kind ∧ a.kind ≤ 9223372036854775807
  sess : -9223372036854775808 ≤ a.sess ∧ a.sess ≤ 9223372036854775807
  keep : -9223372036854775808 ≤ a.keep ∧ a.keep ≤ 9223372036854775807
  data : a.data.length ≤ 140737488355328
structure FitsA (l : List Ac) : Prop where
  many : l.length * 48 ≤ 140737488355328
  each : ∀ i, i < l.length → AcFits (l.getD i noAc)
theorem ac_fits {a : Ac} (h : ActOK a) : AcFits a := by
  have h0 := h.kind
  have h1 := h.data
  have h2 : 0 ≤ a.sess ∧ a.sess ≤ 7 := by
    by_cases e : a.kind = 1
    · exact h.sess e
    · rw [h.noSess e]; omega
  have h3 : 0 ≤ a.keep ∧ a.keep ≤ 200000 := by
    by_cases e : a.kind = 3
    · exact h.keep e
    · rw [h.noKeep e]; omega
  exact ⟨by omega, by omega, by omega, by omega⟩
/-- A list of acts of the call's own, from block rb on; its bytes lie in blocks of bytes. -/
abbrev AV := Ac × Value
def noAV : AV := (noAc, undef)
def flatA (us : List AV) : List Value := us.flatMap fun x => [.int .i64 x.1.kind, .int .i64 x.1.sess, .int .i64 x.1.keep, x.2]
theorem flatA_len (us : List AV) : (flatA us).length = us.length * 4 := by
  induction us with
  | nil => rfl
  | cons x us ih => rw [flatA, List.flatMap_cons, List.length_append, ← flatA, ih, List.length_cons]; simp; omega
theorem flatA_append (a b : List AV) : flatA (a ++ b) = flatA a ++ flatA b := by simp [flatA]
theorem flatA_get : ∀ (us : List AV) (i : Nat), i < us.length → (flatA us)[i * 4]? = some (.int .i64 (us.getD i noAV).1.kind) ∧ (flatA us)[i * 4 + 1]? = some (.int .i64 (us.getD i noAV).1.sess) ∧ (flatA us)[i * 4 + 2]? = some (.int .i64 (us.getD i noAV).1.keep) ∧ (flatA us)[i * 4 + 3]? = some (us.getD i noAV).2
  | [], i, h => by simp at h
  | x :: us, 0, _ => ⟨rfl, rfl, rfl, rfl⟩
  | x :: us, i + 1, h => by
    have := flatA_get us i (by simpa using h)
    rw [show (i + 1) * 4 = i * 4 + 4 by omega]
    exact this
theorem acT5 : (36 : Nat) ≠ 5 := by decide
def OwnA (rb : Nat) (w : World) (v : Value) (l : List Ac) : Prop :=
  ∃ us : List AV, us.map (·.1) = l ∧ w.ownsRow rb 36 4 v l.length (flatA us) ∧ ∀ x ∈ us, PartIs 0 w x.2 x.1.data
theorem ownA_nil (rb : Nat) (w : World) : OwnA rb w (.slice none 0 0) [] := ⟨[], rfl, World.ownsRow_nil _ _ _ _, fun x hx => by simp at hx⟩
theorem OwnA.row {rb : Nat} {w : World} {v : Value} {l : List Ac} (h : OwnA rb w v l) : v.ownBlock = none ∨ ∃ g cur fz, v.ownBlock = some g ∧ rb ≤ g ∧ w.heap[g]? = some (.cells cur 36 fz) := by
  obtain ⟨us, _, h, _⟩ := h
  rcases h.2 with ⟨rfl, _⟩ | ⟨g, cap, cur, rfl, hb, hg, _⟩
  · exact .inl rfl
  · exact .inr ⟨g, cur, _, rfl, hb, hg⟩
theorem OwnA.lt {rb : Nat} {w : World} {v : Value} {l : List Ac} (h : OwnA rb w v l) : ∀ k, v.ownBlock = some k → rb ≤ k ∧ k < w.heap.size := by
  obtain ⟨us, _, h, _⟩ := h
  exact World.ownsRow.lt h
theorem OwnA.grownNone {rb : Nat} {w w' : World} {v : Value} {l : List Ac} (h : OwnA rb w v l) (hg : w.grownBy w' none) : OwnA rb w' v l := by
  obtain ⟨us, h1, h2, h3⟩ := h
  refine ⟨us, h1, World.ownsRow.kept h2 hg ?_, fun x hx => (h3 x hx).keptT hg (.inl rfl)⟩
  cases hv : v.ownBlock with
  | none => exact .inl rfl
  | some k => exact .inr (by simp)
theorem OwnA.alloc {rb : Nat} {w : World} {v : Value} {l : List Ac} (h : OwnA rb w v l) (o : Obj) : OwnA rb (w.alloc o) v l := h.grownNone (World.grownBy_alloc _ _ _)
/-- It stands while another block (no bytes) ahead of it turns. -/
theorem OwnA.later {rb : Nat} {w w' : World} {v : Value} {l : List Ac} (h : OwnA rb w v l) {b : Nat} {cs : Array Value} {t : TypeId} {fz : Nat × Nat} (hb : w.heap[b]? = some (.cells cs t fz)) (ht : t ≠ 5) (hg : w.grownBy w' (some b)) (hlt : b < rb) : OwnA rb w' v l := by
  have hne : v.ownBlock = none ∨ v.ownBlock ≠ some b := .inr fun e => by have := (h.lt b e).1; omega
  obtain ⟨us, h1, h2, h3⟩ := h
  exact ⟨us, h1, World.ownsRow.kept h2 hg hne, fun x hx => (h3 x hx).keptT hg (.inr ⟨b, cs, t, fz, rfl, Nat.zero_le _, hb, ht⟩)⟩
theorem OwnA.shape {rb : Nat} {w : World} {v : Value} {l : List Ac} (h : OwnA rb w v l) : ∃ a cap, v = .slice a l.length cap := by
  obtain ⟨us, _, h, _⟩ := h
  rcases h.2 with ⟨rfl, h0⟩ | ⟨g, cap, cur, rfl, _⟩
  · exact ⟨none, 0, by rw [h0]⟩
  · exact ⟨_, cap, rfl⟩
theorem mapA_getD {us : List AV} {l : List Ac} (h : us.map (·.1) = l) (i : Nat) (hi : i < l.length) : (us.getD i noAV).1 = l.getD i noAc ∧ us.getD i noAV ∈ us := by
  subst h
  have hi' : i < us.length := by simpa using hi
  refine ⟨by simp [hi'], ?_⟩
  rw [show us.getD i noAV = us[i] by simp [hi']]
  exact List.getElem_mem hi'
theorem OwnA.list {rb : Nat} {w : World} {v : Value} {l : List Ac} (h : OwnA rb w v l) : ActsIs w v l := by
  obtain ⟨us, hl, hr, h3⟩ := h
  rcases hr.2 with ⟨rfl, h0⟩ | ⟨g, cap, cur, rfl, hb, hg, hn, hm, hs, ht⟩
  · have : l = [] := List.eq_nil_of_length_eq_zero h0
    rw [this]
    exact actsIs_nil w
  · have hcell : ∀ j u, (flatA us)[j]? = some u → w.cell? ⟨g, j, none⟩ = some u := by
      intro j u hj
      have hlt : j < l.length * 4 := by
        have := (List.getElem?_eq_some_iff.1 hj).1
        rw [hr.1] at this
        exact this
      have e2 : (cur.toList.take (l.length * 4))[j]? = (flatA us)[j]? := by rw [ht]
      rw [List.getElem?_take, if_pos hlt, hj] at e2
      simp [World.cell?, hg]
      simpa using e2
    refine ⟨_, cap, rfl, hn, .inr ⟨g, 0, rfl, fun i hi => ?_⟩⟩
    obtain ⟨e1, e2⟩ := mapA_getD hl i hi
    have hlen : us.length = l.length := by rw [← hl]; simp
    obtain ⟨c1, c2, c3, c4⟩ := flatA_get us i (by omega)
    have hp := h3 _ e2
    rw [e1] at c1 c2 c3 hp
    rw [Nat.zero_add]
    exact ⟨_, hcell _ _ c1, hcell _ _ c2, hcell _ _ c3, hcell _ _ c4, hp.1⟩
theorem grown_ownA {rb : Nat} {w W w1 : World} {v : Value} {l : List Ac} (h : w.grownBy W none) (ho : OwnA rb W v l) (hb : w.heap.size ≤ rb) (hg : W.grownBy w1 v.ownBlock) : w.grownBy w1 none :=
  ⟨hg.os.trans h.os, hg.tape.trans h.tape, hg.output.trans h.output, Nat.le_trans h.size hg.size, fun i hi hn => (hg.block i (Nat.lt_of_lt_of_le hi h.size) (fun e => by have := (ho.lt i e.symm).1; omega)).trans (h.block i hi hn)⟩
theorem infoAc : (Tryd.prog.info? 36).map (fun i => (i.zero, i.size, i.bytes)) = some (some (.agg #[.int .i64 0, .int .i64 0, .int .i64 0, .slice none 0 0]), 4, 48) := by kernel_rfl
end Go.Proofs.YtpefggkhjocanaaDoor
