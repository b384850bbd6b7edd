/-
  Writes and places in memory: structs of three slices of bytes and a bool.
-/
import Derived.Test.YtpefggkhjocanabBase
import Derived.Test.YtpefggkhjocanabKeys
namespace Go.Proofs.Ytpefggkhjocanab
open Go.RowKit
/-- A place in raw bytes: its name, its key, its value, and whether it is to be gone. -/
structure Plc where
  name : List UInt8
  key : List UInt8
  value : List UInt8
  gone : Bool
def nameF (bs : List UInt8) : List UInt8 := if bs.length = 0 then [0] else bs.take 8
theorem nameF_len (bs : List UInt8) : 1 ≤ (nameF bs).length ∧ (nameF bs).length ≤ 8 := by
  unfold nameF
  by_cases h : bs.length = 0
  · rw [if_pos h]; simp
  · rw [if_neg h]; simp; omega
/-- A write out of a place. -/
def writeF (p : Plc) : Plc := ⟨nameF p.name, keyF p.key, if p.gone = true then [] else p.value.take 32, p.gone⟩
theorem writeF_len (p : Plc) : (1 ≤ (writeF p).name.length ∧ (writeF p).name.length ≤ 8) ∧ (1 ≤ (writeF p).key.length ∧ (writeF p).key.length ≤ 16) ∧ (writeF p).value.length ≤ 32 := by
  refine ⟨nameF_len _, keyF_len _, ?_⟩
  show (if p.gone = true then [] else p.value.take 32).length ≤ 32
  by_cases h : p.gone = true
  · rw [if_pos h]; simp
  · rw [if_neg h]; simp; omega
/-- What fits into memory. -/
def PlcFits (p : Plc) : Prop := p.name.length ≤ 140737488355328 ∧ p.key.length ≤ 140737488355328 ∧ p.value.length ≤ 140737488355328
def noPlc : Plc := ⟨[], [], [], false⟩
/-- A place, as a value. -/
def PlaceIs (w : World) (v : Value) (p : Plc) : Prop := ∃ vn vk vv, v = .agg #[vn, vk, vv, .bool p.gone] ∧ SliceIs w vn p.name ∧ SliceIs w vk p.key ∧ SliceIs w vv p.value
theorem PlaceIs.grown {w w' : World} {v : Value} {p : Plc} (h : PlaceIs w v p) (hg : w.grownBy w' none) : PlaceIs w' v p := by
  obtain ⟨vn, vk, vv, rfl, h1, h2, h3⟩ := h
  exact ⟨vn, vk, vv, rfl, h1.grown hg, h2.grown hg, h3.grown hg⟩
/-- The place that lies at an address. -/
def PlaceAt (w : World) (b o : Nat) (p : Plc) : Prop := ∃ vn vk vv, w.cell? ⟨b, o, none⟩ = some vn ∧ w.cell? ⟨b, o + 1, none⟩ = some vk ∧ w.cell? ⟨b, o + 2, none⟩ = some vv ∧ w.cell? ⟨b, o + 3, none⟩ = some (.bool p.gone) ∧ SliceIs w vn p.name ∧ SliceIs w vk p.key ∧ SliceIs w vv p.value
theorem PlaceAt.grown {w w' : World} {b o : Nat} {p : Plc} (h : PlaceAt w b o p) (hg : w.grownBy w' none) : PlaceAt w' b o p := by
  obtain ⟨vn, vk, vv, c1, c2, c3, c4, h1, h2, h3⟩ := h
  exact ⟨vn, vk, vv, hg.cell c1 (by simp), hg.cell c2 (by simp), hg.cell c3 (by simp), hg.cell c4 (by simp), h1.grown hg, h2.grown hg, h3.grown hg⟩
/-- A list of places, as it is handed over. -/
def PlacesIs (w : World) (v : Value) (l : List Plc) : Prop :=
  ∃ a cap, v = .slice a l.length cap ∧ l.length ≤ cap ∧ (l = [] ∨ ∃ b o, a = some ⟨b, o, none⟩ ∧ ∀ i, i < l.length → PlaceAt w b (o + i * 4) (l.getD i noPlc))
theorem PlacesIs.shape {w : World} {v : Value} {l : List Plc} (h : PlacesIs w v l) : ∃ a cap, v = .slice a l.length cap := by
  obtain ⟨a, cap, rfl, _⟩ := h
  exact ⟨a, cap, rfl⟩
theorem PlacesIs.grown {w w' : World} {v : Value} {l : List Plc} (h : PlacesIs w v l) (hg : w.grownBy w' none) : PlacesIs w' v l := by
  obtain ⟨a, cap, rfl, hc, h⟩ := h
  refine ⟨a, cap, rfl, hc, ?_⟩
  rcases h with h | ⟨b, o, rfl, h⟩
  · exact .inl h
  · exact .inr ⟨b, o, rfl, fun i hi => (h i hi).grown hg⟩
theorem PlacesIs.at {w : World} {a : Option Addr} {n cap : Nat} {l : List Plc} (h : PlacesIs w (.slice a n cap) l) (i : Nat) (hi : i < l.length) : ∃ b o, a = some ⟨b, o, none⟩ ∧ PlaceAt w b (o + i * 4) (l.getD i noPlc) := by
  obtain ⟨a', cap', e, hc, h⟩ := h
  simp only [Value.slice.injEq] at e
  obtain ⟨rfl, rfl, rfl⟩ := e
  rcases h with rfl | ⟨b, o, rfl, h⟩
  · simp at hi
  · exact ⟨b, o, rfl, h i hi⟩
/-- Four cells of a block. -/
theorem quad_room {W w : World} {b : Nat} {x y z u : Value} {t : TypeId} (hg : W.grownBy w none) (h : W.heap[b]? = some (.cells #[x, y, z, u] t)) :
    (w.cell? ⟨b, 0, none⟩ = some x ∧ w.cell? ⟨b, 1, none⟩ = some y ∧ w.cell? ⟨b, 2, none⟩ = some z ∧ w.cell? ⟨b, 3, none⟩ = some u) ∧ w.frozen? ⟨b, 0, none⟩ = false ∧ w.frozen? ⟨b, 1, none⟩ = false ∧ w.frozen? ⟨b, 2, none⟩ = false ∧ w.frozen? ⟨b, 3, none⟩ = false ∧ w.heap[b]? = some (.cells #[x, y, z, u] t) := by
  have hb : w.heap[b]? = some (.cells #[x, y, z, u] t) := by rw [hg.block b (Array.getElem?_eq_some_iff.1 h).1 (by simp)]; exact h
  refine ⟨⟨?_, ?_, ?_, ?_⟩, ?_, ?_, ?_, ?_, hb⟩
  all_goals simp [World.cell?, World.frozen?, hb]
theorem quad_elim {W w : World} {b : Nat} {x y z u : Value} {t : TypeId} (hg : W.grownBy w none) (h : W.heap[b]? = some (.cells #[x, y, z, u] t)) {G : Prop}
    (k : w.heap[b]? = some (.cells #[x, y, z, u] t) → w.cell? ⟨b, 0, none⟩ = some x → w.cell? ⟨b, 1, none⟩ = some y → w.cell? ⟨b, 2, none⟩ = some z → w.cell? ⟨b, 3, none⟩ = some u → w.frozen? ⟨b, 0, none⟩ = false → w.frozen? ⟨b, 1, none⟩ = false → w.frozen? ⟨b, 2, none⟩ = false → w.frozen? ⟨b, 3, none⟩ = false → G) : G := by
  obtain ⟨⟨h1, h2, h3, h4⟩, f1, f2, f3, f4, hb⟩ := quad_room hg h
  exact k hb h1 h2 h3 h4 f1 f2 f3 f4
/-- Four stores into a block of four. -/
theorem quad_set {w : World} {b : Nat} {x y z u : Value} {t : TypeId} (h : w.heap[b]? = some (.cells #[x, y, z, u] t)) (x' y' z' u' : Value) :
    ((((w.setCell ⟨b, 0, none⟩ x').setCell ⟨b, 1, none⟩ y').setCell ⟨b, 2, none⟩ z').setCell ⟨b, 3, none⟩ u').heap[b]? = some (.cells #[x', y', z', u'] t) ∧
    (w.setCell ⟨b, 0, none⟩ x').cell? ⟨b, 0, none⟩ = some x' ∧ ((w.setCell ⟨b, 0, none⟩ x').setCell ⟨b, 1, none⟩ y').cell? ⟨b, 1, none⟩ = some y' ∧ (((w.setCell ⟨b, 0, none⟩ x').setCell ⟨b, 1, none⟩ y').setCell ⟨b, 2, none⟩ z').cell? ⟨b, 2, none⟩ = some z' ∧ ((((w.setCell ⟨b, 0, none⟩ x').setCell ⟨b, 1, none⟩ y').setCell ⟨b, 2, none⟩ z').setCell ⟨b, 3, none⟩ u').cell? ⟨b, 3, none⟩ = some u' := by
  have h0 : (w.setCell ⟨b, 0, none⟩ x').heap[b]? = some (.cells #[x', y, z, u] t) := by
    simp only [World.setCell, Array.getElem?_modify, if_true, h, Option.map_some]; first | rfl | simp
  have h1 : ((w.setCell ⟨b, 0, none⟩ x').setCell ⟨b, 1, none⟩ y').heap[b]? = some (.cells #[x', y', z, u] t) := by
    rw [World.setCell, Array.getElem?_modify, if_pos rfl, h0]; first | rfl | simp
  have h2 : (((w.setCell ⟨b, 0, none⟩ x').setCell ⟨b, 1, none⟩ y').setCell ⟨b, 2, none⟩ z').heap[b]? = some (.cells #[x', y', z', u] t) := by
    rw [World.setCell, Array.getElem?_modify, if_pos rfl, h1]; first | rfl | simp
  have h3 : ((((w.setCell ⟨b, 0, none⟩ x').setCell ⟨b, 1, none⟩ y').setCell ⟨b, 2, none⟩ z').setCell ⟨b, 3, none⟩ u').heap[b]? = some (.cells #[x', y', z', u'] t) := by
    rw [World.setCell, Array.getElem?_modify, if_pos rfl, h2]; first | rfl | simp
  exact ⟨h3, by simp [World.cell?, h0], by simp [World.cell?, h1], by simp [World.cell?, h2], by simp [World.cell?, h3]⟩
theorem quad_last {w : World} {b : Nat} {x y z u : Value} {t : TypeId} (h : w.heap[b]? = some (.cells #[x, y, z, u] t)) (u' : Value) : (w.setCell ⟨b, 3, none⟩ u').heap[b]? = some (.cells #[x, y, z, u'] t) := by
  simp only [World.setCell, Array.getElem?_modify, if_true, h, Option.map_some]; first | rfl | simp
/-- Bytes of the call's own stay while a block of another type turns. -/
theorem Own.setBlk {base : Nat} {w : World} {v : Value} {bs : List UInt8} (h : Own base w v bs) {b : Nat} {cur : Array Value} {t : TypeId} {fz : Nat × Nat} (hb : w.heap[b]? = some (.cells cur t fz)) (ht : t ≠ 5) (i : Nat) (u : Value) : Own base (w.setCell ⟨b, i, none⟩ u) v bs := by
  refine h.grown (row := some b) (grown_set (grown_refl _ _) i u) ?_
  rcases h.2 with ⟨rfl, _⟩ | ⟨g, cap, cur2, rfl, _, hg, _⟩
  · exact .inl rfl
  · right
    intro e
    simp [Value.ownBlock] at e
    subst e
    rw [hg] at hb
    simp at hb
    exact ht hb.2.1.symm
theorem setCell_type {w : World} {b i : Nat} {u : Value} {cur : Array Value} {t : TypeId} {fz : Nat × Nat} (hb : w.heap[b]? = some (.cells cur t fz)) : ∃ cur', (w.setCell ⟨b, i, none⟩ u).heap[b]? = some (.cells cur' t fz) := by
  refine ⟨cur.setIfInBounds i u, ?_⟩
  simp only [World.setCell, Array.getElem?_modify, if_true, hb, Option.map_some]
  first | rfl | simp
theorem Own.setQuad {base : Nat} {w : World} {v : Value} {bs : List UInt8} (h : Own base w v bs) {b : Nat} {cur : Array Value} {t : TypeId} {fz : Nat × Nat} (hb : w.heap[b]? = some (.cells cur t fz)) (ht : t ≠ 5) (x y z u : Value) : Own base ((((w.setCell ⟨b, 0, none⟩ x).setCell ⟨b, 1, none⟩ y).setCell ⟨b, 2, none⟩ z).setCell ⟨b, 3, none⟩ u) v bs := by
  obtain ⟨c1, h1⟩ := setCell_type (i := 0) (u := x) hb
  obtain ⟨c2, h2⟩ := setCell_type (i := 1) (u := y) h1
  obtain ⟨c3, h3⟩ := setCell_type (i := 2) (u := z) h2
  exact (((h.setBlk hb ht 0 x).setBlk h1 ht 1 y).setBlk h2 ht 2 z).setBlk h3 ht 3 u
theorem grown_quad {w w1 : World} (h : w.grownBy w1 none) (b : Nat) (hb : w.heap.size ≤ b) (x y z u : Value) : w.grownBy ((((w1.setCell ⟨b, 0, none⟩ x).setCell ⟨b, 1, none⟩ y).setCell ⟨b, 2, none⟩ z).setCell ⟨b, 3, none⟩ u) none :=
  grown_setNew (grown_setNew (grown_setNew (grown_setNew h _ hb _ _) _ hb _ _) _ hb _ _) _ hb _ _
end Go.Proofs.Ytpefggkhjocanab
