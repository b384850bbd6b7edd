/-
  Writes in memory, as they are handed over.
-/
import Derived.Test.YtghjikifflpeiabDoorSlM
import Derived.Test.YtghjikifflpeiabDoorPlaceM
namespace Go.Proofs.YtghjikifflpeiabDoor
open Go.RowKit
/-- A write, as a value. -/
def WriteIs (w : World) (v : Value) (p : Plc) : Prop := ∃ vn vk vv, v = .agg #[vn, vk, .bool p.gone, vv] ∧ SliceIs w vn p.name ∧ SliceIs w vk p.key ∧ SliceIs w vv p.value
theorem WriteIs.grown {w w' : World} {v : Value} {p : Plc} (h : WriteIs w v p) (hg : w.grownBy w' none) : WriteIs w' v p := by
  obtain ⟨vn, vk, vv, rfl, h1, h2, h3⟩ := h
  exact ⟨vn, vk, vv, rfl, h1.grown hg, h2.grown hg, h3.grown hg⟩
theorem WriteIs.aggW {w : World} {v : Value} {p : Plc} (h : WriteIs w v p) : ∃ na nc ka kc va vc, v = .agg #[.slice na p.name.length nc, .slice ka p.key.length kc, .bool p.gone, .slice va p.value.length vc] := by
  obtain ⟨vn, vk, vv, rfl, h1, h2, h3⟩ := h
  obtain ⟨na, nc, rfl⟩ := h1.shape
  obtain ⟨ka, kc, rfl⟩ := h2.shape
  obtain ⟨va, vc, rfl⟩ := h3.shape
  exact ⟨na, nc, ka, kc, va, vc, rfl⟩
/-- The write that lies at a place. -/
def WriteAt (w : World) (b o : Nat) (p : Plc) : Prop := ∃ vn vk vv, w.cell? ⟨b, o, none⟩ = some vn ∧ w.cell? ⟨b, o + 1, none⟩ = some vk ∧ w.cell? ⟨b, o + 2, none⟩ = some (.bool p.gone) ∧ w.cell? ⟨b, o + 3, none⟩ = some vv ∧ SliceIs w vn p.name ∧ SliceIs w vk p.key ∧ SliceIs w vv p.value
theorem WriteAt.grown {w w' : World} {b o : Nat} {p : Plc} (h : WriteAt w b o p) (hg : w.grownBy w' none) : WriteAt w' b o p := by
  obtain ⟨vn, vk, vv, c1, c2, c3, c4, h1, h2, h3⟩ := h
  exact ⟨vn, vk, vv, hg.cell c1 (by simp), hg.cell c2 (by simp), hg.cell c3 (by simp), hg.cell c4 (by simp), h1.grown hg, h2.grown hg, h3.grown hg⟩
/-- A list of writes, as it is handed over. -/
def WritesIs (w : World) (v : Value) (l : List Plc) : Prop :=
  ∃ a cap, v = .slice a l.length cap ∧ l.length ≤ cap ∧ ((l = [] ∧ (a = none → cap = 0)) ∨ ∃ b o, a = some ⟨b, o, none⟩ ∧ ∀ i, i < l.length → WriteAt w b (o + i * 4) (l.getD i noPlc))
theorem writesIs_nil (w : World) : WritesIs w (.slice none 0 0) [] := ⟨none, 0, rfl, Nat.le_refl _, .inl ⟨rfl, fun _ => rfl⟩⟩
theorem WritesIs.shape {w : World} {v : Value} {l : List Plc} (h : WritesIs w v l) : ∃ a cap, v = .slice a l.length cap := by
  obtain ⟨a, cap, rfl, _⟩ := h
  exact ⟨a, cap, rfl⟩
theorem WritesIs.grown {w w' : World} {v : Value} {l : List Plc} (h : WritesIs w v l) (hg : w.grownBy w' none) : WritesIs w' v l := by
  obtain ⟨a, cap, rfl, hc, h⟩ := h
  refine ⟨a, cap, rfl, hc, ?_⟩
  rcases h with h | ⟨b, o, rfl, h⟩
  · exact .inl h
  · exact .inr ⟨b, o, rfl, fun i hi => (h i hi).grown hg⟩
theorem WritesIs.at {w : World} {a : Option Addr} {n cap : Nat} {l : List Plc} (h : WritesIs w (.slice a n cap) l) (i : Nat) (hi : i < l.length) : ∃ b o, a = some ⟨b, o, none⟩ ∧ WriteAt w b (o + i * 4) (l.getD i noPlc) := by
  obtain ⟨a', cap', e, hc, h⟩ := h
  simp only [Value.slice.injEq] at e
  obtain ⟨rfl, rfl, rfl⟩ := e
  rcases h with ⟨rfl, _⟩ | ⟨b, o, rfl, h⟩
  · simp at hi
  · exact ⟨b, o, rfl, h i hi⟩
structure FitsW (l : List Plc) : Prop where
  many : l.length * 80 ≤ 140737488355328
  each : ∀ i, i < l.length → PlcFits (l.getD i noPlc)
theorem FitsW.len {l : List Plc} (h : FitsW l) : l.length ≤ 140737488355328 := by have := h.many; omega
end Go.Proofs.YtghjikifflpeiabDoor
