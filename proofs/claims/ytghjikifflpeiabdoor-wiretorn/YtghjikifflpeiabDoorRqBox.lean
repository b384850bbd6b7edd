/-
  A request in a block of its own: five cells; the table of a request's parts.
-/
import Derived.Test.YtghjikifflpeiabDoorRqMem
import Derived.Test.YtghjikifflpeiabDoorPlaceM
namespace Go.Proofs.YtghjikifflpeiabDoor
open Go.RowKit
theorem five_room {W w : World} {b : Nat} {x y z u s : Value} {t : TypeId} (hg : W.grownBy w none) (h : W.heap[b]? = some (.cells #[x, y, z, u, s] t)) :
    (w.cell? ⟨b, 0, none⟩ = some x ∧ w.cell? ⟨b, 1, none⟩ = some y ∧ w.cell? ⟨b, 2, none⟩ = some z ∧ w.cell? ⟨b, 3, none⟩ = some u ∧ w.cell? ⟨b, 4, none⟩ = some s) ∧ (w.frozen? ⟨b, 0, none⟩ = false ∧ w.frozen? ⟨b, 1, none⟩ = false ∧ w.frozen? ⟨b, 2, none⟩ = false ∧ w.frozen? ⟨b, 3, none⟩ = false ∧ w.frozen? ⟨b, 4, none⟩ = false) ∧ w.heap[b]? = some (.cells #[x, y, z, u, s] t) := by
  have hb : w.heap[b]? = some (.cells #[x, y, z, u, s] t) := by rw [hg.block b (Array.getElem?_eq_some_iff.1 h).1 (by simp)]; exact h
  refine ⟨⟨?_, ?_, ?_, ?_, ?_⟩, ⟨?_, ?_, ?_, ?_, ?_⟩, hb⟩
  all_goals simp [World.cell?, World.frozen?, hb]
theorem set_selfR {w : World} {b i : Nat} {cs : Array Value} {t : TypeId} {fz : Nat × Nat} {u : Value} (h : w.heap[b]? = some (.cells cs t fz)) : (w.setCell ⟨b, i, none⟩ u).heap[b]? = some (.cells (cs.setIfInBounds i u) t fz) := by
  simp only [World.setCell, Array.getElem?_modify, if_true, h, Option.map_some]; rfl
theorem set_apartR {w : World} {b c i : Nat} {o : Obj} {u : Value} (h : w.heap[b]? = some o) (hne : b ≠ c) : (w.setCell ⟨c, i, none⟩ u).heap[b]? = some o := by
  simp only [World.setCell, Array.getElem?_modify]
  rw [if_neg (fun e => hne e.symm)]; exact h
/-- Five stores into a block of five. -/
abbrev set5 (w : World) (b : Nat) (x y z u s : Value) : World := ((((w.setCell ⟨b, 0, none⟩ x).setCell ⟨b, 1, none⟩ y).setCell ⟨b, 2, none⟩ z).setCell ⟨b, 3, none⟩ u).setCell ⟨b, 4, none⟩ s
theorem five_set {w : World} {b : Nat} {x y z u s : Value} {t : TypeId} (h : w.heap[b]? = some (.cells #[x, y, z, u, s] t)) (x' y' z' u' s' : Value) : (set5 w b x' y' z' u' s').heap[b]? = some (.cells #[x', y', z', u', s'] t) :=
  set_selfR (set_selfR (set_selfR (set_selfR (set_selfR h))))
theorem five_grown {w W : World} {b : Nat} (hg : w.grownBy W none) (hb : w.heap.size ≤ b) (x y z u s : Value) : w.grownBy (set5 W b x y z u s) none :=
  grown_setNew (grown_setNew (grown_setNew (grown_setNew (grown_setNew hg _ hb _ _) _ hb _ _) _ hb _ _) _ hb _ _) _ hb _ _
theorem five_turn (W : World) (b : Nat) (x y z u s : Value) : W.grownBy (set5 W b x y z u s) (some b) := grown_set (grown_set (grown_set (grown_set (grown_set (grown_refl W (some b)) _ _) _ _) _ _) _ _) _ _
abbrev set4 (w : World) (b : Nat) (x y z u : Value) : World := (((w.setCell ⟨b, 0, none⟩ x).setCell ⟨b, 1, none⟩ y).setCell ⟨b, 2, none⟩ z).setCell ⟨b, 3, none⟩ u
theorem four_set {w : World} {b : Nat} {x y z u : Value} {t : TypeId} (h : w.heap[b]? = some (.cells #[x, y, z, u] t)) (x' y' z' u' : Value) : (set4 w b x' y' z' u').heap[b]? = some (.cells #[x', y', z', u'] t) := set_selfR (set_selfR (set_selfR (set_selfR h)))
theorem four_grown {w W : World} {b : Nat} (hg : w.grownBy W none) (hb : w.heap.size ≤ b) (x y z u : Value) : w.grownBy (set4 W b x y z u) none :=
  grown_setNew (grown_setNew (grown_setNew (grown_setNew hg _ hb _ _) _ hb _ _) _ hb _ _) _ hb _ _
theorem four_turn (W : World) (b : Nat) (x y z u : Value) : W.grownBy (set4 W b x y z u) (some b) := grown_set (grown_set (grown_set (grown_set (grown_refl W (some b)) _ _) _ _) _ _) _ _
/-- What is the call's own, from a later block on, stands while an elder block turns. -/
theorem Own.later {base : Nat} {w w' : World} {v : Value} {bs : List UInt8} (h : Own base w v bs) {b : Nat} (hg : w.grownBy w' (some b)) (hb : b < base) : Own base w' v bs := by
  refine h.grown hg (.inr fun e => ?_)
  have := (h.lt b e).1
  omega
/-- The table of a request's parts. -/
def partN (i : Nat) : Nat := [0, 0, 3, 7, 11, 3, 0, 0, 3].getD i 0
def PrtT (w : World) : Prop := ∀ i, i < 9 → w.cell? ⟨0, i, none⟩ = some (.int .u8 ((partN i : Nat) : Int))
theorem PrtT.grown {w w' : World} (h : PrtT w) (hg : w.grownBy w' none) : PrtT w' := fun i hi => hg.cell (h i hi) (by simp)
/-- Has a kind this part? -/
def hasP (k : Int) : Nat → Bool
  | 0 => namedK k
  | 1 => namedK k
  | 2 => decide (k = 3)
  | _ => decide (k = 4)
theorem has_tab (k j : Nat) (hk : k < 9) (hj : j < 4) : (bits BinOp.and IntKind.u8 ((partN k : Nat) : Int) ((2 ^ j : Nat) : Int) != 0) = hasP (k : Int) j :=
  (by decide +kernel : ∀ (k : Fin 9) (j : Fin 4), (bits BinOp.and IntKind.u8 ((partN k.1 : Nat) : Int) ((2 ^ j.1 : Nat) : Int) != 0) = hasP (k.1 : Int) j.1) ⟨k, hk⟩ ⟨j, hj⟩
end Go.Proofs.YtghjikifflpeiabDoor
