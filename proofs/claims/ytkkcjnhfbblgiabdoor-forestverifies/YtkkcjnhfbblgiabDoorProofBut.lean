/-
  A block that holds no number turns: bytes, steps and proofs stand.
-/
import Derived.Test.YtkkcjnhfbblgiabDoorStepMem
import Derived.Test.YtkkcjnhfbblgiabDoorPart2
import Derived.Laws.CopyRow
namespace Go.Proofs.YtkkcjnhfbblgiabDoor
open Go.RowKit
/-- A block whose cells are no numbers. -/
def NoInt (w : World) (c : Nat) : Prop := ∀ i k q, w.cell? ⟨c, i, none⟩ ≠ some (.int k q)
/-- Two worlds that differ in a block alone. -/
def SameBut (w w' : World) (c : Nat) : Prop := ∀ x : Addr, x.block ≠ c → w'.cell? x = w.cell? x
theorem sameBut_refl (w : World) (c : Nat) : SameBut w w c := fun _ _ => rfl
theorem SameBut.set {w w' : World} {c : Nat} (h : SameBut w w' c) (i : Nat) (u : Value) : SameBut w (w'.setCell ⟨c, i, none⟩ u) c := fun x hx => by
  rw [World.cell?_setCell_other _ _ _ _ (fun e => hx (congrArg Addr.block e).symm)]
  exact h x hx
theorem sameBut_four (w : World) (c : Nat) (a b d e : Value) : SameBut w ((((w.setCell ⟨c, 0, none⟩ a).setCell ⟨c, 1, none⟩ b).setCell ⟨c, 2, none⟩ d).setCell ⟨c, 3, none⟩ e) c := ((((sameBut_refl w c).set 0 a).set 1 b).set 2 d).set 3 e
theorem noInt_quad {w : World} {c : Nat} {e : Bool} {sa ka va : Option Addr} {sn sc kn kc vn vc : Nat} {t : TypeId} (h : w.heap[c]? = some (.cells #[.bool e, .slice sa sn sc, .slice ka kn kc, .slice va vn vc] t)) : NoInt w c := by
  intro i k q hq
  match i with
  | 0 => simp [World.cell?, h] at hq
  | 1 => simp [World.cell?, h] at hq
  | 2 => simp [World.cell?, h] at hq
  | 3 => simp [World.cell?, h] at hq
  | n + 4 => simp [World.cell?, h] at hq
theorem SliceIs.but {w w' : World} {c : Nat} {v : Value} {bs : List UInt8} (h : SliceIs w v bs) (hn : NoInt w c) (hs : SameBut w w' c) : SliceIs w' v bs := by
  obtain ⟨a, cap, rfl, hc, h⟩ := h
  refine ⟨a, cap, rfl, hc, ?_⟩
  rcases h with h | ⟨b, o, rfl, h⟩
  · exact .inl h
  · refine .inr ⟨b, o, rfl, fun i hi => ?_⟩
    have hx := h i hi
    rw [hs _ (fun e => by subst e; exact hn _ _ _ hx)]
    exact hx
theorem StepsIs.but {w w' : World} {c : Nat} {v : Value} {l : List Stp} (h : StepsIs w v l) (hn : NoInt w c) (hs : SameBut w w' c) : StepsIs w' v l := by
  obtain ⟨a, cap, rfl, hc, h⟩ := h
  refine ⟨a, cap, rfl, hc, ?_⟩
  rcases h with h | ⟨b, o, rfl, h⟩
  · exact .inl h
  · refine .inr ⟨b, o, rfl, fun i hi => ?_⟩
    obtain ⟨vo, c1, c2, c3, h1⟩ := h i hi
    have hne : b ≠ c := fun e => by subst e; exact hn _ _ _ c1
    exact ⟨vo, by rw [hs _ hne]; exact c1, by rw [hs _ hne]; exact c2, by rw [hs _ hne]; exact c3, h1.but hn hs⟩
theorem ProofIs.but {w w' : World} {c : Nat} {v : Value} {p : Prf} (h : ProofIs w v p) (hn : NoInt w c) (hs : SameBut w w' c) : ProofIs w' v p := by
  obtain ⟨vs, vk, vv, rfl, h0, h1, h2⟩ := h
  exact ⟨vs, vk, vv, rfl, h0.but hn hs, h1.but hn hs, h2.but hn hs⟩
theorem ProofIs.agg {w : World} {v : Value} {p : Prf} (h : ProofIs w v p) : ∃ sa sc ka kc va vc, v = .agg #[.bool p.empty, .slice sa p.steps.length sc, .slice ka p.pair.1.length kc, .slice va p.pair.2.length vc] := by
  obtain ⟨vs, vk, vv, rfl, h0, h1, h2⟩ := h
  obtain ⟨sa, sc, rfl⟩ := h0.shape
  obtain ⟨ka, kc, rfl⟩ := h1.shape
  obtain ⟨va, vc, rfl⟩ := h2.shape
  exact ⟨sa, sc, ka, kc, va, vc, rfl⟩
theorem proofIs_no (w : World) : ProofIs w (.agg #[.bool false, .slice none 0 0, .slice none 0 0, .slice none 0 0]) noPrf := ⟨_, _, _, rfl, stepsIs_nil w, sliceIs_nil w, sliceIs_nil w⟩
/-- Another block stays where four cells of a block are written. -/
theorem four_other {w : World} {c b : Nat} (h : b ≠ c) (x y z u : Value) : ((((w.setCell ⟨c, 0, none⟩ x).setCell ⟨c, 1, none⟩ y).setCell ⟨c, 2, none⟩ z).setCell ⟨c, 3, none⟩ u).heap[b]? = w.heap[b]? := by
  have one : ∀ (w : World) (i : Nat) (u : Value), (w.setCell ⟨c, i, none⟩ u).heap[b]? = w.heap[b]? := fun w i u => by
    simp only [World.setCell, Array.getElem?_modify]
    rw [if_neg (by simpa using h.symm)]
  rw [one, one, one, one]
/-- What stands there is written again: nothing turns. -/
theorem four_self {w : World} {c : Nat} {x y z u : Value} {t : TypeId} (h : w.heap[c]? = some (.cells #[x, y, z, u] t)) : w.setCell ⟨c, 0, none⟩ x = w ∧ w.setCell ⟨c, 1, none⟩ y = w ∧ w.setCell ⟨c, 2, none⟩ z = w ∧ w.setCell ⟨c, 3, none⟩ u = w := by
  refine ⟨?_, ?_, ?_, ?_⟩
  all_goals
    rw [setCell_eq_setRow w c _ _ _ _ _ h]
    exact setRow_self w c _ _ _ h
end Go.Proofs.YtkkcjnhfbblgiabDoor
