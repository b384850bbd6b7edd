/-
  What a page, and what lies ahead of it, keep.
-/
import Derived.Test.YtpefggkhjocanaaDoorLnBd
namespace Go.Proofs.YtpefggkhjocanaaDoor
open Go.RowKit
theorem belowB_grown {w w' : World} (h : Below w.heap.size w w') : w.grownBy w' none := ⟨h.os, h.tape, h.output, h.size, fun k hk _ => h.block k hk⟩
theorem grown_belowB {w w' : World} (h : w.grownBy w' none) {B : Nat} (hB : B ≤ w.heap.size) : Below B w w' := ⟨h.os, h.tape, h.output, h.size, fun k hk => h.block k (by omega) (by simp)⟩
theorem PageIs.grownNone {B b : Nat} {bs : List UInt8} {w w' : World} (h : PageIs B b bs w) (hg : w.grownBy w' none) : PageIs B b bs w' := by
  have key : ∀ p, Lib.BuilderAt 48 5 B b p (vals bs) w → Lib.BuilderAt 48 5 B b p (vals bs) w' := by
    rintro p ⟨hB, v, hbk, hown, hne⟩
    refine ⟨hB, v, ?_, World.ownsRow.kept hown hg ?_, hne⟩
    · rw [hg.block b (Array.getElem?_eq_some_iff.1 hbk).1 (by simp)]; exact hbk
    · cases hv : v.ownBlock with
      | none => exact .inl rfl
      | some k => exact .inr (by simp)
  rcases h with h | h
  · exact .inl (key _ h)
  · exact .inr (key _ h)
theorem PageIs.lt {B b : Nat} {bs : List UInt8} {w : World} (h : PageIs B b bs w) : b < w.heap.size := by
  rcases h with h | h
  · exact h.lt
  · exact h.lt
theorem PageIs.ty {B b : Nat} {bs : List UInt8} {w : World} (h : PageIs B b bs w) : ∃ cs, w.heap[b]? = some (.cells cs 48 (0, 0)) := by
  rcases h with ⟨_, v, h, _⟩ | ⟨_, v, h, _⟩
  · exact ⟨_, h⟩
  · exact ⟨_, h⟩
/-- A block of acts is no page and no row of bytes. -/
theorem kept_act {b : Nat} {w w' : World} {k : Nat} {cs : Array Value} (hk : Lib.OthersKept 5 (some b) w w') (hb : k ≠ b) (h : w.heap[k]? = some (.cells cs 36)) : w'.heap[k]? = some (.cells cs 36) := by
  refine hk k _ h (fun e => hb (Option.some.inj e)) ?_
  intro c fz e
  simp at e
end Go.Proofs.YtpefggkhjocanaaDoor
