/-
  What path.Part must keep.
-/
import Derived.Test.YtljdconhplgipabDoorBase
import Derived.Test.YtljdconhplgipabDoorKeys
namespace Go.Proofs.YtljdconhplgipabDoor
open Go.RowKit
/-- path.Part keeps P2.3. -/
def PartOK : Prop := ∀ (w : World) (v u : Value) (a b : List UInt8), SliceIs w v a → SliceIs w u b → Calls Tryd.prog 70 #[v, u] w fun e w' => e = .returned (.tuple #[.int .i64 (partF a b).1, .int .i64 (partF a b).2]) ∧ w.grownBy w' none

/-- path.Part of two keys. -/
theorem PartOK.of (hP : PartOK) (w : World) (v u : Value) (a b : List UInt8) (hv : SliceIs w v a) (hu : SliceIs w u b) (ha : 1 ≤ a.length ∧ a.length ≤ 16) (hb : 1 ≤ b.length ∧ b.length ≤ 16) :
    Calls Tryd.prog 70 #[v, u] w fun e w' => e = .returned (.tuple #[.int .i64 (partK a b), .int .i64 0]) ∧ w.grownBy w' none := by
  have := hP w v u a b hv hu
  rw [partF_ok a b ha hb] at this
  exact this
end Go.Proofs.YtljdconhplgipabDoor
