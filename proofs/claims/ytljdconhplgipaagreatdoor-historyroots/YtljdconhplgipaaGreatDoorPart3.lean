/-
  Texts of this proof, joined: BitC, PartC.
-/
import Derived.Test.YtljdconhplgipaaGreatDoorBase
import Derived.Test.YtljdconhplgipaaGreatDoorKeys
/-
  What path.Bit must keep.
-/
namespace Go.Proofs.YtljdconhplgipaaGreatDoor
open Go.RowKit
/-- path.Bit keeps P2.2. -/
def BitOK : Prop := ∀ (w : World) (v : Value) (bs : List UInt8) (i : Int), SliceIs w v bs → Calls Tryz.prog 61 #[v, .int .i64 i] w fun e w' => e = .returned (.tuple #[.bool (bitF bs i).1, .int .i64 (bitF bs i).2]) ∧ w.grownBy w' none
/-- path.Bit of a key. -/
theorem BitOK.of (hB : BitOK) (w : World) (v : Value) (k : List UInt8) (i : Nat) (hv : SliceIs w v k) (hk : 1 ≤ k.length ∧ k.length ≤ 16) (hi : i < 145) :
    Calls Tryz.prog 61 #[v, .int .i64 (i : Int)] w fun e w' => e = .returned (.tuple #[.bool (kbit k i), .int .i64 0]) ∧ w.grownBy w' none := by
  have := hB w v k i hv
  rw [bitF_ok k i hk hi] at this
  exact this
end Go.Proofs.YtljdconhplgipaaGreatDoor

/-
  What path.Part must keep.
-/
namespace Go.Proofs.YtljdconhplgipaaGreatDoor
open Go.RowKit
/-- path.Part keeps P2.3. -/
def PartOK : Prop := ∀ (w : World) (v u : Value) (a b : List UInt8), SliceIs w v a → SliceIs w u b → Calls Tryz.prog 58 #[v, u] w fun e w' => e = .returned (.tuple #[.int .i64 (partF a b).1, .int .i64 (partF a b).2]) ∧ w.grownBy w' none

/-- path.Part of two keys. -/
theorem PartOK.of (hP : PartOK) (w : World) (v u : Value) (a b : List UInt8) (hv : SliceIs w v a) (hu : SliceIs w u b) (ha : 1 ≤ a.length ∧ a.length ≤ 16) (hb : 1 ≤ b.length ∧ b.length ≤ 16) :
    Calls Tryz.prog 58 #[v, u] w fun e w' => e = .returned (.tuple #[.int .i64 (partK a b), .int .i64 0]) ∧ w.grownBy w' none := by
  have := hP w v u a b hv hu
  rw [partF_ok a b ha hb] at this
  exact this
end Go.Proofs.YtljdconhplgipaaGreatDoor
