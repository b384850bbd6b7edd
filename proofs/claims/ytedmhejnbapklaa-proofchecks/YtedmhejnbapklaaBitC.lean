/-
  What path.Bit must keep.
-/
import Derived.Test.YtedmhejnbapklaaBase
import Derived.Test.YtedmhejnbapklaaKeys
namespace Go.Proofs.Ytedmhejnbapklaa
open Go.RowKit
/-- path.Bit keeps P2.2. -/
def BitOK : Prop := ∀ (w : World) (v : Value) (bs : List UInt8) (i : Int), SliceIs w v bs → Calls Try.prog 20 #[v, .int .i64 i] w fun e w' => e = .returned (.tuple #[.bool (bitF bs i).1, .int .i64 (bitF bs i).2]) ∧ w.grownBy w' none
/-- path.Bit of a key. -/
theorem BitOK.of (hB : BitOK) (w : World) (v : Value) (k : List UInt8) (i : Nat) (hv : SliceIs w v k) (hk : 1 ≤ k.length ∧ k.length ≤ 16) (hi : i < 145) :
    Calls Try.prog 20 #[v, .int .i64 (i : Int)] w fun e w' => e = .returned (.tuple #[.bool (kbit k i), .int .i64 0]) ∧ w.grownBy w' none := by
  have := hB w v k i hv
  rw [bitF_ok k i hk hi] at this
  exact this
end Go.Proofs.Ytedmhejnbapklaa
