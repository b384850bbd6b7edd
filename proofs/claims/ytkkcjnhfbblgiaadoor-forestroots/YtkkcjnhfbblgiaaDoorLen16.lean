/-
  math/bits.Len16: the library's own text, walked.
-/
import Derived.Test.YtkkcjnhfbblgiaaDoorBase
import Derived.Lib.Slices
import Derived.Lib.Small
import Derived.Lib.Walk
import Derived.Lib.BitFns
namespace Go.Proofs.YtkkcjnhfbblgiaaDoor
open Go.RowKit
theorem tab_at (i : Int) (h0 : 0 ≤ i) (h1 : i ≤ 255) (h : i.toNat < Lib.len8tab.size) : ((Lib.len8tab[i.toNat]'h).toNat : Int) = (Lib.bitLen i.toNat : Int) := by
  rw [← Lib.len8_of i h0 h1]
  simp only [Lib.len8, ByteArray.getElem?_lt' _ _ h, Option.getD_some]
set_option maxHeartbeats 4000000 in
set_option maxRecDepth 100000 in
theorem len16_any (x : Int) (w : World) (h0 : 0 ≤ x) (h1 : x ≤ 65535) :
    Calls Tryd.prog 58 #[.int .u16 x] w fun e w' => e = .returned (.int .i64 (Lib.bitLen x.toNat)) ∧ w' = w := by
  have hs := Lib.len8tab_size
  by_cases hx : 256 ≤ x
  · have q : 0 ≤ x / 256 ∧ x / 256 < (Lib.len8tab.size : Int) := by omega
    have l := Lib.bitLen_le8' (x / 256) (by omega) (by omega)
    have s := Lib.bitLen_shift8 x.toNat (by omega) (by omega)
    have T := tab_at (x / 256) q.1 (by omega) (by omega)
    go_enter Tryd.func58, Tryd.ntmps58
    go_wp2
    go_ret
    refine ⟨congrArg Ending.returned (congrArg (Value.int IntKind.i64) ?_), rfl⟩
    have e : (x / 256).toNat = x.toNat / 256 := by omega
    rw [e]
    omega
  · have q : 0 ≤ x ∧ x < (Lib.len8tab.size : Int) := by omega
    have l := Lib.bitLen_le8' x (by omega) (by omega)
    have T := tab_at x q.1 (by omega) (by omega)
    go_enter Tryd.func58, Tryd.ntmps58
    go_wp2
    go_ret
    exact ⟨rfl, rfl⟩
theorem bitLen_512 : ∀ n : Fin 512, n.val ≠ 0 → 1 ≤ Lib.bitLen n.val ∧ Lib.bitLen n.val ≤ 9 ∧ n.val.testBit (Lib.bitLen n.val - 1) = true ∧ ∀ j : Fin 9, Lib.bitLen n.val ≤ j.val → n.val.testBit j.val = false := by decide +kernel
end Go.Proofs.YtkkcjnhfbblgiaaDoor
