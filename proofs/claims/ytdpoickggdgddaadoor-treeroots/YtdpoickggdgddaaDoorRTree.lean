/-
  The walks of the document's answer to P3: before, sameBytes, pairFault, PairsFault, pairsAndKey.
-/
import Derived.Test.YtdpoickggdgddaaDoorPairMem
import Derived.Test.YtdpoickggdgddaaDoorRKeyF
namespace Go.Proofs.YtdpoickggdgddaaDoor
open Go.RowKit
theorem before_any (w : World) (v1 v2 : Value) (b1 b2 : List UInt8) (h1 : SliceIs w v1 b1) (h2 : SliceIs w v2 b2) :
    Calls Tryd.prog 21 #[v1, v2] w fun e w' => e = .returned (.bool (klt b1 b2)) ∧ w' = w := by
  have c1 := conv_bytes w v1 b1 h1
  have c2 := conv_bytes w v2 b2 h2
  go_enter Tryd.func21, Tryd.ntmps21
  go_wp2
  go_ret
  refine ⟨?_, rfl⟩
  have e : Op.bytesLess (textOf b1).toList (textOf b2).toList = klt b1 b2 := by rw [textOf_list, textOf_list]
  rw [← e]
  rfl
theorem rpairFault_any (w : World) (ak av : Option Addr) (p : Pr) (ck cv : Nat) :
    Calls Tryd.prog 20 #[.agg #[.slice ak p.1.length ck, .slice av p.2.length cv]] w fun e w' => e = .returned (.int .i64 (pairFaultF p)) ∧ w.grownBy w' none := by
  by_cases h : 32 < p.2.length
  · rw [pairFaultF, if_pos h]
    have t1 : (p.2.length : Int) > 32 := by omega
    go_enter Tryd.func20, Tryd.ntmps20
    go_wp2
    go_ret
    exact ⟨rfl, World.grownBy_alloc _ _ _⟩
  · rw [pairFaultF, if_neg h]
    have t1 : ¬ (p.2.length : Int) > 32 := by omega
    go_enter Tryd.func20, Tryd.ntmps20
    go_wp2_with fail
    refine (keyFault_any _ _ _ _).mono ?_
    rintro e w1 ⟨rfl, rfl⟩
    go_wp2
    go_ret
    exact ⟨rfl, World.grownBy_alloc _ _ _⟩
end Go.Proofs.YtdpoickggdgddaaDoor
