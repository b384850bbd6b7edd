/-
  The walk of canopykeep.key.
-/
import Derived.Test.YtedmhejnbapklaaDoorSome
import Derived.Test.YtedmhejnbapklaaDoorKeys
namespace Go.Proofs.YtedmhejnbapklaaDoor
open Go.RowKit
theorem key_any (w : World) (v : Value) (bs : List UInt8) (hv : SliceIs w v bs) (hl : bs.length ≤ maxLen) :
    Calls Tryd.prog 19 #[v] w fun e w' => ∃ v', e = .returned v' ∧ SliceIs w' v' (keyF bs) ∧ w.grownBy w' none := by
  obtain ⟨a, cap, rfl, hc, hrest⟩ := hv
  have hv : SliceIs w (.slice a bs.length cap) bs := ⟨a, cap, rfl, hc, hrest⟩
  clear hrest
  by_cases h0 : bs.length = 0
  · rw [keyF, if_pos h0]
    have i0 : (bs.length : Int) = 0 := by omega
    go_enter Tryd.func19, Tryd.ntmps19
    go_wp2
    go_ret
    refine ⟨_, rfl, ⟨some ⟨w.heap.size, 0, none⟩, 1, rfl, by simp, .inr ⟨w.heap.size, 0, rfl, ?_⟩⟩, World.grownBy_alloc _ _ _⟩
    intro i hi
    obtain rfl : i = 0 := by simpa using hi
    simp
  · rw [keyF, if_neg h0]
    have i0 : ¬ (bs.length : Int) = 0 := by omega
    go_enter Tryd.func19, Tryd.ntmps19
    go_wp2_with fail
    refine (some_any _ _ _ 16 (by omega) hv hl).mono ?_
    rintro e w1 ⟨v1, rfl, ho1, hg1⟩
    go_wp2
    go_ret
    exact ⟨v1, rfl, ho1.slice, hg1⟩
end Go.Proofs.YtedmhejnbapklaaDoor
