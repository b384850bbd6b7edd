/-
  wire.isKind, wire.has, wire.textsOf, as they landed.
-/
import Derived.Test.YtghjikifflpeiabDoorRqBox
namespace Go.Proofs.YtghjikifflpeiabDoor
open Go.RowKit
theorem isKind_any (k : Int) (w : World) : Calls Tryd.prog 15 #[.int .i64 k] w fun e w' => e = .returned (.bool (decide (1 ≤ k ∧ k ≤ 8))) ∧ w' = w := by
  by_cases h1 : 1 ≤ k
  · by_cases h2 : k ≤ 8
    · rw [decide_eq_true ⟨h1, h2⟩]
      go_enter Tryd.func15, Tryd.ntmps15
      go_wp2
      go_ret
      exact ⟨rfl, rfl⟩
    · rw [decide_eq_false (fun h => h2 h.2)]
      have h2' : 8 < k := by omega
      go_enter Tryd.func15, Tryd.ntmps15
      go_wp2
      go_ret
      exact ⟨rfl, rfl⟩
  · rw [decide_eq_false (fun h => h1 h.1)]
    have h1' : k < 1 := by omega
    go_enter Tryd.func15, Tryd.ntmps15
    go_wp2
    go_ret
    exact ⟨rfl, rfl⟩
theorem ret_boolR {x y : Bool} (h : x = y) : Ending.returned (Value.bool x) = Ending.returned (Value.bool y) := by rw [h]
set_option maxRecDepth 100000 in
theorem has_any (w : World) (hT : PrtT w) (k j : Nat) (hk : k < 9) (hj : j < 4) : Calls Tryd.prog 18 #[.int .i64 (k : Int), .int .u8 ((2 ^ j : Nat) : Int)] w fun e w' => e = .returned (.bool (hasP (k : Int) j)) ∧ w' = w := by
  have c := hT k hk
  have HT := has_tab k j hk hj
  generalize partN k = p at *
  generalize 2 ^ j = q at *
  go_enter Tryd.func18, Tryd.ntmps18
  go_wp2
  go_ret
  exact ⟨rfl, rfl⟩
theorem texts_any (w : World) (k : Int) (a1 b1 c1 d1 : Option Addr) (a2 a3 b2 b3 c2 c3 d2 d3 : Nat) : Calls Tryd.prog 17 #[.agg #[.int .i64 k, .slice a1 a2 a3, .slice b1 b2 b3, .slice c1 c2 c3, .slice d1 d2 d3]] w fun e w' => e = .returned (.agg #[.slice a1 a2 a3, .slice b1 b2 b3, .slice c1 c2 c3, .slice d1 d2 d3]) ∧ w.grownBy w' none := by
  go_enter Tryd.func17, Tryd.ntmps17
  go_wp2
  have hb := heap_alloc_new (w.alloc (.cells #[.int .i64 k, .slice a1 a2 a3, .slice b1 b2 b3, .slice c1 c2 c3, .slice d1 d2 d3] 24)) (.cells #[.slice a1 a2 a3, .slice b1 b2 b3, .slice c1 c2 c3, .slice d1 d2 d3] 48)
  rw [World.size_alloc] at hb
  obtain ⟨⟨r0, r1, r2, r3⟩, _⟩ := quad_room (grown_refl _ none) hb
  refine bodyPost_ret (v := .agg #[.slice a1 a2 a3, .slice b1 b2 b3, .slice c1 c2 c3, .slice d1 d2 d3]) (by simp [results, Tryd.results17, go_sem, r0, r1, r2, r3]) rfl ?_
  exact ⟨rfl, grown_alloc (World.grownBy_alloc _ _ _) _⟩
end Go.Proofs.YtghjikifflpeiabDoor
