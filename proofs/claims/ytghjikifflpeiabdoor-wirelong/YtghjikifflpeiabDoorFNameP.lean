/-
  forest.Name, as it landed, keeps P5.1.
-/
import Derived.Test.YtghjikifflpeiabDoorFCName
import Derived.Test.YtghjikifflpeiabDoorBase
namespace Go.Proofs.YtghjikifflpeiabDoor
open Go.RowKit
set_option maxRecDepth 100000 in
set_option maxHeartbeats 1000000 in
theorem fnm_any (w : World) (a : Option Addr) (n cap : Nat) : Calls Tryd.prog 23 #[.slice a n cap] w fun e w' => e = .returned (.int .i64 (nameFaultF n)) ∧ w' = w := by
  have HE : Hid (nameFaultF n = if 1 ≤ n ∧ n ≤ 8 then 0 else 1) := rfl
  generalize nameFaultF n = z at *
  by_cases h1 : 1 ≤ n
  · by_cases h2 : n ≤ 8
    · have HZ : Hid (z = 0) := by show _ = _; rw [HE.out, if_pos ⟨h1, h2⟩]
      have t1 : ¬ (n : Int) < 1 := by omega
      have t2 : ¬ (n : Int) > 8 := by omega
      go_enter Tryd.func23, Tryd.ntmps23
      go_wp2
      go_ret
      exact ⟨by rw [HZ.out]; rfl, rfl⟩
    · have HZ : Hid (z = 1) := by show _ = _; rw [HE.out, if_neg (by omega)]
      have t1 : ¬ (n : Int) < 1 := by omega
      have t2 : (n : Int) > 8 := by omega
      go_enter Tryd.func23, Tryd.ntmps23
      go_wp2
      go_ret
      exact ⟨by rw [HZ.out]; rfl, rfl⟩
  · have HZ : Hid (z = 1) := by show _ = _; rw [HE.out, if_neg (by omega)]
    have t1 : (n : Int) < 1 := by omega
    go_enter Tryd.func23, Tryd.ntmps23
    go_wp2
    go_ret
    exact ⟨by rw [HZ.out]; rfl, rfl⟩
theorem fname_ok : FNameOK := fun w a n cap => (fnm_any w a n cap).mono fun e w' h => by
  obtain ⟨h1, rfl⟩ := h
  exact ⟨h1, grown_refl _ _⟩
end Go.Proofs.YtghjikifflpeiabDoor
