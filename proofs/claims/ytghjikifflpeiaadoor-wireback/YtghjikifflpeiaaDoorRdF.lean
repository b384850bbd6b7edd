/-
  Reads, with no program: what P8.1 refuses of one.
-/
import Derived.Test.YtghjikifflpeiaaDoorForestF
namespace Go.Proofs.YtghjikifflpeiaaDoor
open Go.RowKit
/-- A read: a name, a key, and where it is wide a last key. -/
structure Rd where
  name : List UInt8
  key : List UInt8
  wide : Bool
  last : List UInt8
def noRd : Rd := ⟨[], [], false, []⟩
/-- What P8.1 refuses of a read. -/
def readE (r : Rd) : Int := if nameFaultF r.name.length = 0 then (if keyFaultF r.key.length = 0 then (if r.wide = true then keyFaultF r.last.length else (if 0 < r.last.length then 4 else 0)) else keyFaultF r.key.length) else nameFaultF r.name.length
theorem readE_iff (r : Rd) : readE r = 0 ↔ (1 ≤ r.name.length ∧ r.name.length ≤ 8) ∧ (1 ≤ r.key.length ∧ r.key.length ≤ 16) ∧ (if r.wide = true then 1 ≤ r.last.length ∧ r.last.length ≤ 16 else r.last = []) := by
  unfold readE
  by_cases hn : nameFaultF r.name.length = 0
  · rw [if_pos hn]
    have hn' := (nameFault_iff _).1 hn
    by_cases hk : keyFaultF r.key.length = 0
    · rw [if_pos hk]
      have hk' := (keyFault_iff _).1 hk
      by_cases hw : r.wide = true
      · rw [if_pos hw, if_pos hw, keyFault_iff]
        exact ⟨fun h => ⟨hn', hk', h⟩, fun h => h.2.2⟩
      · rw [if_neg hw, if_neg hw]
        by_cases hl : 0 < r.last.length
        · rw [if_pos hl]
          exact ⟨fun h => by omega, fun h => by rw [h.2.2] at hl; simp at hl⟩
        · rw [if_neg hl]
          exact ⟨fun _ => ⟨hn', hk', List.eq_nil_of_length_eq_zero (by omega)⟩, fun _ => rfl⟩
    · rw [if_neg hk]
      exact ⟨fun h => absurd h hk, fun h => absurd ((keyFault_iff _).2 h.2.1) hk⟩
  · rw [if_neg hn]
    exact ⟨fun h => absurd h hn, fun h => absurd ((nameFault_iff _).2 h.1) hn⟩
theorem keyF_lenX (k : List UInt8) : 1 ≤ (keyF k).length ∧ (keyF k).length ≤ 16 := by
  unfold keyF
  by_cases h : k.length = 0
  · rw [if_pos h]; simp
  · rw [if_neg h, List.length_take]; omega
theorem nameF_lenX (k : List UInt8) : 1 ≤ (nameF k).length ∧ (nameF k).length ≤ 8 := by
  unfold nameF
  by_cases h : k.length = 0
  · rw [if_pos h]; simp
  · rw [if_neg h, List.length_take]; omega
end Go.Proofs.YtghjikifflpeiaaDoor
