/-
  What a row's proof opens with where a slice of integers came in.
-/
import Derived.Test.YtdpoickggdgddabDoorFrameB
import Derived.Test.YtdpoickggdgddabDoorIntsM
namespace Go.Proofs.YtdpoickggdgddabDoor
open Go.ChangeShapes Go.WideShapes Go.ChangeAt Go.RowKit
theorem isRow_ints {w : World} {a : Option Addr} {len cap : Nat} {zs : List Int} (h : IsRow .i64 w a len cap zs) : ∃ ys : List Int, ys.length = len ∧ len ≤ maxLen ∧ IntsIs w (.slice a len cap) ys := by
  rcases h with ⟨rfl, rfl, rfl, rfl⟩ | ⟨x, rfl, hl, hm, hz, hc, hw⟩
  · exact ⟨[], rfl, by unfold maxLen; omega, none, 0, rfl, Nat.le_refl _, .inl rfl⟩
  · have hlen : (zs.take len).length = len := by simp; omega
    refine ⟨zs.take len, hlen, by omega, some x, cap, by rw [hlen], by omega, ?_⟩
    by_cases h0 : len = 0
    · left
      subst h0
      simp
    · obtain ⟨b, o, sp⟩ := x
      have h00 := hc 0 (by omega)
      obtain rfl : sp = none := by
        cases sp with
        | none => rfl
        | some q =>
          simp [Addr.add, World.cell?] at h00
          split at h00 <;> simp at h00
      refine .inr ⟨b, o, rfl, fun i hi => ?_⟩
      rw [hlen] at hi
      have hi2 : i < zs.length := by omega
      have := hc i hi2
      rw [addr_add] at this
      have e : (zs.take len).getD i 0 = zs.getD i 0 := by simp [hi]
      have hwf := hw (zs.getD i 0) (by simp [hi2])
      have hb := int_bounds hwf
      rw [e, this]
      exact ⟨rfl, hb⟩
end Go.Proofs.YtdpoickggdgddabDoor
