/-
  The walk of canopykeep.some.
-/
import Derived.Test.YtpefggkhjocanabBase
namespace Go.Proofs.Ytpefggkhjocanab
open Go.RowKit
theorem some_any (w : World) (v : Value) (bs : List UInt8) (most : Nat) (hm : most ≤ 100000) (hv : SliceIs w v bs) (hl : bs.length ≤ maxLen) :
    Calls Try.prog 7 #[v, .int .i64 (most : Int)] w fun e w' => ∃ v', e = .returned v' ∧ Own w.heap.size w' v' (bs.take most) ∧ w.grownBy w' none := by
  obtain ⟨a, cap, rfl, hc, hrest⟩ := hv
  have hv : SliceIs w (.slice a bs.length cap) bs := ⟨a, cap, rfl, hc, hrest⟩
  clear hrest
  unfold maxLen at hl
  by_cases hlt : bs.length ≤ most
  · have hs := hv.take bs.length (Nat.le_refl _)
    rw [List.take_length] at hs
    rw [List.take_of_length_le hlt]
    have i1 : (bs.length : Int) ≤ (most : Int) := by omega
    go_enter Try.func7, Try.ntmps7
    go_wp2_with (at_builtin; refine wpList_append_bytes rfl _ _ rfl w.heap.size (.slice none 0 0) [] rfl (own_nil _ _) a bs.length cap bs rfl (by exact hs) (by simp; omega) (Nat.le_refl _) ?_; intro v' w' ho hg)
    go_ret
    exact ⟨v', rfl, ho, hg⟩
  · have hs := hv.take most (by omega)
    have i1 : (most : Int) < (bs.length : Int) := by omega
    go_enter Try.func7, Try.ntmps7
    go_wp2_with (at_builtin; refine wpList_append_bytes rfl _ _ rfl w.heap.size (.slice none 0 0) [] rfl (own_nil _ _) a most cap _ rfl (by exact hs) (by simp; omega) (Nat.le_refl _) ?_; intro v' w' ho hg)
    go_ret
    exact ⟨v', rfl, ho, hg⟩
end Go.Proofs.Ytpefggkhjocanab
