/-
  The walk of canopylaw.octets.
-/
import Derived.Test.YtpefggkhjocanaaDoorBase
namespace Go.Proofs.YtpefggkhjocanaaDoor
open Go.RowKit
theorem octets_any (w : World) (v : Value) (bs : List UInt8) (hv : SliceIs w v bs) (hl : bs.length ≤ 140737488355328) :
    Calls Tryd.prog 17 #[v] w fun e w' => ∃ v', e = .returned v' ∧ Own w.heap.size w' v' bs ∧ w.grownBy w' none := by
  obtain ⟨a, cap, rfl, hc, hrest⟩ := hv
  have hs : SliceIs w (.slice a bs.length cap) bs := ⟨a, cap, rfl, hc, hrest⟩
  clear hrest
  go_enter Tryd.func17, Tryd.ntmps17
  go_wp2_with (at_builtin; refine wpList_append_bytes rfl _ _ rfl w.heap.size (.slice none 0 0) [] rfl (own_nil _ _) a bs.length cap bs rfl (by exact hs) (by simp; omega) (Nat.le_refl _) ?_; intro v' w' ho hg)
  go_ret
  exact ⟨v', rfl, ho, hg⟩
end Go.Proofs.YtpefggkhjocanaaDoor
