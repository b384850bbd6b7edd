/-
  history.Fold, as it landed, keeps P7.2.
-/
import Derived.Test.YtljdconhplgipabPart9
import Derived.Test.YtljdconhplgipabBehP
namespace Go.Proofs.Ytljdconhplgipab
open Go.RowKit
theorem ints_one (w : World) (t : Int) (h0 : -9223372036854775808 ≤ t) (h1 : t ≤ 9223372036854775807) (ty : TypeId) : IntsIs (w.alloc (.cells #[.int .i64 t] ty)) (.slice (some ⟨w.heap.size, 0, none⟩) 1 1) [t] := by
  refine ⟨_, 1, rfl, Nat.le_refl _, .inr ⟨_, 0, rfl, fun i hi => ?_⟩⟩
  match i, hi with
  | 0, _ => exact ⟨by simp, h0, h1⟩
set_option maxRecDepth 100000 in
set_option maxHeartbeats 2000000 in
theorem hsfold_ok : HsFoldOK := by
  intro w v l t hv hl ht0 ht1
  obtain ⟨a, cap, rfl⟩ := hv.shape
  obtain ⟨W0, HW0, hg0, _⟩ := alloc_namedT w (.cells #[.int .i64 t] 3)
  have BE : Hid (Calls Try.prog 16 #[.slice a l.length cap, .slice (some ⟨w.heap.size, 0, none⟩) 1 1] W0 fun e w' => ∃ x, e = .returned (.tuple #[x, .int .i64 (foldE l t)]) ∧ (foldE l t = 0 → ∃ b u, x = .slice (some ⟨b, 0, none⟩) 1 1 ∧ w'.cell? ⟨b, 0, none⟩ = some u ∧ TensIs w' u (foldT l t)) ∧ W0.grownBy w' none) := by
    have h := behind_any W0 _ (.slice (some ⟨w.heap.size, 0, none⟩) 1 1) l [t] (hv.grown hg0) hl (by rw [HW0.out]; exact ints_one w t ht0 ht1 _) (by simp)
    rw [behE_one] at h
    refine h.mono ?_
    rintro e w' ⟨x, rfl, h2, hg⟩
    refine ⟨x, rfl, fun h0 => ?_, hg⟩
    obtain ⟨b, rfl, h3⟩ := h2 h0
    obtain ⟨u, h4, h5⟩ := h3 0 (by simp)
    exact ⟨b, u, rfl, h4, h5⟩
  have HN : Hid (foldE l t ≠ 0 → foldT l t = []) := fun h => by rw [foldT, if_neg h]
  generalize foldE l t = z at *
  generalize foldT l t = Z at *
  clear hv hl
  go_enter Try.func9, Try.ntmps9
  go_wp2_with fail
  rw [← HW0.out]
  refine BE.out.mono ?_
  rintro e w1 ⟨x, rfl, hx, hg1⟩
  by_cases hz : z = 0
  · obtain ⟨b, u, rfl, c0, hu⟩ := hx hz
    subst hz
    obtain ⟨ua, uc, rfl⟩ := hu.shape
    have HU : Hid (TensIs w1 (.slice ua Z.length uc) Z) := hu
    clear hu hx
    go_wp2
    go_ret2
    exact ⟨_, rfl, HU.out, grown_trans hg0 hg1⟩
  · have hz' : (z != 0) = true := by simpa using hz
    have HZ : Hid (Z = []) := HN.out hz
    clear hz hx
    go_wp2
    go_ret2
    exact ⟨_, rfl, by rw [HZ.out]; exact tensIs_nil _, grown_trans hg0 hg1⟩
end Go.Proofs.Ytljdconhplgipab
