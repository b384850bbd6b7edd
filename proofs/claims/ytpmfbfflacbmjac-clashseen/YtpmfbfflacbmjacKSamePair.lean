/-
  The walk of canopykeep's samePair.
-/
import Derived.Test.YtpmfbfflacbmjacPart3
import Derived.Test.YtpmfbfflacbmjacKSame
import Derived.Deep.RegionWith
namespace Go.Proofs.Ytpmfbfflacbmjac
open Go.RowKit
set_option maxRecDepth 100000 in
set_option maxHeartbeats 1000000 in
theorem ksamePair_any (w : World) (v u : Value) (p q : Pr) (hv : PairIs w v p) (hu : PairIs w u q) :
    Calls Try.prog 31 #[v, u] w fun e w' => e = .returned (.bool (decide (p = q))) ∧ w.grownBy w' none := by
  obtain ⟨vk, vv, rfl, s1, s2⟩ := hv
  obtain ⟨uk, uv, rfl, r1, r2⟩ := hu
  obtain ⟨W0, hW0⟩ : ∃ W0 : World, W0 = (w.alloc (.cells #[vk, vv] 80)).alloc (.cells #[uk, uv] 80) := ⟨_, rfl⟩
  have hgW : w.grownBy W0 none := by rw [hW0]; exact grown_alloc (grown_alloc (grown_refl _ _) _) _
  have S1 : Hid (SliceIs W0 vk p.1) := s1.grown hgW
  have S2 : Hid (SliceIs W0 vv p.2) := s2.grown hgW
  have R1 : Hid (SliceIs W0 uk q.1) := r1.grown hgW
  have R2 : Hid (SliceIs W0 uv q.2) := r2.grown hgW
  have HW0 : Hid (W0 = (w.alloc (.cells #[vk, vv] 80)).alloc (.cells #[uk, uv] 80)) := hW0
  have HE : Hid (decide (p = q) = (decide (p.1 = q.1) && decide (p.2 = q.2))) := by
    show _ = _
    by_cases h1 : p.1 = q.1 <;> by_cases h2 : p.2 = q.2 <;> simp [Prod.ext_iff, h1, h2]
  have c1 : W0.cell? ⟨w.heap.size, 0, none⟩ = some vk := by rw [hW0]; simp
  have c2 : W0.cell? ⟨w.heap.size, 1, none⟩ = some vv := by rw [hW0]; simp
  have c3 : W0.cell? ⟨w.heap.size + 1, 0, none⟩ = some uk := by rw [hW0]; simp
  have c4 : W0.cell? ⟨w.heap.size + 1, 1, none⟩ = some uv := by rw [hW0]; simp
  clear s1 s2 r1 r2 hW0
  go_enter Try.func31, Try.ntmps31
  go_wp2_with fail
  rw [← HW0.out]
  refine (same_any _ _ _ _ _ S1.out R1.out).mono ?_
  rintro e w1 ⟨rfl, rfl⟩
  cases hb : decide (p.1 = q.1) with
  | true =>
    go_wp2_with fail
    refine (same_any _ _ _ _ _ S2.out R2.out).mono ?_
    rintro e w1 ⟨rfl, rfl⟩
    go_wp2
    go_ret
    exact ⟨by rw [HE.out, hb]; rfl, hgW⟩
  | false =>
    go_wp2
    go_ret
    exact ⟨by rw [HE.out, hb]; rfl, hgW⟩
end Go.Proofs.Ytpmfbfflacbmjac
