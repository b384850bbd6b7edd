/-
  The walks of canopykeep's sameWrite, where all is the same.
-/
import Derived.Test.YtpmfbfflacbmjabWrMem
import Derived.Test.YtpmfbfflacbmjabKSame
import Derived.Deep.RegionWith
namespace Go.Proofs.Ytpmfbfflacbmjab
open Go.RowKit
theorem alloc_named6 (w : World) (o : Obj) : ∃ W : World, Hid (W = w.alloc o) ∧ w.grownBy W none ∧ Hid (W.heap[w.heap.size]? = some o) := ⟨w.alloc o, rfl, World.grownBy_alloc _ _ _, heap_alloc_new w o⟩
set_option maxRecDepth 100000 in
theorem ksameWrite_same (w : World) (v u : Value) (p : Plc) (hv : WriteIs w v p) (hu : WriteIs w u p) :
    Calls Try.prog 23 #[v, u] w fun e w' => e = .returned (.bool true) ∧ w.grownBy w' none := by
  obtain ⟨vn, vk, vv, rfl, s1, s2, s3⟩ := hv
  obtain ⟨un, uk, uv, rfl, r1, r2, r3⟩ := hu
  obtain ⟨U0, HU0, hgU, BU⟩ := alloc_named6 w (.cells #[vn, vk, .bool p.gone, vv] 35)
  obtain ⟨W0, HW0, hgA, BA⟩ := alloc_named6 U0 (.cells #[un, uk, .bool p.gone, uv] 35)
  have HW : Hid (W0 = (w.alloc (.cells #[vn, vk, .bool p.gone, vv] 35)).alloc (.cells #[un, uk, .bool p.gone, uv] 35)) := by show _ = _; rw [HW0.out, HU0.out]
  have hsz : U0.heap.size = w.heap.size + 1 := by rw [HU0.out]; simp
  rw [hsz] at BA
  clear hsz
  have hg0 := grown_trans hgU hgA
  obtain ⟨⟨c0, c1, c2, c3⟩, _⟩ := quad_room hgA BU.out
  obtain ⟨⟨d0, d1, d2, d3⟩, _⟩ := quad_room (grown_refl W0 none) BA.out
  have same : ∀ x y b, SliceIs w x b → SliceIs w y b → Hid (Calls Try.prog 14 #[x, y] W0 fun e w' => e = .returned (.bool true) ∧ w' = W0) := fun x y b h1 h2 => by
    have := same_any W0 x y b b (h1.grown hg0) (h2.grown hg0)
    rw [decide_eq_true rfl] at this
    exact this
  have S1 := same _ _ _ s1 r1
  have S2 := same _ _ _ s2 r2
  have S3 := same _ _ _ s3 r3
  obtain ⟨a1, k1, rfl⟩ := s1.shape
  obtain ⟨a2, k2, rfl⟩ := s2.shape
  obtain ⟨a3, k3, rfl⟩ := s3.shape
  obtain ⟨b1, e1, rfl⟩ := r1.shape
  obtain ⟨b2, e2, rfl⟩ := r2.shape
  obtain ⟨b3, e3, rfl⟩ := r3.shape
  have hEE : (p.gone == p.gone) = true := by simp
  clear s1 s2 s3 r1 r2 r3 same
  generalize p.gone = g at *
  generalize p.name.length = n1 at *
  generalize p.key.length = n2 at *
  generalize p.value.length = n3 at *
  go_enter Try.func23, Try.ntmps23
  go_upto_region 1 with fail
  rw [← HW.out]
  go_wp2_with fail
  refine S1.out.mono ?_
  rintro e w1 ⟨rfl, rfl⟩
  go_wp2_with fail
  refine S2.out.mono ?_
  rintro e w1 ⟨rfl, rfl⟩
  go_wp2_with fail
  refine S3.out.mono ?_
  rintro e w1 ⟨rfl, rfl⟩
  go_wp2
  go_ret
  exact ⟨rfl, hg0⟩
end Go.Proofs.Ytpmfbfflacbmjab
