/-
  The walk of canopylaw's tapes.
-/
import Derived.Test.YtkheombfjgjedabDoorPart4
import Derived.Test.YtkheombfjgjedabDoorOctets
import Derived.Deep.RegionWith
namespace Go.Proofs.YtkheombfjgjedabDoor
open Go.RowKit
theorem alloc_named5 (w : World) (o : Obj) : ∃ W : World, Hid (W = w.alloc o) ∧ w.grownBy W none ∧ Hid (W.heap[w.heap.size]? = some o) := ⟨w.alloc o, rfl, World.grownBy_alloc _ _ _, heap_alloc_new w o⟩
set_option maxRecDepth 100000 in
theorem tapes_any (w : World) (v : Value) (t : Tap) (hv : TapeIs w v t) (hl : t.data.length ≤ 140737488355328) :
    Calls Tryd.prog 5 #[v] w fun e w' => ∃ x, e = .returned x ∧ TapeIs w' x t ∧ w.grownBy w' none := by
  obtain ⟨a, cap, rfl⟩ := hv.agg
  obtain ⟨U0, HU0, hgU, BU⟩ := alloc_named5 w (.cells #[.slice a t.data.length cap, .int .i64 t.synced] 24)
  obtain ⟨W0, HW0, hgA, B0⟩ := alloc_named5 U0 (.cells #[.slice none 0 0, .int .i64 0] 24)
  have HW : Hid (W0 = (w.alloc (.cells #[.slice a t.data.length cap, .int .i64 t.synced] 24)).alloc (.cells #[.slice none 0 0, .int .i64 0] 24)) := by show _ = _; rw [HW0.out, HU0.out]
  have hsz : U0.heap.size = w.heap.size + 1 := by rw [HU0.out]; simp
  rw [hsz] at B0
  clear hsz
  have hg0 := grown_trans hgU hgA
  have B1 : Hid (W0.heap[w.heap.size]? = some (.cells #[.slice a t.data.length cap, .int .i64 t.synced] 24)) := by
    show _ = _
    rw [hgA.block _ (Array.getElem?_eq_some_iff.1 BU.out).1 (by simp)]; exact BU.out
  obtain ⟨c0, c1, _, _⟩ := pair_room (grown_refl W0 none) B1.out
  have OC : Hid (∀ w', W0.grownBy w' none → Calls Tryd.prog 14 #[.slice a t.data.length cap] w' fun e w'' => ∃ v', e = .returned v' ∧ SliceIs w'' v' t.data ∧ w'.grownBy w'' none) := fun w' hg => (octets_any w' _ _ ((hv.data.1.grown hg0).grown hg) hl).mono (by rintro e w'' ⟨v', rfl, h1, h2⟩; exact ⟨v', rfl, h1.slice, h2⟩)
  have hgd := grown_drew (grown_refl W0 none)
  clear hv hl
  go_enter Tryd.func5, Tryd.ntmps5
  go_upto_region 1 with fail
  rw [← HW.out]
  go_region_with (go_at_call 14; refine (OC.out _ hgd).mono ?_; rintro e w1 ⟨v1, rfl, h1, hg1⟩; have hg01 := grown_trans hgd hg1; obtain ⟨d0, d1, _, _⟩ := pair_room hg01 B1.out; obtain ⟨r0, r1, r2, r3⟩ := pair_room hg01 B0.out; obtain ⟨xa, xc, rfl⟩ := h1.shape; obtain ⟨z0, z1⟩ := pair_set hg01 B0.out (.slice xa t.data.length xc) (.int .i64 t.synced); have hb1 : w1.heap[w.heap.size + 1]? = some (.cells #[.slice none 0 0, .int .i64 0] 24) := pair_old hg01 B0.out)
  all_goals
    go_wp2_with fail
    refine bodyPost_ret (v := .agg #[.slice xa t.data.length xc, .int .i64 t.synced]) (by simp [results, Tryd.results5, go_sem, z0, z1]) rfl ?_
    exact ⟨_, rfl, ⟨_, rfl, h1.setPair hb1 (fun q => by simp) (fun q => by simp) _ _⟩, grown_setNew (grown_setNew (grown_trans hg0 hg01) _ (by omega) _ _) _ (by omega) _ _⟩
end Go.Proofs.YtkheombfjgjedabDoor
