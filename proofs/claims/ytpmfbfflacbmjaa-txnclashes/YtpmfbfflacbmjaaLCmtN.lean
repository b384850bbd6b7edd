/-
  The walk of canopylaw's commit: what it hands back is all new.
-/
import Derived.Test.YtpmfbfflacbmjaaPart2
import Derived.Test.YtpmfbfflacbmjaaLWritesV
import Derived.Deep.RegionWith
namespace Go.Proofs.Ytpmfbfflacbmjaa
open Go.RowKit
theorem alloc_namedN (w : World) (o : Obj) : ∃ W : World, Hid (W = w.alloc o) ∧ w.grownBy W none ∧ Hid (W.heap[w.heap.size]? = some o) := ⟨w.alloc o, rfl, World.grownBy_alloc _ _ _, heap_alloc_new w o⟩
set_option maxRecDepth 100000 in
theorem commitV_any (w : World) (v : Value) (c : Cmt) (hv : CommitIs w v c) (hl : FitsW c.writes) :
    Calls Try.prog 70 #[v] w fun e w' => ∃ vs, e = .returned (.agg #[.int .i64 c.turn, vs]) ∧ OwnV w.heap.size 0 w' vs c.writes ∧ w.grownBy w' none := by
  obtain ⟨a, cap, rfl⟩ := hv.agg
  obtain ⟨U0, HU0, hgU, BU⟩ := alloc_namedN w (.cells #[.int .i64 c.turn, .slice a c.writes.length cap] 93)
  obtain ⟨W0, HW0, hgA, B0⟩ := alloc_namedN U0 (.cells #[.int .i64 0, .slice none 0 0] 93)
  have HW : Hid (W0 = (w.alloc (.cells #[.int .i64 c.turn, .slice a c.writes.length cap] 93)).alloc (.cells #[.int .i64 0, .slice none 0 0] 93)) := by show _ = _; rw [HW0.out, HU0.out]
  have hsz : U0.heap.size = w.heap.size + 1 := by rw [HU0.out]; simp
  rw [hsz] at B0
  clear hsz
  have hg0 := grown_trans hgU hgA
  have B1 : Hid (W0.heap[w.heap.size]? = some (.cells #[.int .i64 c.turn, .slice a c.writes.length cap] 93)) := by
    show _ = _
    rw [hgA.block _ (Array.getElem?_eq_some_iff.1 BU.out).1 (by simp)]; exact BU.out
  obtain ⟨c0, c1, _, _⟩ := pair_room (grown_refl W0 none) B1.out
  have WR : Hid (∀ w', W0.grownBy w' none → Calls Try.prog 97 #[.slice a c.writes.length cap] w' fun e w'' => ∃ v', e = .returned v' ∧ OwnV w'.heap.size 0 w'' v' c.writes ∧ w'.grownBy w'' none) := fun w' hg => writesV_any w' _ _ ((hv.writes.2.grown hg0).grown hg) hl
  have hsz0 := hg0.size
  have hgd := grown_drew (grown_refl W0 none)
  clear hv hl
  go_enter Try.func70, Try.ntmps70
  go_upto_region 1 with fail
  rw [← HW.out]
  go_region_with (go_at_call 97; refine (WR.out _ hgd).mono ?_; rintro e w1 ⟨v1, rfl, h1, hg1⟩; have hg01 := grown_trans hgd hg1; obtain ⟨d0, d1, _, _⟩ := pair_room hg01 B1.out; obtain ⟨r0, r1, r2, r3⟩ := pair_room hg01 B0.out; obtain ⟨xa, xc, rfl⟩ := h1.shape; obtain ⟨z0, z1⟩ := pair_set hg01 B0.out (.int .i64 c.turn) (.slice xa c.writes.length xc); have hb1 : w1.heap[w.heap.size + 1]? = some (.cells #[.int .i64 0, .slice none 0 0] 93) := pair_old hg01 B0.out)
  all_goals
    go_wp2_with fail
    refine bodyPost_ret (v := .agg #[.int .i64 c.turn, .slice xa c.writes.length xc]) (by simp [results, Try.results70, go_sem, z0, z1]) rfl ?_
    exact ⟨_, rfl, ((h1.down _ hsz0).setOther hb1 cmtT5 cmtTW (Nat.zero_le _) _).setOther (set_self hb1) cmtT5 cmtTW (Nat.zero_le _) _, grown_setNew (grown_setNew (grown_trans hg0 hg01) _ (by omega) _ _) _ (by omega) _ _⟩
end Go.Proofs.Ytpmfbfflacbmjaa
