/-
  The walks of canopykeep's sameWrite and sameCommit, where all is the same.
-/
import Derived.Test.YtkheombfjgjedacDoorPart4
import Derived.Test.YtkheombfjgjedacDoorKSame
import Derived.Deep.RegionWith
namespace Go.Proofs.YtkheombfjgjedacDoor
open Go.RowKit
theorem alloc_named6 (w : World) (o : Obj) : ∃ W : World, Hid (W = w.alloc o) ∧ w.grownBy W none ∧ Hid (W.heap[w.heap.size]? = some o) := ⟨w.alloc o, rfl, World.grownBy_alloc _ _ _, heap_alloc_new w o⟩
set_option maxRecDepth 100000 in
theorem ksameWrite_same (w : World) (v u : Value) (p : Plc) (hv : WriteIs w v p) (hu : WriteIs w u p) :
    Calls Tryd.prog 31 #[v, u] w fun e w' => e = .returned (.bool true) ∧ w.grownBy w' none := by
  obtain ⟨vn, vk, vv, rfl, s1, s2, s3⟩ := hv
  obtain ⟨un, uk, uv, rfl, r1, r2, r3⟩ := hu
  obtain ⟨U0, HU0, hgU, BU⟩ := alloc_named6 w (.cells #[vn, vk, .bool p.gone, vv] 48)
  obtain ⟨W0, HW0, hgA, BA⟩ := alloc_named6 U0 (.cells #[un, uk, .bool p.gone, uv] 48)
  have HW : Hid (W0 = (w.alloc (.cells #[vn, vk, .bool p.gone, vv] 48)).alloc (.cells #[un, uk, .bool p.gone, uv] 48)) := by show _ = _; rw [HW0.out, HU0.out]
  have hsz : U0.heap.size = w.heap.size + 1 := by rw [HU0.out]; simp
  rw [hsz] at BA
  clear hsz
  have hg0 := grown_trans hgU hgA
  obtain ⟨⟨c0, c1, c2, c3⟩, _⟩ := quad_room hgA BU.out
  obtain ⟨⟨d0, d1, d2, d3⟩, _⟩ := quad_room (grown_refl W0 none) BA.out
  have same : ∀ x y b, SliceIs w x b → SliceIs w y b → Hid (Calls Tryd.prog 16 #[x, y] W0 fun e w' => e = .returned (.bool true) ∧ w' = W0) := fun x y b h1 h2 => by
    have := same_any W0 x y b b (h1.grown hg0) (h2.grown hg0)
    rw [decide_eq_true rfl] at this
    exact this
  have S1 := same _ _ _ s1 r1
  have S2 := same _ _ _ s2 r2
  have S3 := same _ _ _ s3 r3
  obtain ⟨a1, k1, rfl⟩ := s1.shape
  obtain ⟨a2, k2, rfl⟩ := s2.shape
  obtain ⟨a3, k3, rfl⟩ := s3.shape
  obtain ⟨b1, e1, rfl⟩ := r1.shape
  obtain ⟨b2, e2, rfl⟩ := r2.shape
  obtain ⟨b3, e3, rfl⟩ := r3.shape
  have hEE : (p.gone == p.gone) = true := by simp
  clear s1 s2 s3 r1 r2 r3 same
  generalize p.gone = g at *
  generalize p.name.length = n1 at *
  generalize p.key.length = n2 at *
  generalize p.value.length = n3 at *
  go_enter Tryd.func31, Tryd.ntmps31
  go_upto_region 1 with fail
  rw [← HW.out]
  go_wp2_with fail
  refine S1.out.mono ?_
  rintro e w1 ⟨rfl, rfl⟩
  go_wp2_with fail
  refine S2.out.mono ?_
  rintro e w1 ⟨rfl, rfl⟩
  go_wp2_with fail
  refine S3.out.mono ?_
  rintro e w1 ⟨rfl, rfl⟩
  go_wp2
  go_ret
  exact ⟨rfl, hg0⟩
set_option maxRecDepth 100000 in
set_option maxHeartbeats 1000000 in
theorem ksameCommit_same (w : World) (v u : Value) (c : Cmt) (hv : CommitIs w v c) (hu : CommitIs w u c) (hl : c.writes.length ≤ 1000000) :
    Calls Tryd.prog 18 #[v, u] w fun e w' => e = .returned (.bool true) ∧ w.grownBy w' none := by
  obtain ⟨a, cap, rfl⟩ := hv.agg
  obtain ⟨a2, cap2, rfl⟩ := hu.agg
  obtain ⟨U0, HU0, hgU, BU⟩ := alloc_named6 w (.cells #[.int .i64 c.turn, .slice a c.writes.length cap] 37)
  obtain ⟨W0, HW0, hgA, BA⟩ := alloc_named6 U0 (.cells #[.int .i64 c.turn, .slice a2 c.writes.length cap2] 37)
  have HW : Hid (W0 = (w.alloc (.cells #[.int .i64 c.turn, .slice a c.writes.length cap] 37)).alloc (.cells #[.int .i64 c.turn, .slice a2 c.writes.length cap2] 37)) := by show _ = _; rw [HW0.out, HU0.out]
  have hsz : U0.heap.size = w.heap.size + 1 := by rw [HU0.out]; simp
  rw [hsz] at BA
  clear hsz
  have hg0 := grown_trans hgU hgA
  have B0 : Hid (W0.heap[w.heap.size]? = some (.cells #[.int .i64 c.turn, .slice a c.writes.length cap] 37)) := pair_old hgA BU.out
  obtain ⟨c0, c1, _, _⟩ := pair_room (grown_refl W0 none) B0.out
  obtain ⟨d0, d1, _, _⟩ := pair_room (grown_refl W0 none) BA.out
  have HV := hv.writes.2
  have HU := hu.writes.2
  have hEE : (c.turn == c.turn) = true := by simp
  have hNN : (c.turn != c.turn) = false := by simp
  obtain ⟨T, hT⟩ : ∃ T, T = c.turn := ⟨_, rfl⟩
  rw [← hT] at HW B0 BA c0 d0 hEE hNN ⊢
  obtain ⟨ws, hws⟩ : ∃ ws, ws = c.writes := ⟨_, rfl⟩
  rw [← hws] at HW B0 BA c1 d1 HV HU hl ⊢
  clear hv hu hT hws HU0 HW0 BU hgU hgA
  go_enter Tryd.func18, Tryd.ntmps18
  go_upto_region 1 with fail
  rw [← HW.out]
  go_wp2_with fail
  go_loopw [5] (fun i wr => ∃ m : Nat, m ≤ ws.length ∧ i = .int .i64 (m : Int) ∧ W0.grownBy wr none) (fun i _ => ws.length - (intOf i).toNat)
  case atStart => exact ⟨0, by omega, rfl, grown_refl _ _⟩
  case round =>
    obtain ⟨m, hm, rfl, hg⟩ := hrel
    clear c0 c1 d0 d1
    obtain ⟨c0, c1, _, _⟩ := pair_room hg B0.out
    obtain ⟨d0, d1, _, _⟩ := pair_room hg BA.out
    by_cases hlt : m < ws.length
    · obtain ⟨b, o, rfl, hat⟩ := HV.at m hlt
      obtain ⟨b2, o2, rfl, hat2⟩ := HU.at m hlt
      have hgd := grown_drew (grown_refl wr none)
      obtain ⟨vn, vk, vv, x1, x2, x3, x4, s1, s2, s3⟩ := hat.grown (grown_trans hg0 hg)
      obtain ⟨un, uk, uv, y1, y2, y3, y4, r1, r2, r3⟩ := hat2.grown (grown_trans hg0 hg)
      generalize ws.getD m noPlc = P at *
      have SW : Hid (Calls Tryd.prog 31 #[.agg #[vn, vk, .bool P.gone, vv], .agg #[un, uk, .bool P.gone, uv]] wr.drew fun e w' => e = .returned (.bool true) ∧ wr.drew.grownBy w' none) := ksameWrite_same _ _ _ P ⟨vn, vk, vv, rfl, s1.grown hgd, s2.grown hgd, s3.grown hgd⟩ ⟨un, uk, uv, rfl, r1.grown hgd, r2.grown hgd, r3.grown hgd⟩
      obtain ⟨a1, k1, rfl⟩ := s1.shape
      obtain ⟨a2, k2, rfl⟩ := s2.shape
      obtain ⟨a3, k3, rfl⟩ := s3.shape
      obtain ⟨b1, e1, rfl⟩ := r1.shape
      obtain ⟨b2', e2, rfl⟩ := r2.shape
      obtain ⟨b3, e3, rfl⟩ := r3.shape
      have i1 : (m : Int) < (ws.length : Int) := by omega
      clear hat hat2 s1 s2 s3 r1 r2 r3 HV HU
      generalize P.gone = g at *
      generalize P.name.length = n1 at *
      generalize P.key.length = n2 at *
      generalize P.value.length = n3 at *
      go_upto_region 6 with fail
      go_region_with (go_at_call 31; refine SW.out.mono ?_; rintro e w2 ⟨rfl, hg2⟩)
      all_goals (
        go_wp2_with fail
        go_roundw
        case rel => exact ⟨m + 1, by omega, by go_num, grown_trans hg (grown_trans hgd hg2)⟩
        case measure => simp [intOf]; omega)
    · obtain rfl : m = ws.length := by omega
      go_wp2
      go_ret
      exact ⟨rfl, grown_trans hg0 hg⟩
end Go.Proofs.YtkheombfjgjedacDoor
