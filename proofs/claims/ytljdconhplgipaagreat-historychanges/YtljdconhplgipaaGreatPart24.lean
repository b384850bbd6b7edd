/-
  Texts of this proof, joined: LSameW, LSameC, LSameCs.
-/
import Derived.Test.YtljdconhplgipaaGreatWrMem
import Derived.Test.YtljdconhplgipaaGreatLSame
import Derived.BigQuiet
import Derived.Deep.RegionHeld3
import Derived.Deep.RegionWith
import Derived.Handy
import Derived.Test.YtljdconhplgipaaGreatPart4
/-
  The walk of canopylaw's sameWrites: writes that are the same.
-/
namespace Go.Proofs.YtljdconhplgipaaGreat
open Go.RowKit
set_option maxRecDepth 100000 in
set_option maxHeartbeats 4000000 in
theorem sameWrites_same (w : World) (v u : Value) (l : List Plc) (hv : WritesIs w v l) (hu : WritesIs w u l) (hl : FitsW l) :
    Calls Tryz.prog 7 #[v, u] w fun e w' => e = .returned (.bool true) ∧ w.grownBy w' none := by
  obtain ⟨a, cap, rfl⟩ := hv.shape
  obtain ⟨a2, cap2, rfl⟩ := hu.shape
  have hmany := hl.many
  clear hl
  go_enter Tryz.func7, Tryz.ntmps7
  go_wp2_with fail
  go_loopw [5] (fun i wr => ∃ m : Nat, m ≤ l.length ∧ i = .int .i64 (m : Int) ∧ w.grownBy wr none) (fun i _ => l.length - (intOf i).toNat)
  case atStart => exact ⟨0, by omega, rfl, grown_refl _ _⟩
  case round =>
    obtain ⟨m, hm, rfl, hg⟩ := hrel
    by_cases hlt : m < l.length
    · obtain ⟨b, o, rfl, hat⟩ := hv.at m hlt
      obtain ⟨b2, o2, rfl, hat2⟩ := hu.at m hlt
      obtain ⟨vn, vk, vv, c1, c2, c3, c4, s1, s2, s3⟩ := hat.grown hg
      obtain ⟨un, uk, uv, d1, d2, d3, d4, r1, r2, r3⟩ := hat2.grown hg
      generalize l.getD m noPlc = P at *
      have S1 : Hid (∀ w', wr.grownBy w' none → Calls Tryz.prog 19 #[vn, un] w' fun e w'' => e = .returned (.bool true) ∧ w'' = w') := fun w' hg' => by
        have := sameBytes_any w' vn un P.name P.name (s1.grown hg') (r1.grown hg')
        rw [decide_eq_true rfl] at this
        exact this
      have S2 : Hid (∀ w', wr.grownBy w' none → Calls Tryz.prog 19 #[vk, uk] w' fun e w'' => e = .returned (.bool true) ∧ w'' = w') := fun w' hg' => by
        have := sameBytes_any w' vk uk P.key P.key (s2.grown hg') (r2.grown hg')
        rw [decide_eq_true rfl] at this
        exact this
      have S3 : Hid (∀ w', wr.grownBy w' none → Calls Tryz.prog 19 #[vv, uv] w' fun e w'' => e = .returned (.bool true) ∧ w'' = w') := fun w' hg' => by
        have := sameBytes_any w' vv uv P.value P.value (s3.grown hg') (r3.grown hg')
        rw [decide_eq_true rfl] at this
        exact this
      obtain ⟨a1, k1, rfl⟩ := s1.shape
      obtain ⟨a3, k3, rfl⟩ := s2.shape
      obtain ⟨a4, k4, rfl⟩ := s3.shape
      obtain ⟨t1, q1, rfl⟩ := r1.shape
      obtain ⟨t3, q3, rfl⟩ := r2.shape
      obtain ⟨t4, q4, rfl⟩ := r3.shape
      have i1 : (m : Int) < (l.length : Int) := by omega
      have hgd := grown_drew (grown_refl wr none)
      generalize P.name.length = n1 at *
      generalize P.key.length = n2 at *
      generalize P.value.length = n3 at *
      generalize P.gone = go at *
      have hbb : (go != go) = false := by simp
      clear hat hat2 s1 s2 s3 r1 r2 r3
      go_upto_region 6 with fail
      go_quiet (first
        | (go_at_call_of 19 (Value.slice a1 n1 k1); exact Calls.quiet_of_same (S1.out _ (grown_drewN (grown_refl wr none) _)))
        | (go_at_call_of 19 (Value.slice a3 n2 k3); exact Calls.quiet_of_same (S2.out _ (grown_drewN (grown_refl wr none) _)))
        | (go_at_call_of 19 (Value.slice a4 n3 k4); exact Calls.quiet_of_same (S3.out _ (grown_drewN (grown_refl wr none) _))))
      go_wp2_with fail
      go_roundw
      case rel => exact ⟨m + 1, by omega, by go_num, grown_drewN hg _⟩
      case measure => simp [intOf]; omega
    · obtain rfl : m = l.length := by omega
      go_wp2
      go_ret
      exact ⟨rfl, hg⟩
end Go.Proofs.YtljdconhplgipaaGreat

/-
  The walk of canopylaw's sameCommit, where both are the same.
-/
namespace Go.Proofs.YtljdconhplgipaaGreat
open Go.RowKit
set_option maxRecDepth 100000 in
theorem sameCommit_same (w : World) (v u : Value) (c : Cmt) (hv : CommitIs w v c) (hu : CommitIs w u c) (hl : FitsW c.writes) :
    Calls Tryz.prog 20 #[v, u] w fun e w' => e = .returned (.bool true) ∧ w.grownBy w' none := by
  obtain ⟨a, cap, rfl⟩ := hv.agg
  obtain ⟨a2, cap2, rfl⟩ := hu.agg
  obtain ⟨W0, hW0⟩ : ∃ W0 : World, W0 = (w.alloc (.cells #[.int .i64 c.turn, .slice a c.writes.length cap] 32)).alloc (.cells #[.int .i64 c.turn, .slice a2 c.writes.length cap2] 32) := ⟨_, rfl⟩
  have HW0 : Hid (W0 = (w.alloc (.cells #[.int .i64 c.turn, .slice a c.writes.length cap] 32)).alloc (.cells #[.int .i64 c.turn, .slice a2 c.writes.length cap2] 32)) := hW0
  have hg0 : w.grownBy W0 none := by rw [hW0]; exact grown_alloc (grown_alloc (grown_refl _ _) _) _
  have c0 : W0.cell? ⟨w.heap.size, 0, none⟩ = some (.int .i64 c.turn) := by rw [hW0]; simp
  have c1 : W0.cell? ⟨w.heap.size, 1, none⟩ = some (.slice a c.writes.length cap) := by rw [hW0]; simp
  have d0 : W0.cell? ⟨w.heap.size + 1, 0, none⟩ = some (.int .i64 c.turn) := by rw [hW0]; simp
  have d1 : W0.cell? ⟨w.heap.size + 1, 1, none⟩ = some (.slice a2 c.writes.length cap2) := by rw [hW0]; simp
  have SW : Hid (Calls Tryz.prog 7 #[.slice a c.writes.length cap, .slice a2 c.writes.length cap2] W0 fun e w' => e = .returned (.bool true) ∧ W0.grownBy w' none) := sameWrites_same W0 _ _ c.writes (hv.writes.2.grown hg0) (hu.writes.2.grown hg0) hl
  have hEE : (c.turn == c.turn) = true := by simp
  clear hv hu hl hW0
  generalize c.turn = T at *
  generalize c.writes.length = n at *
  go_enter Tryz.func20, Tryz.ntmps20
  go_upto_region 1 with fail
  rw [← HW0.out]
  go_wp2_with fail
  refine SW.out.mono ?_
  rintro e w1 ⟨rfl, hg1⟩
  go_wp2
  go_ret
  exact ⟨rfl, grown_trans hg0 hg1⟩
end Go.Proofs.YtljdconhplgipaaGreat

/-
  The walk of canopylaw's sameCommits, where both are the same.
-/
namespace Go.Proofs.YtljdconhplgipaaGreat
open Go.RowKit
set_option maxRecDepth 100000 in
set_option maxHeartbeats 1000000 in
theorem sameCommits_same (w : World) (v u : Value) (l : List Cmt) (hv : CommitsIs w v l) (hu : CommitsIs w u l) (hlb : l.length ≤ 140737488355328) (hf : ∀ i, i < l.length → FitsW (l.getD i noCmt).writes) :
    Calls Tryz.prog 8 #[v, u] w fun e w' => e = .returned (.bool true) ∧ w.grownBy w' none := by
  obtain ⟨a, cap, rfl⟩ := hv.shape
  obtain ⟨a2, cap2, rfl⟩ := hu.shape
  have HF : Hid (∀ i, i < l.length → FitsW (l.getD i noCmt).writes) := hf
  clear hf
  go_enter Tryz.func8, Tryz.ntmps8
  go_wp2_with fail
  go_loopw [5] (fun i wr => ∃ m : Nat, m ≤ l.length ∧ i = .int .i64 (m : Int) ∧ w.grownBy wr none) (fun i _ => l.length - (intOf i).toNat)
  case atStart => exact ⟨0, by omega, rfl, grown_refl _ _⟩
  case round =>
    obtain ⟨m, hm, rfl, hg⟩ := hrel
    by_cases hlt : m < l.length
    · obtain ⟨b, o, rfl, hat⟩ := hv.at m hlt
      obtain ⟨b2, o2, rfl, hat2⟩ := hu.at m hlt
      have hgd := grown_drew (grown_refl wr none)
      obtain ⟨vs, x1, x2, s1⟩ := hat.grown hg
      obtain ⟨us, y1, y2, r1⟩ := hat2.grown hg
      have hwl := HF.out m hlt
      generalize l.getD m noCmt = P at *
      have SC : Hid (Calls Tryz.prog 20 #[.agg #[.int .i64 P.turn, vs], .agg #[.int .i64 P.turn, us]] wr.drew fun e w' => e = .returned (.bool true) ∧ wr.drew.grownBy w' none) := sameCommit_same _ _ _ P ⟨vs, rfl, s1.grown hgd⟩ ⟨us, rfl, r1.grown hgd⟩ hwl
      obtain ⟨a1, k1, rfl⟩ := s1.shape
      obtain ⟨b1, e1, rfl⟩ := r1.shape
      have i1 : (m : Int) < (l.length : Int) := by omega
      clear hat hat2 s1 r1 hwl
      generalize P.turn = T at *
      generalize P.writes.length = n1 at *
      go_upto_region 6 with fail
      go_region_with (go_at_call 20; refine SC.out.mono ?_; rintro e w2 ⟨rfl, hg2⟩)
      all_goals (
        go_wp2_with fail
        go_roundw
        case rel => exact ⟨m + 1, by omega, by go_num, grown_trans hg (grown_trans hgd hg2)⟩
        case measure => simp [intOf]; omega)
    · obtain rfl : m = l.length := by omega
      go_wp2
      go_ret
      exact ⟨rfl, hg⟩
end Go.Proofs.YtljdconhplgipaaGreat
