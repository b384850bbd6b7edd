/-
  The walk of canopylaw's sameWrites: writes that are the same.
-/
import Derived.Test.YtghjikifflpeiaaDoorWrM0
import Derived.Test.YtghjikifflpeiaaDoorLSame
import Derived.BigQuiet
import Derived.Deep.RegionHeld3
import Derived.Deep.RegionWith
import Derived.Handy
namespace Go.Proofs.YtghjikifflpeiaaDoor
open Go.RowKit
set_option maxRecDepth 100000 in
set_option maxHeartbeats 4000000 in
theorem sameWrites_same (w : World) (v u : Value) (l : List Plc) (hv : WritesIs w v l) (hu : WritesIs w u l) (hl : FitsW l) :
    Calls Tryd.prog 24 #[v, u] w fun e w' => e = .returned (.bool true) ∧ w.grownBy w' none := by
  obtain ⟨a, cap, rfl⟩ := hv.shape
  obtain ⟨a2, cap2, rfl⟩ := hu.shape
  have hmany := hl.many
  clear hl
  go_enter Tryd.func24, Tryd.ntmps24
  go_wp2_with fail
  go_loopw [5] (fun i wr => ∃ m : Nat, m ≤ l.length ∧ i = .int .i64 (m : Int) ∧ w.grownBy wr none) (fun i _ => l.length - (intOf i).toNat)
  case atStart => exact ⟨0, by omega, rfl, grown_refl _ _⟩
  case round =>
    obtain ⟨m, hm, rfl, hg⟩ := hrel
    by_cases hlt : m < l.length
    · obtain ⟨b, o, rfl, hat⟩ := hv.at m hlt
      obtain ⟨b2, o2, rfl, hat2⟩ := hu.at m hlt
      obtain ⟨vn, vk, vv, c1, c2, c3, c4, s1, s2, s3⟩ := hat.grown hg
      obtain ⟨un, uk, uv, d1, d2, d3, d4, r1, r2, r3⟩ := hat2.grown hg
      generalize l.getD m noPlc = P at *
      have S1 : Hid (∀ w', wr.grownBy w' none → Calls Tryd.prog 14 #[vn, un] w' fun e w'' => e = .returned (.bool true) ∧ w'' = w') := fun w' hg' => by
        have := sameBytes_any w' vn un P.name P.name (s1.grown hg') (r1.grown hg')
        rw [decide_eq_true rfl] at this
        exact this
      have S2 : Hid (∀ w', wr.grownBy w' none → Calls Tryd.prog 14 #[vk, uk] w' fun e w'' => e = .returned (.bool true) ∧ w'' = w') := fun w' hg' => by
        have := sameBytes_any w' vk uk P.key P.key (s2.grown hg') (r2.grown hg')
        rw [decide_eq_true rfl] at this
        exact this
      have S3 : Hid (∀ w', wr.grownBy w' none → Calls Tryd.prog 14 #[vv, uv] w' fun e w'' => e = .returned (.bool true) ∧ w'' = w') := fun w' hg' => by
        have := sameBytes_any w' vv uv P.value P.value (s3.grown hg') (r3.grown hg')
        rw [decide_eq_true rfl] at this
        exact this
      obtain ⟨a1, k1, rfl⟩ := s1.shape
      obtain ⟨a3, k3, rfl⟩ := s2.shape
      obtain ⟨a4, k4, rfl⟩ := s3.shape
      obtain ⟨t1, q1, rfl⟩ := r1.shape
      obtain ⟨t3, q3, rfl⟩ := r2.shape
      obtain ⟨t4, q4, rfl⟩ := r3.shape
      have i1 : (m : Int) < (l.length : Int) := by omega
      have hgd := grown_drew (grown_refl wr none)
      generalize P.name.length = n1 at *
      generalize P.key.length = n2 at *
      generalize P.value.length = n3 at *
      generalize P.gone = go at *
      have hbb : (go != go) = false := by simp
      clear hat hat2 s1 s2 s3 r1 r2 r3
      go_upto_region 6 with fail
      go_quiet (first
        | (go_at_call_of 14 (Value.slice a1 n1 k1); exact Calls.quiet_of_same (S1.out _ (grown_drewN (grown_refl wr none) _)))
        | (go_at_call_of 14 (Value.slice a3 n2 k3); exact Calls.quiet_of_same (S2.out _ (grown_drewN (grown_refl wr none) _)))
        | (go_at_call_of 14 (Value.slice a4 n3 k4); exact Calls.quiet_of_same (S3.out _ (grown_drewN (grown_refl wr none) _))))
      go_wp2_with fail
      go_roundw
      case rel => exact ⟨m + 1, by omega, by go_num, grown_drewN hg _⟩
      case measure => simp [intOf]; omega
    · obtain rfl : m = l.length := by omega
      go_wp2
      go_ret
      exact ⟨rfl, hg⟩
end Go.Proofs.YtghjikifflpeiaaDoor
