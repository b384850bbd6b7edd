/-
  The walk of canopylaw's sameActs: acts that are the same.
-/
import Derived.Test.YtpefggkhjocanaaDoorPart2
import Derived.Test.YtpefggkhjocanaaDoorLSame
import Derived.BigQuiet
import Derived.Deep.RegionHeld3
import Derived.Deep.RegionWith
import Derived.Handy
namespace Go.Proofs.YtpefggkhjocanaaDoor
open Go.RowKit
set_option maxRecDepth 100000 in
set_option maxHeartbeats 4000000 in
theorem sameActs_same (w : World) (v u : Value) (l : List Ac) (hv : ActsIs w v l) (hu : ActsIs w u l) (hmany : l.length ≤ 140737488355328) :
    Calls Tryd.prog 11 #[v, u] w fun e w' => e = .returned (.bool true) ∧ w.grownBy w' none := by
  obtain ⟨a, cap, rfl⟩ := hv.shape
  obtain ⟨a2, cap2, rfl⟩ := hu.shape
  go_enter Tryd.func11, Tryd.ntmps11
  go_wp2_with fail
  go_loopw [5] (fun i wr => ∃ m : Nat, m ≤ l.length ∧ i = .int .i64 (m : Int) ∧ w.grownBy wr none) (fun i _ => l.length - (intOf i).toNat)
  case atStart => exact ⟨0, by omega, rfl, grown_refl _ _⟩
  case round =>
    obtain ⟨m, hm, rfl, hg⟩ := hrel
    by_cases hlt : m < l.length
    · obtain ⟨b, o, rfl, hat⟩ := hv.at m hlt
      obtain ⟨b2, o2, rfl, hat2⟩ := hu.at m hlt
      obtain ⟨vd, c1, c2, c3, c4, s1⟩ := hat.grown hg
      obtain ⟨ud, d1, d2, d3, d4, r1⟩ := hat2.grown hg
      generalize l.getD m noAc = P at *
      have S1 : Hid (∀ w', wr.grownBy w' none → Calls Tryd.prog 25 #[vd, ud] w' fun e w'' => e = .returned (.bool true) ∧ w'' = w') := fun w' hg' => by
        have := sameBytes_any w' vd ud P.data P.data (s1.grown hg') (r1.grown hg')
        rw [decide_eq_true rfl] at this
        exact this
      obtain ⟨a1, k1, rfl⟩ := s1.shape
      obtain ⟨t1, q1, rfl⟩ := r1.shape
      have i1 : (m : Int) < (l.length : Int) := by omega
      have hgd := grown_drew (grown_refl wr none)
      generalize P.data.length = n1 at *
      generalize P.kind = pk at *
      generalize P.sess = ps at *
      generalize P.keep = pq at *
      clear hat hat2 s1 r1
      go_upto_region 6 with fail
      go_quiet (first
        | (go_at_call_of 25 (Value.slice a1 n1 k1); exact Calls.quiet_of_same (S1.out _ (grown_drewN (grown_refl wr none) _))))
      go_wp2_with fail
      go_roundw
      case rel => exact ⟨m + 1, by omega, by go_num, grown_drewN hg _⟩
      case measure => simp [intOf]; omega
    · obtain rfl : m = l.length := by omega
      go_wp2
      go_ret
      exact ⟨rfl, hg⟩
end Go.Proofs.YtpefggkhjocanaaDoor
