/-
  history.grown, as it landed: the forest behind one commit more.
-/
import Derived.Test.YtljdconhplgipabPart2
import Derived.Test.YtljdconhplgipabPart9
import Derived.Test.YtljdconhplgipabTpCheckP
namespace Go.Proofs.Ytljdconhplgipab
open Go.RowKit
theorem ret_two {x : Value} {a b : Int} (h : a = b) : Ending.returned (Value.tuple #[x, .int .i64 b]) = Ending.returned (Value.tuple #[x, .int .i64 a]) := by rw [h]
set_option maxRecDepth 100000 in
set_option maxHeartbeats 2000000 in
theorem grown_any (w : World) (v vc : Value) (f : FL) (c : Cmt) (t : Int) (hv : TensIs w v f) (hf : FitsT f) (hc : CommitIs w vc c) (hcf : FitsC c) :
    Calls Try.prog 26 #[v, vc, .int .i64 t] w fun e w' => ∃ x, e = .returned (.tuple #[x, .int .i64 (grownE f c t)]) ∧ OwnT 0 w' x (grownF f c t) ∧ w.grownBy w' none := by
  obtain ⟨a, cap, rfl⟩ := hc.agg
  obtain ⟨va, vcap, rfl⟩ := hv.shape
  obtain ⟨W0, HW0, hg0, B0⟩ := alloc_namedT w (.cells #[.int .i64 c.turn, .slice a c.writes.length cap] 48)
  obtain ⟨c0, c1, _, _⟩ := pair_room (grown_refl W0 none) B0.out
  have CK : Hid (Calls Try.prog 48 #[.agg #[.int .i64 c.turn, .slice a c.writes.length cap]] W0 fun e w' => e = .returned (.int .i64 (commitE c)) ∧ W0.grownBy w' none) := tpcheck_ok W0 _ c (hc.grown hg0) hcf
  have HV : Hid (TensIs W0 (.slice va f.length vcap) f) := hv.grown hg0
  have HW : Hid (WritesIs W0 (.slice a c.writes.length cap) c.writes) := hc.writes.2.grown hg0
  have AP : Hid (∀ w', W0.grownBy w' none → Calls Try.prog 12 #[.slice va f.length vcap, .slice a c.writes.length cap] w' fun e w'' => ∃ x, e = .returned (.tuple #[x, .int .i64 (appliedE f c.writes)]) ∧ OwnT w'.heap.size w'' x (appliedF f c.writes) ∧ w'.grownBy w'' none) := fun w' h => fapply_new w' _ _ f c.writes (HV.out.grown h) (HW.out.grown h) hf hcf.writes
  obtain ⟨z, hz⟩ : ∃ z, z = grownE f c t := ⟨_, rfl⟩
  obtain ⟨Z, hZ⟩ : ∃ Z, Z = grownF f c t := ⟨_, rfl⟩
  have HZ1 : Hid (commitE c ≠ 0 → z = commitE c ∧ Z = []) := fun h => by
    have : grownE f c t = commitE c := by rw [grownE, if_neg h]
    exact ⟨by rw [hz, this], by rw [hZ, grownF, if_neg (by rw [this]; exact h)]⟩
  have HZ2 : Hid (commitE c = 0 → c.turn ≠ t → z = 3 ∧ Z = []) := fun h h2 => by
    have : grownE f c t = 3 := by rw [grownE, if_pos h, if_neg h2]
    exact ⟨by rw [hz, this], by rw [hZ, grownF, if_neg (by rw [this]; omega)]⟩
  have HZ3 : Hid (commitE c = 0 → c.turn = t → z = appliedE f c.writes ∧ Z = appliedF f c.writes) := fun h h2 => by
    have : grownE f c t = appliedE f c.writes := by rw [grownE, if_pos h, if_pos h2]
    refine ⟨by rw [hz, this], ?_⟩
    rw [hZ, grownF, this]
    by_cases h3 : appliedE f c.writes = 0
    · rw [if_pos h3]
    · rw [if_neg h3, appliedF, if_neg h3]
  rw [← hz, ← hZ]
  clear hz hZ hc hv hf hcf HV HW
  generalize commitE c = y at *
  generalize c.turn = ct at *
  generalize appliedE f c.writes = AE at *
  generalize appliedF f c.writes = AF at *
  go_enter Try.func26, Try.ntmps26
  go_upto_region 1 with fail
  rw [← HW0.out]
  go_wp2_with fail
  refine CK.out.mono ?_
  rintro e w1 ⟨rfl, hg1⟩
  obtain ⟨d0, d1, _, _⟩ := pair_room hg1 B0.out
  by_cases hy : y = 0
  · subst hy
    by_cases ht : ct = t
    · subst ht
      have hE := HZ3.out rfl rfl
      have HE1 : Hid (z = AE) := hE.1
      have HE2 : Hid (Z = AF) := hE.2
      clear HZ1 HZ2 HZ3 hE
      go_wp2_with fail
      refine (AP.out _ hg1).mono ?_
      rintro e w2 ⟨x, rfl, ho, hg2⟩
      go_wp2
      go_ret2
      exact ⟨x, ret_two HE1.out, by rw [HE2.out]; exact ho.down 0 (Nat.zero_le _), grown_trans hg0 (grown_trans hg1 hg2)⟩
    · have hE := HZ2.out rfl ht
      have HE1 : Hid (z = 3) := hE.1
      have HE2 : Hid (Z = []) := hE.2
      clear HZ1 HZ2 HZ3 hE
      have ht' : (ct != t) = true := by simpa using ht
      clear ht
      go_wp2
      go_ret2
      exact ⟨_, ret_two HE1.out, by rw [HE2.out]; exact ownT_nil _ _, grown_trans hg0 hg1⟩
  · have hE := HZ1.out hy
    have HE1 : Hid (z = y) := hE.1
    have HE2 : Hid (Z = []) := hE.2
    clear HZ1 HZ2 HZ3 hE
    have hy' : (y != 0) = true := by simpa using hy
    clear hy
    go_wp2
    go_ret2
    exact ⟨_, ret_two HE1.out, by rw [HE2.out]; exact ownT_nil _ _, grown_trans hg0 hg1⟩
end Go.Proofs.Ytljdconhplgipab
