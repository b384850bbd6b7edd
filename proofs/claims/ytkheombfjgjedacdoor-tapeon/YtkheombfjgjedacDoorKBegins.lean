/-
  The walk of canopykeep's begins, where all is the same.
-/
import Derived.Test.YtkheombfjgjedacDoorPart4
import Derived.Test.YtkheombfjgjedacDoorKSameC
import Derived.Deep.RegionWith
namespace Go.Proofs.YtkheombfjgjedacDoor
open Go.RowKit
set_option maxRecDepth 100000 in
set_option maxHeartbeats 1000000 in
theorem begins_same (w : World) (v u : Value) (la lb : List Cmt) (hv : CommitsIs w v la) (hu : CommitsIs w u lb) (hll : la.length ≤ lb.length) (hlb : lb.length ≤ 1000000) (he : ∀ i, i < la.length → la.getD i noCmt = lb.getD i noCmt) (hf : ∀ i, i < la.length → (la.getD i noCmt).writes.length ≤ 1000000) :
    Calls Tryd.prog 15 #[v, u] w fun e w' => e = .returned (.bool true) ∧ w.grownBy w' none := by
  obtain ⟨a, cap, rfl⟩ := hv.shape
  obtain ⟨a2, cap2, rfl⟩ := hu.shape
  have HE : Hid (∀ i, i < la.length → la.getD i noCmt = lb.getD i noCmt) := he
  have HF : Hid (∀ i, i < la.length → (la.getD i noCmt).writes.length ≤ 1000000) := hf
  have j0 : ¬ (la.length : Int) > (lb.length : Int) := by omega
  clear he hf
  go_enter Tryd.func15, Tryd.ntmps15
  go_wp2_with fail
  go_loopw [5] (fun i wr => ∃ m : Nat, m ≤ la.length ∧ i = .int .i64 (m : Int) ∧ w.grownBy wr none) (fun i _ => la.length - (intOf i).toNat)
  case atStart => exact ⟨0, by omega, rfl, grown_refl _ _⟩
  case round =>
    obtain ⟨m, hm, rfl, hg⟩ := hrel
    by_cases hlt : m < la.length
    · obtain ⟨b, o, rfl, hat⟩ := hv.at m hlt
      obtain ⟨b2, o2, rfl, hat2⟩ := hu.at m (by omega)
      have hgd := grown_drew (grown_refl wr none)
      obtain ⟨vs, x1, x2, s1⟩ := hat.grown hg
      obtain ⟨us, y1, y2, r1⟩ := hat2.grown hg
      rw [← HE.out m hlt] at y1 r1
      have hwl := HF.out m hlt
      generalize la.getD m noCmt = P at *
      have SC : Hid (Calls Tryd.prog 18 #[.agg #[.int .i64 P.turn, vs], .agg #[.int .i64 P.turn, us]] wr.drew fun e w' => e = .returned (.bool true) ∧ wr.drew.grownBy w' none) := ksameCommit_same _ _ _ P ⟨vs, rfl, s1.grown hgd⟩ ⟨us, rfl, r1.grown hgd⟩ hwl
      obtain ⟨a1, k1, rfl⟩ := s1.shape
      obtain ⟨b1, e1, rfl⟩ := r1.shape
      have i1 : (m : Int) < (la.length : Int) := by omega
      have i2 : (m : Int) < (lb.length : Int) := by omega
      clear hat hat2 s1 r1 hwl
      generalize P.turn = T at *
      generalize P.writes.length = n1 at *
      go_upto_region 6 with fail
      go_region_with (go_at_call 18; refine SC.out.mono ?_; rintro e w2 ⟨rfl, hg2⟩)
      all_goals (
        go_wp2_with fail
        go_roundw
        case rel => exact ⟨m + 1, by omega, by go_num, grown_trans hg (grown_trans hgd hg2)⟩
        case measure => simp [intOf]; omega)
    · obtain rfl : m = la.length := by omega
      go_wp2
      go_ret
      exact ⟨rfl, hg⟩
end Go.Proofs.YtkheombfjgjedacDoor
