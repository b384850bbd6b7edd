/-
  The walk of moved of the document's answer.
-/
import Derived.Test.YtdpoickggdgddaaDoorRPar
namespace Go.Proofs.YtdpoickggdgddaaDoor
open Go.RowKit
/-- Where the walk of the lanes stands. -/
def xyT : Nat → Nat × Nat
  | 0 => (1, 0)
  | t + 1 => ((xyT t).2, (2 * (xyT t).1 + 3 * (xyT t).2) % 5)
theorem xyT_lt (t : Nat) : (xyT t).1 < 5 ∧ (xyT t).2 < 5 := by
  induction t with
  | zero => decide
  | succ t ih => exact ⟨ih.2, Nat.mod_lt _ (by decide)⟩
def movedTo (st : List (BitVec 64)) : Nat → List (BitVec 64)
  | 0 => (outL fun _ => 0).set 0 (st.getD 0 0)
  | t + 1 => (movedTo st t).set ((xyT t).2 + 5 * ((2 * (xyT t).1 + 3 * (xyT t).2) % 5)) (rotl (st.getD ((xyT t).1 + 5 * (xyT t).2) 0) ((t + 1) * (t + 2) / 2 % 64))
set_option maxRecDepth 100000 in
set_option maxHeartbeats 1000000 in
theorem moved_any (w : World) (b : Nat) (st : List (BitVec 64)) (h : ILanes 25 w b st) :
    Calls Tryd.prog 47 #[.slice (some ⟨b, 0, none⟩) 25 25] w fun e w' => e = .returned (.slice (some ⟨w.heap.size, 0, none⟩) 25 25) ∧ ILanes 25 w' w.heap.size (movedTo st 24) ∧ w.grownBy w' none := by
  have hmk := make25
  have hbn : b ≠ w.heap.size := Nat.ne_of_lt h.lt
  have h1 := h.alloc (.cells (icellsOf (outL fun _ => 0)) 3)
  have c0 := h1.cell 0 (by omega)
  have o1 := ILanes.new (n := 25) w 3 (outL fun _ => 0) (outL_len _)
  have g1 : w.grownBy (w.alloc (.cells (icellsOf (outL fun _ => 0)) 3)) none := World.grownBy_alloc _ _ _
  have d0 := o1.cell 0 (by omega)
  have hf := o1.frozen 0
  have H1 : Hid (ILanes 25 (w.alloc (.cells (icellsOf (outL fun _ => 0)) 3)) b st) := h1
  have O1 : Hid (ILanes 25 (w.alloc (.cells (icellsOf (outL fun _ => 0)) 3)) w.heap.size (outL fun _ => 0)) := o1
  clear h1 o1
  have HM0 : Hid (movedTo st 0 = (outL fun _ => 0).set 0 (st.getD 0 0)) := rfl
  generalize hs0 : st.getD 0 0 = s0 at *
  go_enter Tryd.func47, Tryd.ntmps47
  go_upto_region 2 with fail
  clear hmk
  generalize w.alloc (.cells (icellsOf (outL fun _ => 0)) 3) = W1 at *
  go_wp2_with fail
  go_loopw [4, 5, 6] (fun xv yv i wr => ∃ t : Nat, t ≤ 24 ∧ i = .int .i64 (t : Int) ∧ xv = .int .i64 ((xyT t).1 : Int) ∧ yv = .int .i64 ((xyT t).2 : Int) ∧ ILanes 25 wr b st ∧ ILanes 25 wr w.heap.size (movedTo st t) ∧ w.grownBy wr none) (fun _ _ i _ => 24 - (intOf i).toNat)
  case atStart =>
    refine ⟨0, by omega, rfl, rfl, rfl, H1.out.setOther _ hbn _ _, ?_, grown_setNew g1 _ (Nat.le_refl _) _ _⟩
    rw [HM0.out]
    exact O1.out.set 0 _
  case round =>
    clear c0 d0 hf H1 O1 HM0 g1
    obtain ⟨t, ht, rfl, rfl, rfl, hst, ho, hg⟩ := hrel
    by_cases hlt : t < 24
    · have hxy := xyT_lt t
      have HN : Hid (movedTo st (t + 1) = (movedTo st t).set ((xyT t).2 + 5 * ((2 * (xyT t).1 + 3 * (xyT t).2) % 5)) (rotl (st.getD ((xyT t).1 + 5 * (xyT t).2) 0) ((t + 1) * (t + 2) / 2 % 64))) := rfl
      have HXY : Hid (xyT (t + 1) = ((xyT t).2, (2 * (xyT t).1 + 3 * (xyT t).2) % 5)) := rfl
      generalize (xyT t).1 = X at *
      generalize (xyT t).2 = Y at *
      have hU : (2 * X + 3 * Y) % 5 < 5 := Nat.mod_lt _ (by decide)
      have eU : (2 * (X : Int) + 3 * (Y : Int)) % 5 = (((2 * X + 3 * Y) % 5 : Nat) : Int) := by omega
      have hq0 : ((t : Int) + 1) * ((t : Int) + 2) = (((t + 1) * (t + 2) : Nat) : Int) := by simp
      have hq1 : (t + 1) * (t + 2) ≤ 24 * 25 := Nat.mul_le_mul (by omega) (by omega)
      generalize (t + 1) * (t + 2) = q at *
      generalize (2 * X + 3 * Y) % 5 = V at *
      have cc := hst.cell (X + 5 * Y) (by omega)
      have dd := ho.cell (Y + 5 * V) (by omega)
      have hf := ho.frozen (Y + 5 * V)
      generalize st.getD (X + 5 * Y) 0 = sv at *
      generalize (movedTo st t).getD (Y + 5 * V) 0 = ov at *
      have HO : Hid (ILanes 25 wr w.heap.size (movedTo st t)) := ho
      clear ho
      have e1 : ((X : Int) + 5 * (Y : Int)).toNat = X + 5 * Y := by omega
      have e2 : ((Y : Int) + 5 * (V : Int)).toNat = Y + 5 * V := by omega
      have i1 : (X : Int) + 5 * (Y : Int) < 25 := by omega
      have i2 : (Y : Int) + 5 * (V : Int) < 25 := by omega
      go_wp2_with fail
      rw [show (q : Int) / 2 % 64 = ((q / 2 % 64 : Nat) : Int) by omega]
      refine (turned_any sv (q / 2 % 64) (Nat.mod_lt _ (by decide)) _).mono ?_
      rintro e w1 ⟨rfl, m, rfl⟩
      have HST : Hid (ILanes 25 wr b st) := hst
      clear hst
      go_wp2_with fail
      go_roundw
      case rel =>
        refine ⟨t + 1, by omega, by go_num, by rw [HXY.out], by rw [HXY.out], (HST.out.drewN _).setOther _ hbn _ _, ?_, grown_setNew (grown_drewN hg _) _ (Nat.le_refl _) _ _⟩
        rw [HN.out]
        exact (HO.out.drewN _).set _ _
      case measure => simp [intOf]; omega
    · obtain rfl : t = 24 := by omega
      go_wp2
      go_ret
      exact ⟨rfl, ho, hg⟩
end Go.Proofs.YtdpoickggdgddaaDoor
