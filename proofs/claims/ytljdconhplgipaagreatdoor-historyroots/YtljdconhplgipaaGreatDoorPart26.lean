/-
  Texts of this proof, joined: RLanes, RPar, RMov, RRow, REq, RNum, RArith, RDig, RJoin, RParts.
-/
import Derived.Test.YtljdconhplgipaaGreatDoorRBits
import Derived.Test.YtljdconhplgipaaGreatDoorPart1
import Derived.Test.YtljdconhplgipaaGreatDoorBase
import Derived.KernelRfl
/-
  The walks of power, turned and column of the document's answer; lanes as signed numbers in memory.
-/
namespace Go.Proofs.YtljdconhplgipaaGreatDoor
open Go.RowKit
def icellsOf (st : List (BitVec 64)) : Array Value := (st.map fun x => Value.int .i64 (I x)).toArray
/-- Block b holds n lanes, as signed numbers. -/
structure ILanes (n : Nat) (w : World) (b : Nat) (st : List (BitVec 64)) : Prop where
  len : st.length = n
  blk : ∃ t, w.heap[b]? = some (.cells (icellsOf st) t (0, 0))
section
variable {n : Nat} {w : World} {b : Nat} {st : List (BitVec 64)}
theorem ILanes.cell (h : ILanes n w b st) (i : Nat) (hi : i < n) : w.cell? ⟨b, i, none⟩ = some (.int .i64 (I (st.getD i 0))) := by
  obtain ⟨t, hb⟩ := h.blk
  simp [World.cell?, hb, icellsOf, List.getElem?_map, List.getElem?_eq_getElem (show i < st.length by have := h.len; omega)]
theorem ILanes.frozen (h : ILanes n w b st) (i : Nat) : w.frozen? ⟨b, i, none⟩ = false := by
  obtain ⟨t, hb⟩ := h.blk
  simp [World.frozen?, hb]
theorem ILanes.lt (h : ILanes n w b st) : b < w.heap.size := by
  obtain ⟨t, hb⟩ := h.blk
  exact (Array.getElem?_eq_some_iff.1 hb).1
theorem icellsOf_set (st : List (BitVec 64)) (i : Nat) (x : BitVec 64) : (icellsOf st).setIfInBounds i (.int .i64 (I x)) = icellsOf (st.set i x) := by
  simp [icellsOf]
theorem ILanes.set (h : ILanes n w b st) (i : Nat) (x : BitVec 64) : ILanes n (w.setCell ⟨b, i, none⟩ (.int .i64 (I x))) b (st.set i x) := by
  obtain ⟨t, hb⟩ := h.blk
  refine ⟨by simp [h.len], t, ?_⟩
  simp only [World.setCell, Array.getElem?_modify, if_true, hb, Option.map_some]
  simp [icellsOf_set]
theorem ILanes.setOther (h : ILanes n w b st) (c : Nat) (hc : b ≠ c) (i : Nat) (v : Value) : ILanes n (w.setCell ⟨c, i, none⟩ v) b st := by
  obtain ⟨t, hb⟩ := h.blk
  exact ⟨h.len, t, by rw [Below.heap_setCell _ _ _ _ hc]; exact hb⟩
theorem ILanes.drewN (h : ILanes n w b st) (k : Nat) : ILanes n (w.drewN k) b st := ⟨h.len, h.blk⟩
theorem ILanes.drew (h : ILanes n w b st) : ILanes n w.drew b st := ⟨h.len, h.blk⟩
theorem ILanes.alloc (h : ILanes n w b st) (o : Obj) : ILanes n (w.alloc o) b st := by
  obtain ⟨t, hb⟩ := h.blk
  exact ⟨h.len, t, by rw [Below.heap_alloc _ _ _ h.lt]; exact hb⟩
theorem ILanes.grown (h : ILanes n w b st) {w' : World} {r : Option Nat} (hg : w.grownBy w' r) (hr : some b ≠ r) : ILanes n w' b st := by
  obtain ⟨t, hb⟩ := h.blk
  exact ⟨h.len, t, by rw [hg.block b h.lt hr]; exact hb⟩
theorem ILanes.new (w : World) (t : TypeId) (st : List (BitVec 64)) (hl : st.length = n) : ILanes n (w.alloc (.cells (icellsOf st) t)) w.heap.size st :=
  ⟨hl, t, heap_alloc_new w _⟩
end
theorem dbl (x : BitVec 64) : x + x = x <<< 1 := by
  apply BitVec.eq_of_toNat_eq
  rw [BitVec.toNat_add, BitVec.toNat_shiftLeft, Nat.shiftLeft_eq]
  omega
theorem shl_succ (k : Nat) : (1#64 <<< k) + (1#64 <<< k) = 1#64 <<< (k + 1) := by
  rw [dbl, BitVec.shiftLeft_add]
set_option maxRecDepth 100000 in
set_option maxHeartbeats 1000000 in
theorem power_any (n : Nat) (hn : n ≤ 64) (w : World) :
    Calls Tryz.prog 72 #[.int .i64 (n : Int)] w fun e w' => e = .returned (.int .i64 (I (1#64 <<< n))) ∧ w' = w := by
  go_enter Tryz.func72, Tryz.ntmps72
  go_wp2
  go_loop [3, 4] (fun p i => ∃ k : Nat, k ≤ n ∧ i = .int .i64 (k : Int) ∧ p = .int .i64 (I (1#64 <<< k))) (fun _ i => n - (intOf i).toNat)
  case atStart => exact ⟨0, by omega, rfl, rfl⟩
  case round =>
    obtain ⟨k, hk, rfl, rfl⟩ := hrel
    by_cases hlt : k < n
    · have HP : Hid (wrap64 (I (1#64 <<< k) + I (1#64 <<< k)) = I (1#64 <<< (k + 1))) := by show _ = _; rw [wrap64_eq, wrap_add_I, shl_succ]
      generalize I (1#64 <<< k) = P at *
      go_wp2
      go_round
      case rel => exact ⟨k + 1, by omega, by go_num, by rw [HP.out]⟩
      case measure => simp [intOf]; omega
    · obtain rfl : k = n := by omega
      go_wp2
      go_ret
      exact ⟨rfl, rfl⟩
theorem rotl_zero (x : BitVec 64) : rotl x 0 = x := by simp [rotl, BitVec.ushiftRight_eq_zero]
theorem mask_I (n : Nat) : wrap64 (I (1#64 <<< n) - 1) = I ((1#64 <<< n) - 1) := by
  rw [wrap64_eq, show (1 : Int) = I 1 by decide, wrap_sub_I]
theorem sar_mask (x : BitVec 64) (n : Nat) (h1 : 1 ≤ n) (h : n ≤ 63) : x.sshiftRight (64 - n) &&& ((1#64 <<< n) - 1) = x >>> (64 - n) := by
  have hm : (1#64 <<< n) - 1 = BitVec.ofNat 64 (2 ^ n - 1) := by
    have hp : 2 ^ n ≤ 2 ^ 63 := Nat.pow_le_pow_right (by decide) h
    have hq : 0 < 2 ^ n := Nat.two_pow_pos n
    apply BitVec.eq_of_toNat_eq
    rw [BitVec.toNat_sub, BitVec.toNat_shiftLeft, Nat.shiftLeft_eq, BitVec.toNat_ofNat]
    have h1 : (1 : BitVec 64).toNat = 1 := rfl
    have h2 : (1 % 2 ^ 64 : Nat) = 1 := by decide
    rw [h1, BitVec.toNat_ofNat, h2, Nat.one_mul]
    omega
  rw [hm]
  apply BitVec.eq_of_getLsbD_eq
  intro i hi
  rw [BitVec.getLsbD_and, BitVec.getLsbD_sshiftRight, BitVec.getLsbD_ofNat, BitVec.getLsbD_ushiftRight, Nat.testBit_two_pow_sub_one]
  by_cases hin : i < n
  · simp [hin, hi, show 64 - n + i < 64 by omega, show ¬ 64 ≤ i by omega]
  · simp [hin, BitVec.getLsbD_of_ge x (64 - n + i) (by omega)]
theorem mul_shl (x : BitVec 64) (n : Nat) : x * (1#64 <<< n) = x <<< n := by
  rw [BitVec.shiftLeft_eq_mul_twoPow x n, BitVec.twoPow_eq]
set_option maxRecDepth 100000 in
set_option maxHeartbeats 1000000 in
theorem turned_any (x : BitVec 64) (n : Nat) (hn : n < 64) (w : World) :
    Calls Tryz.prog 74 #[.int .i64 (I x), .int .i64 (n : Int)] w fun e w' => e = .returned (.int .i64 (I (rotl x n))) ∧ ∃ m, w' = w.drewN m := by
  by_cases h0 : n = 0
  · subst h0
    rw [rotl_zero]
    generalize I x = X at *
    go_enter Tryz.func74, Tryz.ntmps74
    go_wp2
    go_ret
    exact ⟨rfl, 0, rfl⟩
  · have hc : ((n : Int) == 0) = false := by rw [beq_eq_false_iff_ne]; omega
    have hp := fun W => power_any n (by omega) W
    have HPW : Hid (∀ W, Calls Tryz.prog 72 #[.int .i64 (n : Int)] W fun e w' => e = .returned (.int .i64 (I (1#64 <<< n))) ∧ w' = W) := hp
    clear hp
    have hx1 := I_lo x
    have hx2 := I_hi x
    have HR : Hid (I (rotl x n) = bits .or .i64 (wrap64 (I x * I (1#64 <<< n))) (bits .and .i64 (I x / 2 ^ (64 - n)) (wrap64 (I (1#64 <<< n) - 1)))) := by
      show _ = _
      rw [wrap64_eq, wrap_mul_I, mask_I n, shr_I, bits_and_I, sar_mask x n (by omega) (by omega), bits_or_I, mul_shl]; rfl
    generalize I (1#64 <<< n) = P at *
    generalize I x = X at *
    have i1 : (0 : Int) ≤ 64 - (n : Int) := by omega
    have e1 : (64 - (n : Int)).toNat = 64 - n := by omega
    have e2 : IntKind.i64.wrap (64 - (n : Int)) = 64 - (n : Int) := by rw [IntKind.wrap_i64]; omega
    go_enter Tryz.func74, Tryz.ntmps74
    go_wp2_with fail
    go_quiet ((go_at_call 72; exact Calls.quiet_of_same (HPW.out _)))
    go_wp2_with fail
    refine (HPW.out _).mono ?_
    rintro e w1 ⟨rfl, rfl⟩
    go_wp2_with fail
    go_ret
    exact ⟨by rw [HR.out]; rfl, _, rfl⟩
/-- All lanes of x mixed, one by one. -/
def colTo (st : List (BitVec 64)) (x : Nat) : Nat → BitVec 64
  | 0 => 0
  | y + 1 => colTo st x y ^^^ st.getD (x + 5 * y) 0
set_option maxRecDepth 100000 in
set_option maxHeartbeats 1000000 in
theorem column_any (w : World) (b : Nat) (st : List (BitVec 64)) (h : ILanes 25 w b st) (x : Nat) (hx : x < 5) :
    Calls Tryz.prog 73 #[.slice (some ⟨b, 0, none⟩) 25 25, .int .i64 (x : Int)] w fun e w' => e = .returned (.int .i64 (I (colTo st x 5))) ∧ w' = w := by
  go_enter Tryz.func73, Tryz.ntmps73
  go_wp2
  go_loop [5, 6] (fun c y => ∃ k : Nat, k ≤ 5 ∧ y = .int .i64 (k : Int) ∧ c = .int .i64 (I (colTo st x k))) (fun _ i => 5 - (intOf i).toNat)
  case atStart => exact ⟨0, by omega, rfl, by rw [colTo, I_zero]⟩
  case round =>
    obtain ⟨k, hk, rfl, rfl⟩ := hrel
    by_cases hlt : k < 5
    · have c0 := h.cell (x + 5 * k) (by omega)
      have HC : Hid (bits .xor .i64 (I (colTo st x k)) (I (st.getD (x + 5 * k) 0)) = I (colTo st x (k + 1))) := by show _ = _; rw [bits_xor_I]; rfl
      generalize I (colTo st x k) = C at *
      generalize I (st.getD (x + 5 * k) 0) = Y at *
      have e1 : ((x : Int) + 5 * (k : Int)).toNat = x + 5 * k := by omega
      have i1 : (x : Int) + 5 * (k : Int) < 25 := by omega
      have i2 : (0 : Int) ≤ (x : Int) + 5 * (k : Int) := by omega
      go_wp2
      go_round
      case rel => exact ⟨k + 1, by omega, by go_num, by rw [HC.out]⟩
      case measure => simp [intOf]; omega
    · obtain rfl : k = 5 := by omega
      go_wp2
      go_ret
      exact ⟨rfl, rfl⟩
end Go.Proofs.YtljdconhplgipaaGreatDoor

/-
  The walk of parities of the document's answer.
-/
namespace Go.Proofs.YtljdconhplgipaaGreatDoor
open Go.RowKit
/-- Twenty-five lanes, by their places. -/
def outL (g : Nat → BitVec 64) : List (BitVec 64) := (List.range 25).map g
theorem outL_len (g : Nat → BitVec 64) : (outL g).length = 25 := by simp [outL]
theorem outL_congr (g g' : Nat → BitVec 64) (h : ∀ j, j < 25 → g j = g' j) : outL g = outL g' := by
  unfold outL
  exact List.map_congr_left fun j hj => h j (List.mem_range.1 hj)
theorem outL_set (g : Nat → BitVec 64) (i : Nat) (v : BitVec 64) : (outL g).set i v = outL fun j => if j = i then v else g j := by
  apply List.ext_getElem?
  intro k
  rw [List.getElem?_set]
  simp only [outL, List.getElem?_map, List.length_map, List.length_range]
  by_cases hk : k < 25
  · rw [List.getElem?_range hk]
    by_cases he : i = k
    · subst he; simp [hk]
    · simp [he, show ¬ k = i from fun h => he h.symm]
  · rw [List.getElem?_eq_none (by simp; omega)]
    simp
    intro h; omega
theorem make25 (W : World) : (Instr.makeSlice 62 (.int .i64 25) (.int .i64 25)).run Tryz.prog W = .ok (.slice (some ⟨W.heap.size, 0, none⟩) 25 25) (W.alloc (.cells (icellsOf (outL fun _ => 0)) 3)) := by kernel_rfl
def parF (st : List (BitVec 64)) (i : Nat) : BitVec 64 := st.getD i 0 ^^^ colTo st ((i % 5 + 4) % 5) 5 ^^^ rotl (colTo st ((i % 5 + 1) % 5) 5) 1
theorem par_step (st : List (BitVec 64)) (x y : Nat) (hx : x < 5) :
    (outL fun j => if j % 5 < x ∨ (j % 5 = x ∧ j / 5 < y) then parF st j else 0).set (x + 5 * y) (parF st (x + 5 * y)) = outL fun j => if j % 5 < x ∨ (j % 5 = x ∧ j / 5 < y + 1) then parF st j else 0 := by
  rw [outL_set]
  refine outL_congr _ _ fun j _ => ?_
  by_cases he : j = x + 5 * y
  · subst he
    rw [if_pos rfl, if_pos (by omega)]
  · rw [if_neg he]
    by_cases h1 : j % 5 < x ∨ (j % 5 = x ∧ j / 5 < y)
    · rw [if_pos h1, if_pos (by omega)]
    · rw [if_neg h1, if_neg (by omega)]
set_option maxRecDepth 100000 in
set_option maxHeartbeats 1000000 in
theorem parities_any (w : World) (b : Nat) (st : List (BitVec 64)) (h : ILanes 25 w b st) :
    Calls Tryz.prog 51 #[.slice (some ⟨b, 0, none⟩) 25 25] w fun e w' => e = .returned (.slice (some ⟨w.heap.size, 0, none⟩) 25 25) ∧ ILanes 25 w' w.heap.size (outL (parF st)) ∧ w.grownBy w' none := by
  have hmk := make25
  have hbn : b ≠ w.heap.size := Nat.ne_of_lt h.lt
  go_enter Tryz.func51, Tryz.ntmps51
  go_wp2_with fail
  go_loopw [4] (fun i wr => ∃ x : Nat, x ≤ 5 ∧ i = .int .i64 (x : Int) ∧ ILanes 25 wr b st ∧ ILanes 25 wr w.heap.size (outL fun j => if j % 5 < x then parF st j else 0) ∧ w.grownBy wr none) (fun i _ => 5 - (intOf i).toNat)
  case atStart => exact ⟨0, by omega, rfl, h.alloc _, ILanes.new w 3 _ (outL_len _), grown_alloc (grown_refl _ _) _⟩
  case round =>
    clear hmk
    obtain ⟨x, hx, rfl, hst, ho, hg⟩ := hrel
    by_cases hlt : x < 5
    · have e1 : ((x : Int) + 4) % 5 = (((x + 4) % 5 : Nat) : Int) := by omega
      have e2 : ((x : Int) + 1) % 5 = (((x + 1) % 5 : Nat) : Int) := by omega
      have E1 : Hid (((x : Int) + 4) % 5 = (((x + 4) % 5 : Nat) : Int)) := e1
      have E2 : Hid (((x : Int) + 1) % 5 = (((x + 1) % 5 : Nat) : Int)) := e2
      clear e1 e2
      go_wp2_with fail
      rw [E1.out]
      refine (column_any _ b st hst _ (by omega)).mono ?_
      rintro e w1 ⟨rfl, rfl⟩
      go_wp2_with fail
      rw [E2.out]
      refine (column_any _ b st hst _ (by omega)).mono ?_
      rintro e w2 ⟨rfl, rfl⟩
      go_wp2_with fail
      have HPX : Hid (∀ y, y < 5 → parF st (x + 5 * y) = st.getD (x + 5 * y) 0 ^^^ colTo st ((x + 4) % 5) 5 ^^^ rotl (colTo st ((x + 1) % 5) 5) 1) := by
        intro y hy
        unfold parF
        rw [show (x + 5 * y) % 5 = x by omega]
      generalize colTo st ((x + 4) % 5) 5 = ca at *
      generalize colTo st ((x + 1) % 5) 5 = cb at *
      clear E1 E2
      go_loopw [7] (fun i wr => ∃ y : Nat, y ≤ 5 ∧ i = .int .i64 (y : Int) ∧ ILanes 25 wr b st ∧ ILanes 25 wr w.heap.size (outL fun j => if j % 5 < x ∨ (j % 5 = x ∧ j / 5 < y) then parF st j else 0) ∧ w.grownBy wr none) (fun i _ => 5 - (intOf i).toNat)
      case atStart =>
        refine ⟨0, by omega, rfl, hst, ?_, hg⟩
        rw [outL_congr _ (fun j => if j % 5 < x then parF st j else 0) (fun j _ => by simp)]
        exact ho
      case round =>
        clear hst ho hg h
        obtain ⟨y, hy, rfl, hst, ho, hg⟩ := hrel
        by_cases hly : y < 5
        · have c0 := hst.cell (x + 5 * y) (by omega)
          have d0 := ho.cell (x + 5 * y) (by omega)
          have hf := ho.frozen (x + 5 * y)
          have HP := HPX.out y hly
          have HPH : Hid (parF st (x + 5 * y) = st.getD (x + 5 * y) 0 ^^^ ca ^^^ rotl cb 1) := HP
          clear HP
          have HST : Hid (ILanes 25 wr b st) := hst
          have HO : Hid (ILanes 25 wr w.heap.size (outL fun j => if j % 5 < x ∨ (j % 5 = x ∧ j / 5 < y) then parF st j else 0)) := ho
          generalize (outL fun j => if j % 5 < x ∨ (j % 5 = x ∧ j / 5 < y) then parF st j else 0).getD (x + 5 * y) 0 = oo at *
          generalize st.getD (x + 5 * y) 0 = sv at *
          clear hst ho HPX
          have e1 : ((x : Int) + 5 * (y : Int)).toNat = x + 5 * y := by omega
          have i1 : (x : Int) + 5 * (y : Int) < 25 := by omega
          have i2 : (0 : Int) ≤ (x : Int) + 5 * (y : Int) := by omega
          have w1 : IntKind.i64.wrap (5 * (y : Int)) = 5 * (y : Int) := by rw [IntKind.wrap_i64]; omega
          have w2 : IntKind.i64.wrap ((x : Int) + 5 * (y : Int)) = (x : Int) + 5 * (y : Int) := by rw [IntKind.wrap_i64]; omega
          go_wp2_with fail
          go_region_with (go_at_call 74; refine (turned_any cb 1 (by omega) _).mono ?_; rintro e w' ⟨rfl, m, rfl⟩)
          all_goals go_wp2_with fail
          all_goals
            go_roundw
            case rel =>
              rw [bits_xor_I, bits_xor_I, ← HPH.out]
              refine ⟨y + 1, by omega, by go_num, (HST.out.drewN _).setOther _ hbn _ _, ?_, grown_setNew (grown_drewN hg _) _ (Nat.le_refl _) _ _⟩
              rw [← par_step st x y hlt]
              exact (HO.out.drewN _).set _ _
            case measure => simp [intOf]; omega
        · obtain rfl : y = 5 := by omega
          go_wp2_with fail
          go_roundw
          case rel =>
            have ho2 : ILanes 25 wr w.heap.size (outL fun j => if j % 5 < x + 1 then parF st j else 0) := by
              rw [outL_congr _ (fun j => if j % 5 < x ∨ (j % 5 = x ∧ j / 5 < 5) then parF st j else 0) (fun j hj => by
                by_cases h1 : j % 5 < x
                · rw [if_pos (by omega), if_pos (.inl h1)]
                · by_cases h2 : j % 5 = x
                  · rw [if_pos (by omega), if_pos (.inr ⟨h2, by omega⟩)]
                  · rw [if_neg (by omega), if_neg (by omega)])]
              exact ho
            first
              | exact ⟨x + 1, by omega, by go_num, hst, ho2, hg⟩
              | ((repeat apply Exists.intro); exact ⟨⟨x + 1, by omega, by go_num, hst, ho2, hg⟩, rfl⟩)
          case measure => simp [intOf]; omega
    · obtain rfl : x = 5 := by omega
      go_wp2
      go_ret
      refine ⟨rfl, ?_, hg⟩
      rw [outL_congr (parF st) (fun j => if j % 5 < 5 then parF st j else 0) (fun j _ => by rw [if_pos (by omega)])]
      exact ho
end Go.Proofs.YtljdconhplgipaaGreatDoor

/-
  The walk of moved of the document's answer.
-/
namespace Go.Proofs.YtljdconhplgipaaGreatDoor
open Go.RowKit
/-- Where the walk of the lanes stands. -/
def xyT : Nat → Nat × Nat
  | 0 => (1, 0)
  | t + 1 => ((xyT t).2, (2 * (xyT t).1 + 3 * (xyT t).2) % 5)
theorem xyT_lt (t : Nat) : (xyT t).1 < 5 ∧ (xyT t).2 < 5 := by
  induction t with
  | zero => decide
  | succ t ih => exact ⟨ih.2, Nat.mod_lt _ (by decide)⟩
def movedTo (st : List (BitVec 64)) : Nat → List (BitVec 64)
  | 0 => (outL fun _ => 0).set 0 (st.getD 0 0)
  | t + 1 => (movedTo st t).set ((xyT t).2 + 5 * ((2 * (xyT t).1 + 3 * (xyT t).2) % 5)) (rotl (st.getD ((xyT t).1 + 5 * (xyT t).2) 0) ((t + 1) * (t + 2) / 2 % 64))
set_option maxRecDepth 100000 in
set_option maxHeartbeats 1000000 in
theorem moved_any (w : World) (b : Nat) (st : List (BitVec 64)) (h : ILanes 25 w b st) :
    Calls Tryz.prog 52 #[.slice (some ⟨b, 0, none⟩) 25 25] w fun e w' => e = .returned (.slice (some ⟨w.heap.size, 0, none⟩) 25 25) ∧ ILanes 25 w' w.heap.size (movedTo st 24) ∧ w.grownBy w' none := by
  have hmk := make25
  have hbn : b ≠ w.heap.size := Nat.ne_of_lt h.lt
  have h1 := h.alloc (.cells (icellsOf (outL fun _ => 0)) 3)
  have c0 := h1.cell 0 (by omega)
  have o1 := ILanes.new (n := 25) w 3 (outL fun _ => 0) (outL_len _)
  have g1 : w.grownBy (w.alloc (.cells (icellsOf (outL fun _ => 0)) 3)) none := World.grownBy_alloc _ _ _
  have d0 := o1.cell 0 (by omega)
  have hf := o1.frozen 0
  have H1 : Hid (ILanes 25 (w.alloc (.cells (icellsOf (outL fun _ => 0)) 3)) b st) := h1
  have O1 : Hid (ILanes 25 (w.alloc (.cells (icellsOf (outL fun _ => 0)) 3)) w.heap.size (outL fun _ => 0)) := o1
  clear h1 o1
  have HM0 : Hid (movedTo st 0 = (outL fun _ => 0).set 0 (st.getD 0 0)) := rfl
  generalize hs0 : st.getD 0 0 = s0 at *
  go_enter Tryz.func52, Tryz.ntmps52
  go_upto_region 2 with fail
  clear hmk
  generalize w.alloc (.cells (icellsOf (outL fun _ => 0)) 3) = W1 at *
  go_wp2_with fail
  go_loopw [4, 5, 6] (fun xv yv i wr => ∃ t : Nat, t ≤ 24 ∧ i = .int .i64 (t : Int) ∧ xv = .int .i64 ((xyT t).1 : Int) ∧ yv = .int .i64 ((xyT t).2 : Int) ∧ ILanes 25 wr b st ∧ ILanes 25 wr w.heap.size (movedTo st t) ∧ w.grownBy wr none) (fun _ _ i _ => 24 - (intOf i).toNat)
  case atStart =>
    refine ⟨0, by omega, rfl, rfl, rfl, H1.out.setOther _ hbn _ _, ?_, grown_setNew g1 _ (Nat.le_refl _) _ _⟩
    rw [HM0.out]
    exact O1.out.set 0 _
  case round =>
    clear c0 d0 hf H1 O1 HM0 g1
    obtain ⟨t, ht, rfl, rfl, rfl, hst, ho, hg⟩ := hrel
    by_cases hlt : t < 24
    · have hxy := xyT_lt t
      have HN : Hid (movedTo st (t + 1) = (movedTo st t).set ((xyT t).2 + 5 * ((2 * (xyT t).1 + 3 * (xyT t).2) % 5)) (rotl (st.getD ((xyT t).1 + 5 * (xyT t).2) 0) ((t + 1) * (t + 2) / 2 % 64))) := rfl
      have HXY : Hid (xyT (t + 1) = ((xyT t).2, (2 * (xyT t).1 + 3 * (xyT t).2) % 5)) := rfl
      generalize (xyT t).1 = X at *
      generalize (xyT t).2 = Y at *
      have hU : (2 * X + 3 * Y) % 5 < 5 := Nat.mod_lt _ (by decide)
      have eU : (2 * (X : Int) + 3 * (Y : Int)) % 5 = (((2 * X + 3 * Y) % 5 : Nat) : Int) := by omega
      have hq0 : ((t : Int) + 1) * ((t : Int) + 2) = (((t + 1) * (t + 2) : Nat) : Int) := by simp
      have hq1 : (t + 1) * (t + 2) ≤ 24 * 25 := Nat.mul_le_mul (by omega) (by omega)
      generalize (t + 1) * (t + 2) = q at *
      generalize (2 * X + 3 * Y) % 5 = V at *
      have cc := hst.cell (X + 5 * Y) (by omega)
      have dd := ho.cell (Y + 5 * V) (by omega)
      have hf := ho.frozen (Y + 5 * V)
      generalize st.getD (X + 5 * Y) 0 = sv at *
      generalize (movedTo st t).getD (Y + 5 * V) 0 = ov at *
      have HO : Hid (ILanes 25 wr w.heap.size (movedTo st t)) := ho
      clear ho
      have e1 : ((X : Int) + 5 * (Y : Int)).toNat = X + 5 * Y := by omega
      have e2 : ((Y : Int) + 5 * (V : Int)).toNat = Y + 5 * V := by omega
      have i1 : (X : Int) + 5 * (Y : Int) < 25 := by omega
      have i2 : (Y : Int) + 5 * (V : Int) < 25 := by omega
      go_wp2_with fail
      rw [show (q : Int) / 2 % 64 = ((q / 2 % 64 : Nat) : Int) by omega]
      refine (turned_any sv (q / 2 % 64) (Nat.mod_lt _ (by decide)) _).mono ?_
      rintro e w1 ⟨rfl, m, rfl⟩
      have HST : Hid (ILanes 25 wr b st) := hst
      clear hst
      go_wp2_with fail
      go_roundw
      case rel =>
        refine ⟨t + 1, by omega, by go_num, by rw [HXY.out], by rw [HXY.out], (HST.out.drewN _).setOther _ hbn _ _, ?_, grown_setNew (grown_drewN hg _) _ (Nat.le_refl _) _ _⟩
        rw [HN.out]
        exact (HO.out.drewN _).set _ _
      case measure => simp [intOf]; omega
    · obtain rfl : t = 24 := by omega
      go_wp2
      go_ret
      exact ⟨rfl, ho, hg⟩
end Go.Proofs.YtljdconhplgipaaGreatDoor

/-
  The walk of rows of the document's answer.
-/
namespace Go.Proofs.YtljdconhplgipaaGreatDoor
open Go.RowKit
/-- A lane, and what the two behind it in its row say. -/
def rowF (st : List (BitVec 64)) (i : Nat) : BitVec 64 := st.getD i 0 ^^^ (~~~ st.getD ((i % 5 + 1) % 5 + 5 * (i / 5)) 0 &&& st.getD ((i % 5 + 2) % 5 + 5 * (i / 5)) 0)
theorem row_step (st : List (BitVec 64)) (x y : Nat) (hx : x < 5) :
    (outL fun j => if j % 5 < x ∨ (j % 5 = x ∧ j / 5 < y) then rowF st j else 0).set (x + 5 * y) (rowF st (x + 5 * y)) = outL fun j => if j % 5 < x ∨ (j % 5 = x ∧ j / 5 < y + 1) then rowF st j else 0 := by
  rw [outL_set]
  refine outL_congr _ _ fun j _ => ?_
  by_cases he : j = x + 5 * y
  · subst he
    rw [if_pos rfl, if_pos (by omega)]
  · rw [if_neg he]
    by_cases h1 : j % 5 < x ∨ (j % 5 = x ∧ j / 5 < y)
    · rw [if_pos h1, if_pos (by omega)]
    · rw [if_neg h1, if_neg (by omega)]
set_option maxRecDepth 100000 in
set_option maxHeartbeats 1000000 in
theorem rowsR_any (w : World) (b : Nat) (st : List (BitVec 64)) (h : ILanes 25 w b st) :
    Calls Tryz.prog 53 #[.slice (some ⟨b, 0, none⟩) 25 25] w fun e w' => e = .returned (.slice (some ⟨w.heap.size, 0, none⟩) 25 25) ∧ ILanes 25 w' w.heap.size (outL (rowF st)) ∧ w.grownBy w' none := by
  have hmk := make25
  have hbn : b ≠ w.heap.size := Nat.ne_of_lt h.lt
  go_enter Tryz.func53, Tryz.ntmps53
  go_wp2_with fail
  go_loopw [4] (fun i wr => ∃ x : Nat, x ≤ 5 ∧ i = .int .i64 (x : Int) ∧ ILanes 25 wr b st ∧ ILanes 25 wr w.heap.size (outL fun j => if j % 5 < x then rowF st j else 0) ∧ w.grownBy wr none) (fun i _ => 5 - (intOf i).toNat)
  case atStart => exact ⟨0, by omega, rfl, h.alloc _, ILanes.new w 3 _ (outL_len _), grown_alloc (grown_refl _ _) _⟩
  case round =>
    clear hmk
    obtain ⟨x, hx, rfl, hst, ho, hg⟩ := hrel
    by_cases hlt : x < 5
    · go_wp2_with fail
      go_loopw [5] (fun i wr => ∃ y : Nat, y ≤ 5 ∧ i = .int .i64 (y : Int) ∧ ILanes 25 wr b st ∧ ILanes 25 wr w.heap.size (outL fun j => if j % 5 < x ∨ (j % 5 = x ∧ j / 5 < y) then rowF st j else 0) ∧ w.grownBy wr none) (fun i _ => 5 - (intOf i).toNat)
      case atStart =>
        refine ⟨0, by omega, rfl, hst, ?_, hg⟩
        rw [outL_congr _ (fun j => if j % 5 < x then rowF st j else 0) (fun j _ => by simp)]
        exact ho
      case round =>
        clear hst ho hg h
        obtain ⟨y, hy, rfl, hst, ho, hg⟩ := hrel
        by_cases hly : y < 5
        · have c0 := hst.cell (x + 5 * y) (by omega)
          have c1 := hst.cell ((x + 1) % 5 + 5 * y) (by omega)
          have c2 := hst.cell ((x + 2) % 5 + 5 * y) (by omega)
          have d0 := ho.cell (x + 5 * y) (by omega)
          have hf := ho.frozen (x + 5 * y)
          have HP : Hid (rowF st (x + 5 * y) = st.getD (x + 5 * y) 0 ^^^ (~~~ st.getD ((x + 1) % 5 + 5 * y) 0 &&& st.getD ((x + 2) % 5 + 5 * y) 0)) := by
            show _ = _
            unfold rowF
            rw [show (x + 5 * y) % 5 = x by omega, show (x + 5 * y) / 5 = y by omega]
          have HST : Hid (ILanes 25 wr b st) := hst
          have HO : Hid (ILanes 25 wr w.heap.size (outL fun j => if j % 5 < x ∨ (j % 5 = x ∧ j / 5 < y) then rowF st j else 0)) := ho
          generalize (outL fun j => if j % 5 < x ∨ (j % 5 = x ∧ j / 5 < y) then rowF st j else 0).getD (x + 5 * y) 0 = oo at *
          generalize st.getD (x + 5 * y) 0 = s0 at *
          generalize st.getD ((x + 1) % 5 + 5 * y) 0 = s1 at *
          generalize st.getD ((x + 2) % 5 + 5 * y) 0 = s2 at *
          clear hst ho
          have hn := not_I s1
          have b1 := I_lo s1
          have b2 := I_hi s1
          have HNOT : Hid (-1 - I s1 = I (~~~ s1)) := hn
          clear hn
          have f1 : ((x : Int) + 1) % 5 = (((x + 1) % 5 : Nat) : Int) := by omega
          have f2 : ((x : Int) + 2) % 5 = (((x + 2) % 5 : Nat) : Int) := by omega
          have h1 : (x + 1) % 5 < 5 := Nat.mod_lt _ (by decide)
          have h2 : (x + 2) % 5 < 5 := Nat.mod_lt _ (by decide)
          generalize (x + 1) % 5 = x1 at *
          generalize (x + 2) % 5 = x2 at *
          have e1 : ((x : Int) + 5 * (y : Int)).toNat = x + 5 * y := by omega
          have e2 : ((x1 : Int) + 5 * (y : Int)).toNat = x1 + 5 * y := by omega
          have e3 : ((x2 : Int) + 5 * (y : Int)).toNat = x2 + 5 * y := by omega
          have i1 : (x : Int) + 5 * (y : Int) < 25 := by omega
          have i2 : (x1 : Int) + 5 * (y : Int) < 25 := by omega
          have i3 : (x2 : Int) + 5 * (y : Int) < 25 := by omega
          go_wp2_with fail
          go_region
          all_goals go_wp2_with fail
          go_roundw
          case rel =>
            rw [HNOT.out, bits_and_I, bits_xor_I, ← HP.out]
            refine ⟨y + 1, by omega, by go_num, (HST.out.setOther _ hbn _ _).drew, ?_, grown_drew (grown_setNew hg _ (Nat.le_refl _) _ _)⟩
            rw [← row_step st x y hlt]
            exact (HO.out.set _ _).drew
          case measure => simp [intOf]; omega
        · obtain rfl : y = 5 := by omega
          go_wp2_with fail
          go_roundw
          case rel =>
            have ho2 : ILanes 25 wr w.heap.size (outL fun j => if j % 5 < x + 1 then rowF st j else 0) := by
              rw [outL_congr _ (fun j => if j % 5 < x ∨ (j % 5 = x ∧ j / 5 < 5) then rowF st j else 0) (fun j hj => by
                by_cases h1 : j % 5 < x
                · rw [if_pos (by omega), if_pos (.inl h1)]
                · by_cases h2 : j % 5 = x
                  · rw [if_pos (by omega), if_pos (.inr ⟨h2, by omega⟩)]
                  · rw [if_neg (by omega), if_neg (by omega)])]
              exact ho
            first
              | exact ⟨x + 1, by omega, by go_num, hst, ho2, hg⟩
              | ((repeat apply Exists.intro); exact ⟨⟨x + 1, by omega, by go_num, hst, ho2, hg⟩, rfl⟩)
          case measure => simp [intOf]; omega
    · obtain rfl : x = 5 := by omega
      go_wp2
      go_ret
      refine ⟨rfl, ?_, hg⟩
      rw [outL_congr (rowF st) (fun j => if j % 5 < 5 then rowF st j else 0) (fun j _ => by rw [if_pos (by omega)])]
      exact ho
end Go.Proofs.YtljdconhplgipaaGreatDoor

/-
  A round of the program is a round of the document's answer.
-/
namespace Go.Proofs.YtljdconhplgipaaGreatDoor
theorem list25 (st : List (BitVec 64)) (h : st.length = 25) : ∃ a0 a1 a2 a3 a4 a5 a6 a7 a8 a9 a10 a11 a12 a13 a14 a15 a16 a17 a18 a19 a20 a21 a22 a23 a24, st = [a0, a1, a2, a3, a4, a5, a6, a7, a8, a9, a10, a11, a12, a13, a14, a15, a16, a17, a18, a19, a20, a21, a22, a23, a24] := by
  match st, h with
  | [a0, a1, a2, a3, a4, a5, a6, a7, a8, a9, a10, a11, a12, a13, a14, a15, a16, a17, a18, a19, a20, a21, a22, a23, a24], _ => exact ⟨a0, a1, a2, a3, a4, a5, a6, a7, a8, a9, a10, a11, a12, a13, a14, a15, a16, a17, a18, a19, a20, a21, a22, a23, a24, rfl⟩
theorem col_eq (st : List (BitVec 64)) (x : Nat) : colTo st x 5 = colAt st x := by
  simp [colTo, colAt]
def parG (st : List (BitVec 64)) (i : Nat) : BitVec 64 := st.getD i 0 ^^^ (colAt st ((i % 5 + 4) % 5) ^^^ rotl (colAt st ((i % 5 + 1) % 5)) 1)
theorem parF_eq (st : List (BitVec 64)) (i : Nat) : parF st i = parG st i := by
  unfold parF parG
  rw [col_eq, col_eq, BitVec.xor_assoc]
theorem par_eq (st : List (BitVec 64)) (h : st.length = 25) : outL (parF st) = addTo (dOf (colsTo st 5)) st 5 := by
  rw [outL_congr (parF st) (parG st) fun i _ => parF_eq st i]
  obtain ⟨a0, a1, a2, a3, a4, a5, a6, a7, a8, a9, a10, a11, a12, a13, a14, a15, a16, a17, a18, a19, a20, a21, a22, a23, a24, rfl⟩ := list25 st h
  kernel_rfl
theorem mov_eq (st : List (BitVec 64)) (h : st.length = 25) : movedTo st 24 = (moveTo st 24).1 := by
  obtain ⟨a0, a1, a2, a3, a4, a5, a6, a7, a8, a9, a10, a11, a12, a13, a14, a15, a16, a17, a18, a19, a20, a21, a22, a23, a24, rfl⟩ := list25 st h
  kernel_rfl
def rowG (st : List (BitVec 64)) (i : Nat) : BitVec 64 := st.getD i 0 ^^^ (st.getD ((i % 5 + 2) % 5 + 5 * (i / 5)) 0 &&& ~~~ st.getD ((i % 5 + 1) % 5 + 5 * (i / 5)) 0)
theorem rowF_eq (st : List (BitVec 64)) (i : Nat) : rowF st i = rowG st i := by
  unfold rowF rowG
  rw [BitVec.and_comm]
theorem row_eq (st : List (BitVec 64)) (h : st.length = 25) : outL (rowF st) = rowsTo st 5 := by
  rw [outL_congr (rowF st) (rowG st) fun i _ => rowF_eq st i]
  obtain ⟨a0, a1, a2, a3, a4, a5, a6, a7, a8, a9, a10, a11, a12, a13, a14, a15, a16, a17, a18, a19, a20, a21, a22, a23, a24, rfl⟩ := list25 st h
  kernel_rfl
end Go.Proofs.YtljdconhplgipaaGreatDoor

/-
  The walk of roundNumbers of the document's answer.
-/
namespace Go.Proofs.YtljdconhplgipaaGreatDoor
open Go.RowKit
def ivals (st : List (BitVec 64)) : List Value := st.map fun x => Value.int .i64 (I x)
/-- The slice v of numbers is the call's own, and has these. -/
def OwnI (base : Nat) (w : World) (v : Value) (st : List (BitVec 64)) : Prop := w.ownsRow base 3 1 v st.length (ivals st)
theorem ownI_nil (base : Nat) (w : World) : OwnI base w (.slice none 0 0) [] := World.ownsRow_nil _ _ _ _
theorem OwnI.shape {base : Nat} {w : World} {v : Value} {st : List (BitVec 64)} (h : OwnI base w v st) : ∃ a cap, v = .slice a st.length cap := by
  rcases h.2 with ⟨rfl, h0⟩ | ⟨g, cap, cur, rfl, _⟩
  · exact ⟨none, 0, by rw [h0]⟩
  · exact ⟨_, cap, rfl⟩
theorem grown_ownI {w W w1 : World} {v : Value} {st : List (BitVec 64)} (h : w.grownBy W none) (ho : OwnI w.heap.size W v st) (hg : W.grownBy w1 v.ownBlock) : w.grownBy w1 none :=
  ⟨hg.os.trans h.os, hg.tape.trans h.tape, hg.output.trans h.output, Nat.le_trans h.size hg.size, fun i hi hn => (hg.block i (Nat.lt_of_lt_of_le hi h.size) (fun e => by have := (World.ownsRow.lt ho i e.symm).1; omega)).trans (h.block i hi hn)⟩
theorem info3 : (Tryz.prog.info? 3).map (fun i => (i.zero, i.size, i.bytes)) = some (some (.int .i64 0), 1, 8) := by kernel_rfl
/-- append(v, x) of one number. -/
theorem wpList_append_lane {w0 w : World} {ops : Array Oper} {rest : List Oper} {o : Oper} {a : Act} {Q : Exit → Act → World → Prop} (hgd : o.guard = none) (s x : Operand)
    (ho : o.op = .call { callee := .builtin .append, args := #[s, x], argTypes := #[62, 62] }) (base : Nat) (v : Value) (st : List (BitVec 64)) (hs : a.eval s = v) (y : BitVec 64) (hw : w = w0.alloc (.cells #[.int .i64 (I y)] 3)) (hown : OwnI base w0 v st)
    (hx : a.eval x = .slice (some ⟨w0.heap.size, 0, none⟩) 1 1) (hl : st.length ≤ 100000) (hbase : base ≤ w0.heap.size)
    (h : ∀ v' w', OwnI base w' v' (st ++ [y]) → w.grownBy w' v.ownBlock → wpList Tryz.prog ops Q rest (a.put o.dst v') w') : wpList Tryz.prog ops Q (o :: rest) a w := by
  subst hw
  obtain ⟨i0, hi, hz0, hz1, hz2⟩ := info_parts info3
  refine wpList_append_own _ hgd s x 62 ho base 3 i0 (.int .i64 0) 1 8 Tryz.underlying62 hi hz0 hz1 hz2 rfl (by decide) v st.length (ivals st) hs (World.ownsRow.alloc hown _) ⟨w0.heap.size, 0, none⟩ 1 1 [.int .i64 (I y)] hx rfl ?_ ?_ ?_ ?_ ?_ ?_
  · intro j u hj
    match j, hj with
    | 0, hj => simp at hj; subst hj; simp [Addr.add]
  · intro u hu; simp at hu; subst hu; rfl
  · unfold maxLen; omega
  · omega
  · simp; omega
  · intro v' w' h1 h2 _
    refine h v' w' ?_ h2
    unfold OwnI
    rw [List.length_append]
    simpa [ivals] using h1
/-- The register of eight bits. -/
def rNext (r : Nat) : Nat := if 255 < 2 * r then (2 * r - 256) ^^^ 113 else 2 * r
def rIter : Nat → Nat
  | 0 => 1
  | n + 1 => rNext (rIter n)
theorem rNext_lt (r : Nat) (h : r < 256) : rNext r < 256 := (by decide +kernel : ∀ r : Fin 256, rNext r.1 < 256) ⟨r, h⟩
theorem rIter_lt (n : Nat) : rIter n < 256 := by
  induction n with
  | zero => decide
  | succ n ih => exact rNext_lt _ ih
theorem rNext_bits (r : Nat) (h : r < 256) (h2 : 127 < r) : bits .xor .i64 (2 * (r : Int) - 256) 113 = (rNext r : Int) :=
  (by decide +kernel : ∀ r : Fin 256, 127 < r.1 → bits .xor .i64 (2 * (r.1 : Int) - 256) 113 = (rNext r.1 : Int)) ⟨r, h⟩ h2
def laneTo (m : Nat) : Nat → BitVec 64
  | 0 => 0
  | j + 1 => if rIter (7 * m + j) % 2 = 1 then laneTo m j + (1#64 <<< (2 ^ j - 1)) else laneTo m j
theorem lane_num (m : Nat) (h : m < 24) : laneTo m 7 = roundNumbersT.getD m 0 := (by decide +kernel : ∀ m : Fin 24, laneTo m.1 7 = roundNumbersT.getD m.1 0) ⟨m, h⟩
set_option maxRecDepth 100000 in
set_option maxHeartbeats 1000000 in
theorem numbers_any (w : World) :
    Calls Tryz.prog 50 #[] w fun e w' => ∃ v, e = .returned v ∧ OwnI w.heap.size w' v roundNumbersT ∧ w.grownBy w' none := by
  go_enter Tryz.func50, Tryz.ntmps50
  go_wp2_with fail
  go_loopw [1, 2, 3] (fun out r i wr => ∃ m : Nat, m ≤ 24 ∧ i = .int .i64 (m : Int) ∧ r = .int .i64 (rIter (7 * m) : Int) ∧ OwnI w.heap.size wr out (roundNumbersT.take m) ∧ w.grownBy wr none) (fun _ _ i _ => 24 - (intOf i).toNat)
  case atStart => exact ⟨0, by omega, rfl, rfl, ownI_nil _ _, grown_refl _ _⟩
  case round =>
    obtain ⟨m, hm, rfl, rfl, hown, hg⟩ := hrel
    obtain ⟨oa, ocap, rfl⟩ := hown.shape
    by_cases hlt : m < 24
    · have HN : Hid (roundNumbersT.take (m + 1) = roundNumbersT.take m ++ [laneTo m 7]) := by
        show _ = _
        rw [List.take_succ_eq_append_getElem (show m < roundNumbersT.length from hlt), lane_num m hlt]
        simp [show m < roundNumbersT.length from hlt]
      have hl : (roundNumbersT.take m).length ≤ 24 := by simp; omega
      generalize roundNumbersT.take m = T at *
      have im : (m : Int) < 24 := by omega
      go_wp2_with fail
      go_loop [2, 4, 5, 6] (fun r l p jv => ∃ j : Nat, j ≤ 7 ∧ jv = .int .i64 (j : Int) ∧ r = .int .i64 (rIter (7 * m + j) : Int) ∧ l = .int .i64 (I (laneTo m j)) ∧ p = .int .i64 ((2 ^ j : Nat) : Int)) (fun _ _ _ jv => 7 - (intOf jv).toNat)
      case atStart => exact ⟨0, by omega, rfl, rfl, by rw [laneTo, I_zero], rfl⟩
      case round =>
        obtain ⟨j, hj, rfl, rfl, rfl, rfl⟩ := hrel
        by_cases hlj : j < 7
        · have hr := rIter_lt (7 * m + j)
          have hp1 : 2 ^ j ≤ 2 ^ 6 := Nat.pow_le_pow_right (by decide) (by omega)
          have hp0 : 0 < 2 ^ j := Nat.two_pow_pos j
          have HPS : Hid ((2 ^ (j + 1) : Nat) = 2 * 2 ^ j) := by show _ = _; rw [Nat.pow_succ]; omega
          have HRS : Hid (rIter (7 * m + (j + 1)) = rNext (rIter (7 * m + j))) := rfl
          have HLS : Hid (laneTo m (j + 1) = if rIter (7 * m + j) % 2 = 1 then laneTo m j + (1#64 <<< (2 ^ j - 1)) else laneTo m j) := rfl
          generalize rIter (7 * m + j) = R at *
          generalize laneTo m j = L at *
          generalize (2 ^ j : Nat) = P at *
          have HXB := rNext_bits R hr
          have HXH : Hid (127 < R → bits .xor .i64 (2 * (R : Int) - 256) 113 = (rNext R : Int)) := HXB
          clear HXB
          by_cases hodd : R % 2 = 1
          · have tod : ((R : Int) % 2 == 1) = true := by rw [beq_iff_eq]; omega
            have HL : Hid (wrap64 (I L + I (1#64 <<< (P - 1))) = I (laneTo m (j + 1))) := by show _ = _; rw [HLS.out, if_pos hodd, wrap64_eq, wrap_add_I]
            have ep : (P : Int) - 1 = ((P - 1 : Nat) : Int) := by omega
            have EP : Hid ((P : Int) - 1 = ((P - 1 : Nat) : Int)) := ep
            clear ep
            by_cases hbig : 127 < R
            · have tb : (255 : Int) < 2 * (R : Int) := by omega
              go_wp2_with fail
              rw [EP.out]
              refine (power_any (P - 1) (by omega) _).mono ?_
              rintro e w1 ⟨rfl, rfl⟩
              generalize I (1#64 <<< (P - 1)) = PW at *
              generalize I L = LL at *
              go_wp2_with fail
              go_round
              case rel => exact ⟨j + 1, by omega, by go_num, by rw [HRS.out, HXH.out hbig], by rw [HL.out], by rw [HPS.out]; go_num⟩
              case measure => simp [intOf]; omega
            · have tb : 2 * (R : Int) ≤ 255 := by omega
              have HX2 : Hid ((2 * (R : Int)) = (rNext R : Int)) := by show _ = _; unfold rNext; rw [if_neg (by omega)]; omega
              go_wp2_with fail
              rw [EP.out]
              refine (power_any (P - 1) (by omega) _).mono ?_
              rintro e w1 ⟨rfl, rfl⟩
              generalize I (1#64 <<< (P - 1)) = PW at *
              generalize I L = LL at *
              go_wp2_with fail
              go_round
              case rel => exact ⟨j + 1, by omega, by go_num, by rw [HRS.out, HX2.out], by rw [HL.out], by rw [HPS.out]; go_num⟩
              case measure => simp [intOf]; omega
          · have tod : ((R : Int) % 2 == 1) = false := by rw [beq_eq_false_iff_ne]; omega
            have HL : Hid (laneTo m (j + 1) = L) := by show _ = _; rw [HLS.out, if_neg hodd]
            by_cases hbig : 127 < R
            · have tb : (255 : Int) < 2 * (R : Int) := by omega
              go_wp2_with fail
              go_round
              case rel => exact ⟨j + 1, by omega, by go_num, by rw [HRS.out, HXH.out hbig], by rw [HL.out], by rw [HPS.out]; go_num⟩
              case measure => simp [intOf]; omega
            · have tb : 2 * (R : Int) ≤ 255 := by omega
              have HX2 : Hid ((2 * (R : Int)) = (rNext R : Int)) := by show _ = _; unfold rNext; rw [if_neg (by omega)]; omega
              go_wp2_with fail
              go_round
              case rel => exact ⟨j + 1, by omega, by go_num, by rw [HRS.out, HX2.out], by rw [HL.out], by rw [HPS.out]; go_num⟩
              case measure => simp [intOf]; omega
        · obtain rfl : j = 7 := by omega
          generalize laneTo m 7 = L at *
          have hsz := hg.size
          go_wp2_with (at_builtin; refine wpList_append_lane (w0 := wr) rfl (.tmp 32) (.tmp 34) rfl w.heap.size (.slice oa T.length ocap) T rfl L rfl hown rfl (by omega) hsz ?_; intro v1 w1 ho1 hg1)
          have hgw := grown_ownI (grown_alloc hg _) (World.ownsRow.alloc hown _) hg1
          go_roundw
          case rel =>
            have hr : rIter (7 * (m + 1)) = rIter (7 * m + 7) := rfl
            first
              | exact ⟨m + 1, by omega, by go_num, rfl, by rw [HN.out]; exact ho1, hgw⟩
              | ((repeat apply Exists.intro); exact ⟨⟨m + 1, by omega, by go_num, rfl, by rw [HN.out]; exact ho1, hgw⟩, rfl⟩)
          case measure => simp [intOf]; omega
    · obtain rfl : m = 24 := by omega
      go_wp2
      go_ret
      exact ⟨_, rfl, hown, hg⟩
end Go.Proofs.YtljdconhplgipaaGreatDoor

/-
  What the document's answer to P1.1 reckons: bytes behind the bytes, lanes, the digest's bytes.
-/
namespace Go.Proofs.YtljdconhplgipaaGreatDoor
open Go.RowKit
/-- What a slice of the call's own gives, where it has a byte. -/
theorem Own.block {base : Nat} {w : World} {v : Value} {bs : List UInt8} (h : Own base w v bs) (hne : bs ≠ []) :
    ∃ g cap, v = .slice (some ⟨g, 0, none⟩) bs.length cap ∧ base ≤ g ∧ g < w.heap.size ∧ BytesAt w g 0 bs ∧ ∀ i, w.frozen? ⟨g, i, none⟩ = false := by
  have hs := h.slice
  rcases h.2 with ⟨rfl, h0⟩ | ⟨g, cap, cur, rfl, hb, hg, hn, hm, hsz, ht⟩
  · exact absurd (List.eq_nil_of_length_eq_zero h0) hne
  · refine ⟨g, cap, rfl, hb, (Array.getElem?_eq_some_iff.1 hg).1, ?_, fun i => by simp [World.frozen?, hg]⟩
    obtain ⟨a, c, e, _, hr⟩ := hs
    simp only [Value.slice.injEq, true_and] at e
    obtain ⟨rfl, rfl⟩ := e
    rcases hr with ⟨h0, _⟩ | ⟨b, o, e, hB⟩
    · exact absurd h0 hne
    · simp only [Option.some.injEq, Addr.mk.injEq, and_true] at e
      obtain ⟨rfl, rfl⟩ := e
      exact hB
theorem Own.set {base : Nat} {w : World} {g n cap : Nat} {bs : List UInt8} (h : Own base w (.slice (some ⟨g, 0, none⟩) n cap) bs) (i : Nat) (c : UInt8) : Own base (w.setCell ⟨g, i, none⟩ (.int .u8 (c.toNat : Int))) (.slice (some ⟨g, 0, none⟩) n cap) (bs.set i c) := by
  obtain ⟨h1, h2⟩ := h
  rcases h2 with ⟨h2, _⟩ | ⟨g', cap', cur, e, hb, hg, hn, hm, hsz, ht⟩
  · cases h2
  · simp only [Value.slice.injEq, Option.some.injEq, Addr.mk.injEq, and_true] at e
    obtain ⟨rfl, rfl, rfl⟩ := e
    refine ⟨by simp [vals], .inr ⟨g, cap, cur.setIfInBounds i (.int .u8 (c.toNat : Int)), by simp, hb, ?_, by simpa using hn, hm, by simpa using hsz, ?_⟩⟩
    · simp only [World.setCell, Array.getElem?_modify, if_true, hg, Option.map_some]
      simp
    · rw [Array.toList_setIfInBounds, List.length_set, List.take_set, ht]
      simp [vals]
theorem padMark_eq (bs : List UInt8) : padMark bs = bs ++ [6] ++ zeros (padLen bs.length - (bs.length + 1)) := by
  unfold padMark zeros
  have h : bs.length < padLen bs.length := by unfold padLen; omega
  obtain ⟨k, hk⟩ : ∃ k, padLen bs.length - bs.length = k + 1 := ⟨padLen bs.length - bs.length - 1, by omega⟩
  rw [hk, show padLen bs.length - (bs.length + 1) = k by omega, List.replicate_succ, List.append_assoc]
  rw [List.set_append_right _ _ (Nat.le_refl _)]
  simp
theorem padMark_last (bs : List UInt8) : ((padMark bs).getD (padLen bs.length - 1) 0).toNat ≤ 6 := by
  rw [padMark_eq]
  have h : bs.length < padLen bs.length := by unfold padLen; omega
  unfold zeros
  rw [List.append_assoc, List.getD_eq_getElem?_getD, List.getElem?_append_right (by omega)]
  by_cases h2 : padLen bs.length - 1 - bs.length = 0
  · rw [h2]; simp
  · obtain ⟨k, hk⟩ : ∃ k, padLen bs.length - 1 - bs.length = k + 1 := ⟨_, (Nat.succ_pred_eq_of_ne_zero h2).symm⟩
    rw [hk]
    simp only [List.cons_append, List.nil_append, List.getElem?_cons_succ]
    rw [List.getElem?_replicate]
    split <;> simp
theorem add128 (c : UInt8) (h : c.toNat ≤ 6) : (c.toNat : Int) + 128 = ((c ||| 128).toNat : Int) := by
  have hh : ∀ c : Fin 256, c.1 ≤ 6 → ((c.1 : Nat) : Int) + 128 = (((UInt8.ofNat c.1) ||| 128).toNat : Int) := by decide +kernel
  have := hh ⟨c.toNat, c.toNat_lt⟩ h
  simpa using this
/-- Eight bytes as a lane, from the last one on. -/
def hornerTo (p : List UInt8) (o : Nat) : Nat → BitVec 64
  | 0 => 0
  | j + 1 => hornerTo p o j * 256 + Z (p.getD (o + (7 - j)) 0)
theorem shl_or (x : BitVec 64) (c : UInt8) : x * 256 + Z c = x <<< 8 ||| Z c := by
  rw [show x * 256 = x <<< 8 from ?_]
  · rw [BitVec.add_eq_or_of_and_eq_zero]
    apply BitVec.eq_of_getLsbD_eq
    intro i hi
    rw [BitVec.getLsbD_and, BitVec.getLsbD_shiftLeft]
    unfold Z
    rw [BitVec.getLsbD_ofNat]
    by_cases h8 : i < 8
    · simp [h8]
    · have : c.toNat.testBit i = false := Nat.testBit_lt_two_pow (Nat.lt_of_lt_of_le c.toNat_lt (Nat.pow_le_pow_right (by decide) (by omega : 8 ≤ i)))
      simp [this]
  · rw [BitVec.shiftLeft_eq_mul_twoPow]; rfl
theorem horner_eq (p : List UInt8) (o : Nat) : hornerTo p o 8 = laneAt p o := by
  have e : ∀ j, hornerTo p o (j + 1) = hornerTo p o j <<< 8 ||| Z (p.getD (o + (7 - j)) 0) := fun j => shl_or _ _
  rw [e 7, e 6, e 5, e 4, e 3, e 2, e 1, e 0, show hornerTo p o 0 = 0#64 from rfl]
  simp only [BitVec.shiftLeft_or_distrib, ← BitVec.shiftLeft_add, laneAt, laneOf, Nat.reduceAdd, Nat.reduceSub, BitVec.zero_shiftLeft, BitVec.zero_or, Nat.add_zero, BitVec.or_assoc]
theorem laneAt_block (p : List UInt8) (k i : Nat) (hi : 8 * i + 8 ≤ 136) : laneAt (blockAt p k) (8 * i) = laneAt p (136 * k + 8 * i) := by
  have h : ∀ j, j < 136 → (blockAt p k).getD j 0 = p.getD (136 * k + j) 0 := by
    intro j hj
    simp [blockAt, hj]
  unfold laneAt
  rw [h _ (by omega), h _ (by omega), h _ (by omega), h _ (by omega), h _ (by omega), h _ (by omega), h _ (by omega), h _ (by omega)]
  rfl
theorem low_I (L : BitVec 64) : bits .and .i64 (I L) 255 = ((L.toNat % 256 : Nat) : Int) := by
  rw [show (255 : Int) = I 255 by decide, bits_and_I]
  have e : L &&& 255 = BitVec.ofNat 64 (L.toNat % 256) := by
    apply BitVec.eq_of_toNat_eq
    rw [BitVec.toNat_and, BitVec.toNat_ofNat, show (255 : BitVec 64).toNat = 2 ^ 8 - 1 from rfl, Nat.and_two_pow_sub_one_eq_mod]
    omega
  rw [e, I_small _ (by omega)]
theorem emod_I (L : BitVec 64) : I L % 256 = ((L.toNat % 256 : Nat) : Int) := by
  unfold I
  rw [BitVec.toInt_eq_toNat_cond]
  split <;> omega
theorem next_I (L : BitVec 64) : (I L - ((L.toNat % 256 : Nat) : Int)).tdiv 256 = I (L.sshiftRight 8) := by
  rw [← shr_I, ← emod_I]
  have h : I L - I L % 256 = 256 * (I L / 256) := by omega
  rw [h, Int.mul_tdiv_cancel_left _ (by decide)]
  rfl
theorem next_lo (L : BitVec 64) : -9223372036854775808 ≤ I L - ((L.toNat % 256 : Nat) : Int) ∧ I L - ((L.toNat % 256 : Nat) : Int) ≤ 9223372036854775807 := by
  have h1 := I_lo L
  have h2 := I_hi L
  rw [← emod_I]
  omega
theorem sar_low (x : BitVec 64) (n : Nat) (h : n ≤ 56) : (x.sshiftRight n).toNat % 256 = (x >>> n).toNat % 256 := by
  have e : (x.sshiftRight n).setWidth 8 = (x >>> n).setWidth 8 := by
    apply BitVec.eq_of_getLsbD_eq
    intro i hi
    rw [BitVec.getLsbD_setWidth, BitVec.getLsbD_setWidth, BitVec.getLsbD_sshiftRight, BitVec.getLsbD_ushiftRight]
    simp [hi, show n + i < 64 by omega, show ¬ 64 ≤ i by omega]
  have := congrArg BitVec.toNat e
  simpa using this
theorem out_byte (st : List (BitVec 64)) (m k : Nat) (hk : k < 8) : UInt8.ofNat (((st.getD m 0).sshiftRight (8 * k)).toNat % 256) = outByte st (8 * m + k) := by
  unfold outByte
  rw [show (8 * m + k) / 8 = m by omega, show (8 * m + k) % 8 * 8 = 8 * k by omega, sar_low _ _ (by omega)]
  apply UInt8.toNat_inj.1
  simp
/-- The first bytes of the digest. -/
def outN (st : List (BitVec 64)) (n : Nat) : List UInt8 := (List.range n).map (outByte st)
theorem outN_len (st : List (BitVec 64)) (n : Nat) : (outN st n).length = n := by simp [outN]
theorem outN_succ (st : List (BitVec 64)) (n : Nat) : outN st (n + 1) = outN st n ++ [outByte st n] := by simp [outN, List.range_succ]
theorem outTo_eq (st : List (BitVec 64)) (k : Nat) (hk : k ≤ 32) : outTo st k = outN st k ++ zeros (32 - k) := by
  induction k with
  | zero => rfl
  | succ k ih =>
    rw [outTo, ih (by omega), outN_succ]
    obtain ⟨r, hr⟩ : ∃ r, 32 - k = r + 1 := ⟨32 - k - 1, by omega⟩
    rw [hr, show 32 - (k + 1) = r by omega]
    rw [List.set_append_right _ _ (by rw [outN_len]; exact Nat.le_refl _), outN_len, Nat.sub_self]
    simp [zeros, List.replicate_succ]
theorem outTo_all (st : List (BitVec 64)) : outTo st 32 = outN st 32 := by
  rw [outTo_eq st 32 (Nat.le_refl _)]; simp [zeros]
end Go.Proofs.YtljdconhplgipaaGreatDoor

/-
  The walk of Digested of the document's answer: it is the program's digest.
-/
namespace Go.Proofs.YtljdconhplgipaaGreatDoor
open Go.RowKit
/-- Numbers in memory. -/
def NumsAt (w : World) (g : Nat) (st : List (BitVec 64)) : Prop := ∀ i, i < st.length → w.cell? ⟨g, i, none⟩ = some (.int .i64 (I (st.getD i 0)))
theorem NumsAt.grown {w w' : World} {g : Nat} {st : List (BitVec 64)} {r : Option Nat} (h : NumsAt w g st) (hg : w.grownBy w' r) (hr : some g ≠ r) : NumsAt w' g st :=
  fun i hi => hg.cell (h i hi) hr
theorem OwnI.block {base : Nat} {w : World} {v : Value} {st : List (BitVec 64)} (h : OwnI base w v st) (hne : st ≠ []) : ∃ g cap, v = .slice (some ⟨g, 0, none⟩) st.length cap ∧ base ≤ g ∧ g < w.heap.size ∧ NumsAt w g st := by
  obtain ⟨h1, h2⟩ := h
  rcases h2 with ⟨rfl, h0⟩ | ⟨g, cap, cur, rfl, hb, hg, hn, hm, hs, ht⟩
  · exact absurd (List.eq_nil_of_length_eq_zero h0) hne
  · refine ⟨g, cap, rfl, hb, (Array.getElem?_eq_some_iff.1 hg).1, fun i hi => ?_⟩
    have hc : cur.toList[i]? = some (.int .i64 (I (st.getD i 0))) := by
      have e : (cur.toList.take (st.length * 1))[i]? = (ivals st)[i]? := by rw [ht]
      rw [List.getElem?_take, if_pos (by omega)] at e
      rw [e, ivals, List.getElem?_map, List.getElem?_eq_getElem hi]
      simp [hi]
    simp [World.cell?, hg]
    simpa using hc
/-- Bytes in a block that some call has made. -/
def OwnE (w : World) (v : Value) (bs : List UInt8) : Prop := ∃ ob, Own ob w v bs
theorem OwnE.slice {w : World} {v : Value} {bs : List UInt8} (h : OwnE w v bs) : SliceIs w v bs := h.elim fun _ h => h.slice
set_option maxRecDepth 100000 in
set_option maxHeartbeats 2000000 in
theorem digested_core (w : World) (v : Value) (bs : List UInt8) (hv : SliceIs w v bs) (hl : bs.length ≤ 4000) (D : List UInt8) (HD : Kept (outN (spongeTo (padF bs) (bs.length / 136 + 1)) 32 = D)) :
    Calls Tryz.prog 35 #[v] w fun e w' => ∃ v', e = .returned v' ∧ OwnE w' v' D ∧ w.grownBy w' none := by
  obtain ⟨a, cap, rfl, hc, hrest⟩ := hv
  go_enter Tryz.func35, Tryz.ntmps35
  go_wp2_with fail
  go_loopw [3, 4] (fun p i wr => ∃ m : Nat, m ≤ bs.length ∧ i = .int .i64 (m : Int) ∧ Own w.heap.size wr p (bs.take m) ∧ w.grownBy wr none) (fun _ i _ => bs.length - (intOf i).toNat)
  case atStart => exact ⟨0, by omega, rfl, own_nil _ _, grown_refl _ _⟩
  case round =>
    obtain ⟨m, hm, rfl, hown, hg⟩ := hrel
    by_cases hlt : m < bs.length
    · obtain ⟨b, o, rfl, hB⟩ : ∃ b o, a = some ⟨b, o, none⟩ ∧ BytesAt w b o bs := by
        rcases hrest with ⟨rfl, _⟩ | h
        · simp at hlt
        · exact h
      have c0 := (hB.grown hg (by simp)) m hlt
      have HT : Hid (bs.take (m + 1) = bs.take m ++ [bs.getD m 0]) := by
        show _ = _
        rw [List.take_succ_eq_append_getElem hlt]; simp [hlt]
      have hTl : (bs.take m).length ≤ 4000 := by simp; omega
      generalize bs.getD m 0 = x at *
      generalize bs.take m = T at *
      obtain ⟨pa, pcap, rfl⟩ := hown.shape
      have hsz := hg.size
      have HB : Hid (SliceIs (wr.alloc (.cells #[.int .u8 (x.toNat : Int)] 5)) (.slice (some ⟨wr.heap.size, 0, none⟩) 1 1) [x]) := one_slice _ _ _
      clear hB hrest
      have i1 : (m : Int) < (bs.length : Int) := by omega
      go_wp2_with (at_builtin; refine wpList_append_bytes rfl (.tmp 23) (.tmp 28) rfl w.heap.size (.slice pa T.length pcap) T rfl (hown.alloc _) (some ⟨wr.heap.size, 0, none⟩) 1 1 _ rfl HB.out (by omega) (by simp; omega) ?_; intro v1 w1 ho1 hg1)
      have hgw := grown_own (grown_alloc hg _) (hown.alloc _) hg1
      go_roundw
      case rel => exact ⟨m + 1, by omega, by go_num, by rw [HT.out]; exact ho1, hgw⟩
      case measure => simp [intOf]; omega
    · obtain rfl : m = bs.length := by omega
      rw [List.take_length] at hown
      obtain ⟨pa, pcap, rfl⟩ := hown.shape
      have hsz := hg.size
      have HB : Hid (SliceIs (wr.alloc (.cells #[.int .u8 (((6 : UInt8).toNat : Nat) : Int)] 5)) (.slice (some ⟨wr.heap.size, 0, none⟩) 1 1) [6]) := one_slice _ _ _
      have HB6 : Hid (SliceIs (wr.alloc (.cells #[.int .u8 6] 5)) (.slice (some ⟨wr.heap.size, 0, none⟩) 1 1) [6]) := HB
      clear HB hrest hlt
      go_wp2_with (at_builtin; refine wpList_append_bytes rfl (.tmp 30) (.tmp 31) rfl w.heap.size (.slice pa bs.length pcap) bs rfl (hown.alloc _) (some ⟨wr.heap.size, 0, none⟩) 1 1 _ rfl HB6.out (by omega) (by simp; omega) ?_; intro v1 w1 ho1 hg1)
      have hg1' := grown_own (grown_alloc hg _) (hown.alloc _) hg1
      clear hg hg1 hown HB6 hsz
      have hN : bs.length + 1 ≤ padLen bs.length := by unfold padLen; omega
      have hNm : padLen bs.length % 136 = 0 := by unfold padLen; omega
      have hNd : padLen bs.length ≤ bs.length + 136 := by unfold padLen; omega
      have hN2 : padLen bs.length = 136 * (bs.length / 136 + 1) := by unfold padLen; omega
      have HPM : Hid (padMark bs = bs ++ [6] ++ zeros (padLen bs.length - (bs.length + 1))) := padMark_eq bs
      have HPF : Hid (padF bs = (padMark bs).set (padLen bs.length - 1) ((padMark bs).getD (padLen bs.length - 1) 0 ||| 128)) := rfl
      have HPL : Hid ((padMark bs).length = padLen bs.length) := padMark_len bs
      have hlast := padMark_last bs
      have hFl := padF_len bs
      rw [hN2] at hFl
      have HFL : Hid ((padF bs).length = 136 * (bs.length / 136 + 1)) := hFl
      clear hFl
      have hM : bs.length / 136 + 1 ≤ 30 := by omega
      have HN2 : Hid (padLen bs.length = 136 * (bs.length / 136 + 1)) := hN2
      clear hN2
      go_loopw [3] (fun p wr => ∃ j : Nat, bs.length + 1 + j ≤ padLen bs.length ∧ Own w.heap.size wr p (bs ++ [6] ++ zeros j) ∧ w.grownBy wr none) (fun p _ => padLen bs.length - sliceLen p)
      case atStart => exact ⟨0, by omega, by simpa [zeros] using ho1, hg1'⟩
      case round =>
        clear ho1 hg1'
        obtain ⟨j, hj, hown, hg⟩ := hrel
        have hTl : (bs ++ [6] ++ zeros j).length = bs.length + 1 + j := by simp [zeros]; omega
        have HTS : Hid (bs ++ [6] ++ zeros (j + 1) = bs ++ [6] ++ zeros j ++ [0]) := by show _ = _; simp [zeros, List.replicate_succ']
        have HTL : Hid ((bs ++ [6] ++ zeros j).length = bs.length + 1 + j) := hTl
        by_cases hlt : bs.length + 1 + j < padLen bs.length
        · obtain ⟨qa, qcap, rfl⟩ := hown.shape
          generalize bs ++ [6] ++ zeros j = T at *
          have tne : ((T.length : Int) % 136 != 0) = true := by rw [bne_iff_ne]; omega
          have hsz := hg.size
          have HB0 : Hid (SliceIs (wr.alloc (.cells #[.int .u8 0] 5)) (.slice (some ⟨wr.heap.size, 0, none⟩) 1 1) [0]) := one_slice _ 0 _
          have hTm : T.length ≤ 5000 := by omega
          clear hTl HPM HPF HPL hlast HFL hM HN2
          go_wp2_with (at_builtin; refine wpList_append_bytes rfl (.tmp 37) (.tmp 38) rfl w.heap.size (.slice qa T.length qcap) T rfl (hown.alloc _) (some ⟨wr.heap.size, 0, none⟩) 1 1 _ rfl HB0.out (by omega) (by simp; omega) ?_; intro v1 w1 ho1 hg1)
          have hgw := grown_own (grown_alloc hg _) (hown.alloc _) hg1
          obtain ⟨va, vcap, rfl⟩ := ho1.shape
          go_roundw
          case rel => exact ⟨j + 1, by omega, by rw [HTS.out]; exact ho1, hgw⟩
          case measure => have := HTL.out; simp [sliceLen]; omega
        · have hje : j = padLen bs.length - (bs.length + 1) := by omega
          have HTM : Hid (bs ++ [6] ++ zeros j = padMark bs) := by show _ = _; rw [HPM.out, hje]
          rw [HTM.out] at hown
          clear HTM HTS HTL hTl HPM
          generalize padMark bs = PM at *
          generalize padF bs = PF at *
          generalize bs.length / 136 + 1 = M at *
          generalize padLen bs.length = N at *
          have hPl : PM.length = N := HPL.out
          obtain ⟨g, gcap, rfl, hbg, hgl, hBg, hfg⟩ := hown.block (by intro h; rw [h] at hPl; simp at hPl; omega)
          rw [hPl] at hown ⊢
          have c0 := hBg (N - 1) (by omega)
          have f0 := hfg (N - 1)
          rw [Nat.zero_add] at c0
          generalize hx : PM.getD (N - 1) 0 = x at *
          have HX : Hid (PM.getD (N - 1) 0 = x) := hx
          have hxb : (x.toNat : Int) ≤ 6 := by omega
          have HNM : Hid (N = 136 * M) := HN2
          clear hx hPl hje hlt hj hBg hfg HN2
          have teq : ((N : Int) % 136 != 0) = false := by rw [bne_eq_false_iff_eq]; omega
          have i1 : (N : Int) - 1 < (N : Int) := by omega
          have i2 : (0 : Int) ≤ (N : Int) - 1 := by omega
          have e1 : ((N : Int) - 1).toNat = N - 1 := by omega
          have iN : (N : Int) ≤ 5000 := by omega
          go_upto_region 10 with fail
          have HO1 : Hid (Own w.heap.size (wr.setCell ⟨g, N - 1, none⟩ (.int .u8 ((x.toNat : Int) + 128))) (.slice (some ⟨g, 0, none⟩) N gcap) PF) := by
            show Own _ _ _ _
            rw [HPF.out, add128 x (by omega)]
            exact hown.set _ _
          have hg1 := grown_setNew hg g hbg (N - 1) (.int .u8 ((x.toNat : Int) + 128))
          generalize wr.setCell ⟨g, N - 1, none⟩ (.int .u8 ((x.toNat : Int) + 128)) = W1 at *
          clear c0 f0 HX HPF hown hg hxb hlast
          obtain ⟨g', gc', eg, _, hgl1, hBg, _⟩ := HO1.out.block (by intro h; have := HFL.out; rw [h] at this; simp at this; have := HNM.out; omega)
          simp only [Value.slice.injEq, Option.some.injEq, Addr.mk.injEq, and_true] at eg
          obtain ⟨rfl, _, rfl⟩ := eg
          clear HO1
          go_wp2_with fail
          refine (numbers_any W1).mono ?_
          rintro e W2 ⟨v5, rfl, ho5, hg5⟩
          obtain ⟨ng, ncap, rfl, hng, hngl, hNu⟩ := ho5.block (by decide)
          have hg2 := grown_trans hg1 hg5
          have hB2 := hBg.grown hg5 (by simp)
          have hgl2 : g < W2.heap.size := Nat.lt_of_lt_of_le hgl1 hg5.size
          clear hg1 hg5 hBg ho5 hgl1 hgl
          have hmk := make25
          have hl24 : roundNumbersT.length = 24 := rfl
          rw [hl24]
          go_wp2_with fail
          have hs3 := ILanes.new (n := 25) W2 3 (outL fun _ => 0) (outL_len _)
          have hg3 := grown_alloc hg2 (.cells (icellsOf (outL fun _ => 0)) 3)
          have hB3 := hB2.grown (World.grownBy_alloc W2 (.cells (icellsOf (outL fun _ => 0)) 3) none) (by simp)
          have hN3 := hNu.grown (World.grownBy_alloc W2 (.cells (icellsOf (outL fun _ => 0)) 3) none) (by simp)
          have hsz3 : (W2.alloc (.cells (icellsOf (outL fun _ => 0)) 3)).heap.size = W2.heap.size + 1 := by simp
          have hw2 := hg2.size
          generalize W2.alloc (.cells (icellsOf (outL fun _ => 0)) 3) = W3 at *
          have HZ : Kept (spongeTo PF 0 = outL fun _ => 0) := fun _ => rfl
          clear hmk hB2 hNu hg2 hl24
          go_loopw [6, 7] (fun sv fv wr => ∃ k sb : Nat, k ≤ M ∧ fv = .int .i64 ((136 * k : Nat) : Int) ∧ sv = .slice (some ⟨sb, 0, none⟩) 25 25 ∧ ILanes 25 wr sb (spongeTo PF k) ∧ sb ≠ g ∧ sb ≠ ng ∧ w.heap.size ≤ sb ∧ BytesAt wr g 0 PF ∧ NumsAt wr ng roundNumbersT ∧ g < wr.heap.size ∧ ng < wr.heap.size ∧ w.grownBy wr none) (fun _ f _ => N - (intOf f).toNat)
          case atStart => exact ⟨0, W2.heap.size, by omega, rfl, rfl, by rw [HZ.out]; exact hs3, by omega, by omega, hw2, hB3, hN3, by omega, by omega, hg3⟩
          case round =>
            clear hs3 hg3 hB3 hN3 hsz3 HZ hgl2 hngl hng hw2
            obtain ⟨k, sb, hk, rfl, rfl, hst, hsg, hsn, hsw, hB, hNu, hgl, hngl, hg⟩ := hrel
            by_cases hlk : k < M
            · have HFM := HFL.out
              have tlt : ((136 * k : Nat) : Int) < (N : Int) := by have := HNM.out; omega
              have HK : Hid (136 * k + 136 ≤ PF.length) := by show _ ≤ _; omega
              have HSS : Kept (spongeTo PF (k + 1) = roundsTo (absorbTo (blockAt PF k) (spongeTo PF k) 17) 24) := fun _ => rfl
              generalize spongeTo PF k = S0 at *
              have hf136 : 136 * k ≤ 4080 := by omega
              have HF : Hid (∃ f, f = 136 * k) := ⟨_, rfl⟩
              clear HF HFM
              generalize hfk : 136 * k = fr at *
              have HFK : Hid (136 * k = fr) := hfk
              clear hfk
              have tlt2 : fr < PF.length := by have := HK.out; omega
              go_wp2_with fail
              go_loopw [8] (fun iv wr => ∃ i : Nat, i ≤ 17 ∧ iv = .int .i64 (i : Int) ∧ ILanes 25 wr sb (absorbTo (blockAt PF k) S0 i) ∧ BytesAt wr g 0 PF ∧ NumsAt wr ng roundNumbersT ∧ g < wr.heap.size ∧ ng < wr.heap.size ∧ w.grownBy wr none) (fun iv _ => 17 - (intOf iv).toNat)
              case atStart => exact ⟨0, by omega, rfl, hst, hB, hNu, hgl, hngl, hg⟩
              case round =>
                clear hst hB hNu hgl hngl hg
                obtain ⟨i, hi, rfl, hst, hB, hNu, hgl, hngl, hg⟩ := hrel
                by_cases hli : i < 17
                · go_wp2_with fail
                  go_loop [9, 10] (fun lv kv => ∃ j : Nat, j ≤ 8 ∧ kv = .int .i64 (7 - (j : Int)) ∧ lv = .int .i64 (I (hornerTo PF (fr + 8 * i) j))) (fun _ kv => (intOf kv + 1).toNat)
                  case atStart => exact ⟨0, by omega, by simp, by rw [hornerTo, I_zero]⟩
                  case round =>
                    obtain ⟨j, hj, rfl, rfl⟩ := hrel
                    by_cases hlj : j < 8
                    · have c0 := hB (fr + 8 * i + (7 - j)) (by have := HK.out; omega)
                      rw [Nat.zero_add] at c0
                      have HH : Kept (hornerTo PF (fr + 8 * i) (j + 1) = hornerTo PF (fr + 8 * i) j * 256 + Z (PF.getD (fr + 8 * i + (7 - j)) 0)) := fun _ => rfl
                      generalize hornerTo PF (fr + 8 * i) j = L at *
                      generalize PF.getD (fr + 8 * i + (7 - j)) 0 = x at *
                      have HL : Hid (wrap64 (wrap64 (I L * 256) + wrap64 (x.toNat : Int)) = I (L * 256 + Z x)) := by
                        show _ = _
                        have h1 : (256 : Int) = I 256 := by decide
                        have h2 : wrap64 (x.toNat : Int) = I (Z x) := by rw [wrap64_eq, wrap_eq_ofInt, BitVec.ofInt_natCast]; rfl
                        rw [h2, h1, wrap64_eq, wrap64_eq, wrap_mul_I, wrap_add_I]
                      have e1 : ((fr : Int) + 8 * (i : Int) + (7 - (j : Int))).toNat = fr + 8 * i + (7 - j) := by omega
                      have i1 : (fr : Int) + 8 * (i : Int) + (7 - (j : Int)) < (N : Int) := by have := HK.out; have := HFL.out; have := HNM.out; omega
                      have i0 : (0 : Int) ≤ (fr : Int) + 8 * (i : Int) + (7 - (j : Int)) := by omega
                      have tge : (0 : Int) ≤ 7 - (j : Int) := by omega
                      generalize I L = LL at *
                      go_wp2_with fail
                      go_round
                      case rel => exact ⟨j + 1, by omega, by go_num, by rw [HL.out, HH.out]⟩
                      case measure => simp [intOf]; omega
                    · obtain rfl : j = 8 := by omega
                      have hcs := hst.cell i (by omega)
                      have hfs := hst.frozen i
                      have HA : Kept (absorbTo (blockAt PF k) S0 (i + 1) = (absorbTo (blockAt PF k) S0 i).set i ((absorbTo (blockAt PF k) S0 i).getD i 0 ^^^ hornerTo PF (fr + 8 * i) 8)) := fun _ => by
                        rw [absorbTo, laneAt_block PF k i (by omega), HFK.out, ← horner_eq]
                      generalize hornerTo PF (fr + 8 * i) 8 = L at *
                      generalize (absorbTo (blockAt PF k) S0 i).getD i 0 = sx at *
                      generalize absorbTo (blockAt PF k) S0 i = AS at *
                      have tlt7 : ¬ (0 : Int) ≤ 7 - ((8 : Nat) : Int) := by omega
                      have tl7 : (7 : Int) - ((8 : Nat) : Int) < 0 := by omega
                      have i25 : (i : Int) < 25 := by omega
                      go_wp2_with fail
                      go_roundw
                      case rel =>
                        rw [bits_xor_I]
                        have hst2 : ILanes 25 (wr.setCell ⟨sb, i, none⟩ (.int .i64 (I (sx ^^^ L)))) sb (absorbTo (blockAt PF k) S0 (i + 1)) := by rw [HA.out]; exact hst.set i _
                        have hgs : wr.grownBy (wr.setCell ⟨sb, i, none⟩ (.int .i64 (I (sx ^^^ L)))) (some sb) := grown_set (grown_refl _ _) _ _
                        have hB2 := hB.grown hgs (by simp; omega)
                        have hN2 := hNu.grown hgs (by simp; omega)
                        have hg2 := grown_setNew hg sb hsw i (.int .i64 (I (sx ^^^ L)))
                        have hz := hgs.size
                        first
                          | exact ⟨i + 1, by omega, by go_num, hst2, hB2, hN2, by omega, by omega, hg2⟩
                          | ((repeat apply Exists.intro); refine ⟨⟨i + 1, by omega, ?_, hst2, hB2, hN2, by omega, by omega, hg2⟩, rfl⟩; go_num)
                      case measure => simp [intOf]; omega
                · obtain rfl : i = 17 := by omega
                  generalize hA17 : absorbTo (blockAt PF k) S0 17 = A17 at *
                  clear hA17
                  clear hi hli
                  go_wp2_with fail
                  go_loopw [6, 11] (fun sv rv wr => ∃ r sb : Nat, r ≤ 24 ∧ rv = .int .i64 (r : Int) ∧ sv = .slice (some ⟨sb, 0, none⟩) 25 25 ∧ ILanes 25 wr sb (roundsTo A17 r) ∧ (roundsTo A17 r).length = 25 ∧ sb ≠ g ∧ sb ≠ ng ∧ w.heap.size ≤ sb ∧ BytesAt wr g 0 PF ∧ NumsAt wr ng roundNumbersT ∧ g < wr.heap.size ∧ ng < wr.heap.size ∧ w.grownBy wr none) (fun _ rv _ => 24 - (intOf rv).toNat)
                  case atStart => exact ⟨0, sb, by omega, rfl, rfl, hst, hst.len, hsg, hsn, hsw, hB, hNu, hgl, hngl, hg⟩
                  case round =>
                    clear hst hsg hsn hsw hB hNu hgl hngl hg
                    obtain ⟨r, sb, hr, rfl, rfl, hst, hrl, hsg, hsn, hsw, hB, hNu, hgl, hngl, hg⟩ := hrel
                    by_cases hlr : r < 24
                    · have HRS : Kept (roundsTo A17 (r + 1) = roundF (roundsTo A17 r) (roundNumbersT.getD r 0)) := fun _ => rfl
                      generalize roundsTo A17 r = R0 at *
                      go_wp2_with fail
                      refine (parities_any _ sb R0 hst).mono ?_
                      rintro e V1 ⟨rfl, h1, q1⟩
                      go_wp2_with fail
                      refine (moved_any _ _ _ h1).mono ?_
                      rintro e V2 ⟨rfl, h2, q2⟩
                      go_wp2_with fail
                      refine (rowsR_any _ _ _ h2).mono ?_
                      rintro e V3 ⟨rfl, h3, q3⟩
                      have eR : outL (rowF (movedTo (outL (parF R0)) 24)) = rowsTo (moveTo (addTo (dOf (colsTo R0 5)) R0 5) 24).1 5 := by
                        rw [par_eq R0 hrl, mov_eq _ (by rw [addTo_len]; exact hrl), row_eq _ (by rw [moveTo_len, addTo_len]; exact hrl)]
                      rw [eR] at h3
                      have HRF : Kept (roundsTo A17 (r + 1) = (rowsTo (moveTo (addTo (dOf (colsTo R0 5)) R0 5) 24).1 5).set 0 ((rowsTo (moveTo (addTo (dOf (colsTo R0 5)) R0 5) 24).1 5).getD 0 0 ^^^ roundNumbersT.getD r 0)) := fun _ => by rw [HRS.out]; rfl
                      clear eR h1 h2 HRS hst
                      generalize rowsTo (moveTo (addTo (dOf (colsTo R0 5)) R0 5) 24).1 5 = X3 at *
                      have q13 := grown_trans q1 (grown_trans q2 q3)
                      have hB3 := hB.grown q13 (by simp)
                      have hN3 := hNu.grown q13 (by simp)
                      have hg3 := grown_trans hg q13
                      have z1 := q1.size
                      have z2 := q2.size
                      have z3 := q3.size
                      have zg := hg.size
                      clear q1 q2 q3 q13 hB hNu hg
                      have hlt3 := h3.lt
                      generalize V2.heap.size = tb at *
                      have c0 := h3.cell 0 (by omega)
                      have f0 := h3.frozen 0
                      have n0 := hN3 r hlr
                      generalize roundNumbersT.getD r 0 = rn at *
                      generalize X3.getD 0 0 = x0 at *
                      have ir : (r : Int) < 24 := by omega
                      have HB3 : Hid (BytesAt V3 g 0 PF) := hB3
                      have HN3 : Hid (NumsAt V3 ng roundNumbersT) := hN3
                      clear hB3 hN3
                      go_wp2_with fail
                      go_region
                      go_wp2_with fail
                      go_roundw
                      case rel =>
                        rw [bits_xor_I]
                        have hst2 : ILanes 25 (V3.setCell ⟨tb, 0, none⟩ (.int .i64 (I (x0 ^^^ rn)))).drew tb (roundsTo A17 (r + 1)) := by rw [HRF.out]; exact (h3.set 0 _).drew
                        have hgs : V3.grownBy (V3.setCell ⟨tb, 0, none⟩ (.int .i64 (I (x0 ^^^ rn)))).drew (some tb) := grown_drew (grown_set (grown_refl _ _) _ _)
                        have hB2 := HB3.out.grown hgs (by simp; omega)
                        have hN2 := HN3.out.grown hgs (by simp; omega)
                        have hg2 := grown_drew (grown_setNew hg3 tb (by omega) 0 (.int .i64 (I (x0 ^^^ rn))))
                        have hz := hgs.size
                        first
                          | exact ⟨r + 1, tb, by omega, by go_num, rfl, hst2, hst2.len, by omega, by omega, by omega, hB2, hN2, by omega, by omega, hg2⟩
                          | ((repeat apply Exists.intro); refine ⟨⟨r + 1, tb, by omega, ?_, rfl, hst2, hst2.len, by omega, by omega, by omega, hB2, hN2, by omega, by omega, hg2⟩, rfl⟩; go_num)
                      case measure => simp [intOf]; omega
                    · obtain rfl : r = 24 := by omega
                      go_wp2_with fail
                      go_roundw
                      case rel =>
                        have hst2 : ILanes 25 wr sb (spongeTo PF (k + 1)) := by rw [HSS.out]; exact hst
                        have ef : (fr : Int) + 136 = ((136 * (k + 1) : Nat) : Int) := by have := HFK.out; omega
                        first
                          | exact ⟨k + 1, sb, by omega, by rw [ef], rfl, hst2, hsg, hsn, hsw, hB, hNu, hgl, hngl, hg⟩
                          | ((repeat apply Exists.intro); refine ⟨⟨k + 1, sb, by omega, ?_, rfl, hst2, hsg, hsn, hsw, hB, hNu, hgl, hngl, hg⟩, rfl⟩; rw [ef])
                      case measure => simp [intOf]; omega
            · obtain rfl : k = M := by omega
              generalize spongeTo PF k = SP at *
              have tnl : ¬ ((136 * k : Nat) : Int) < (N : Int) := by have := HNM.out; omega
              clear hB hNu hsg hsn hgl hngl
              go_wp2_with fail
              generalize wr = W0 at *
              go_loopw [12, 13] (fun ov iv wr => ∃ m : Nat, m ≤ 4 ∧ iv = .int .i64 (m : Int) ∧ Own W0.heap.size wr ov (outN SP (8 * m)) ∧ W0.grownBy wr none) (fun _ iv _ => 4 - (intOf iv).toNat)
              case atStart => exact ⟨0, by omega, rfl, own_nil _ _, grown_refl _ _⟩
              case round =>
                obtain ⟨m, hm4, rfl, hown, hgr⟩ := hrel
                by_cases hlm : m < 4
                · have c0 := (hst.grown hgr (by simp)).cell m (by omega)
                  generalize hsm : SP.getD m 0 = sm at *
                  have HSM : Hid (SP.getD m 0 = sm) := hsm
                  clear hsm
                  have im : (m : Int) < 25 := by omega
                  have im4 : (m : Int) < 4 := by omega
                  go_wp2_with fail
                  clear c0
                  go_loopw [12, 14, 15] (fun ov lv kv wr => ∃ j : Nat, j ≤ 8 ∧ kv = .int .i64 (j : Int) ∧ lv = .int .i64 (I (sm.sshiftRight (8 * j))) ∧ Own W0.heap.size wr ov (outN SP (8 * m + j)) ∧ W0.grownBy wr none) (fun _ _ kv _ => 8 - (intOf kv).toNat)
                  case atStart => exact ⟨0, by omega, rfl, by simp, hown, hgr⟩
                  case round =>
                    clear hown hgr
                    obtain ⟨j, hj, rfl, rfl, hown, hgr⟩ := hrel
                    obtain ⟨oa, ocap, rfl⟩ := hown.shape
                    by_cases hlj : j < 8
                    · have HON : Hid (outN SP (8 * m + (j + 1)) = outN SP (8 * m + j) ++ [UInt8.ofNat ((sm.sshiftRight (8 * j)).toNat % 256)]) := by
                        show _ = _
                        rw [← HSM.out, out_byte SP m j hlj, ← Nat.add_assoc, outN_succ]
                      have HSS2 : Hid (sm.sshiftRight (8 * (j + 1)) = (sm.sshiftRight (8 * j)).sshiftRight 8) := by
                        show _ = _
                        rw [← BitVec.sshiftRight_add]; rfl
                      have hol : (outN SP (8 * m + j)).length ≤ 100 := by rw [outN_len]; omega
                      generalize outN SP (8 * m + j) = O at *
                      generalize sm.sshiftRight (8 * j) = L at *
                      have hlow := low_I L
                      have hb := next_lo L
                      have HNX : Hid ((I L - ((L.toNat % 256 : Nat) : Int)).tdiv 256 = I (L.sshiftRight 8)) := next_I L
                      have hq : L.toNat % 256 < 256 := Nat.mod_lt _ (by decide)
                      have b1 := I_lo L
                      have b2 := I_hi L
                      generalize L.toNat % 256 = Q at *
                      have hsz := hgr.size
                      have HB : Hid (SliceIs (wr.alloc (.cells #[.int .u8 ((Q : Nat) : Int)] 5)) (.slice (some ⟨wr.heap.size, 0, none⟩) 1 1) [UInt8.ofNat Q]) := by
                        have e : ((Q : Nat) : Int) = ((UInt8.ofNat Q).toNat : Int) := by simp; omega
                        rw [e]
                        exact one_slice _ _ _
                      go_wp2_with (at_builtin; refine wpList_append_bytes rfl (.tmp 124) (.tmp 127) rfl W0.heap.size (.slice oa O.length ocap) O rfl (hown.alloc _) (some ⟨wr.heap.size, 0, none⟩) 1 1 _ rfl HB.out (by omega) (by simp; omega) ?_; intro v1 w1 ho1 hg1)
                      have hgw := grown_own (grown_alloc hgr _) (hown.alloc _) hg1
                      go_roundw
                      case rel => exact ⟨j + 1, by omega, by go_num, by rw [HNX.out, HSS2.out], by rw [HON.out]; exact ho1, hgw⟩
                      case measure => simp [intOf]; omega
                    · obtain rfl : j = 8 := by omega
                      go_wp2_with fail
                      go_roundw
                      case rel =>
                        have ho2 : Own W0.heap.size wr (.slice oa (outN SP (8 * m + 8)).length ocap) (outN SP (8 * (m + 1))) := hown
                        first
                          | exact ⟨m + 1, by omega, by go_num, ho2, hgr⟩
                          | ((repeat apply Exists.intro); refine ⟨⟨m + 1, by omega, ?_, ho2, hgr⟩, rfl⟩; go_num)
                      case measure => simp [intOf]; omega
                · obtain rfl : m = 4 := by omega
                  obtain ⟨oa, ocap, rfl⟩ := hown.shape
                  go_wp2
                  go_ret
                  have hD := HD.out
                  have hs := hown
                  rw [show 8 * 4 = 32 from rfl, hD] at hs
                  refine ⟨_, rfl, ?_, grown_trans hg hgr⟩
                  rw [show 8 * 4 = 32 from rfl, hD]
                  exact ⟨_, hs⟩
theorem digested_own (w : World) (v : Value) (bs : List UInt8) (hv : SliceIs w v bs) (hl : bs.length ≤ 4000) :
    Calls Tryz.prog 35 #[v] w fun e w' => ∃ v', e = .returned v' ∧ OwnE w' v' (sumF bs) ∧ w.grownBy w' none :=
  digested_core w v bs hv hl (sumF bs) fun _ => (outTo_all _).symm
theorem digested_any (w : World) (v : Value) (bs : List UInt8) (hv : SliceIs w v bs) (hl : bs.length ≤ 4000) :
    Calls Tryz.prog 35 #[v] w fun e w' => ∃ v', e = .returned v' ∧ SliceIs w' v' (sumF bs) ∧ w.grownBy w' none :=
  (digested_own w v bs hv hl).mono fun _ _ ⟨v', h1, h2, h3⟩ => ⟨v', h1, h2.slice, h3⟩
end Go.Proofs.YtljdconhplgipaaGreatDoor

/-
  The walk of joined of the document's answer.
-/
namespace Go.Proofs.YtljdconhplgipaaGreatDoor
open Go.RowKit
set_option maxRecDepth 100000 in
set_option maxHeartbeats 1000000 in
theorem rjoined_any (w : World) (va vb : Value) (A B : List UInt8) (ha : SliceIs w va A) (hb : SliceIs w vb B) (hla : A.length ≤ 5000) (hlb : B.length ≤ 5000) :
    Calls Tryz.prog 22 #[va, vb] w fun e w' => ∃ v', e = .returned v' ∧ Own w.heap.size w' v' (A ++ B) ∧ w.grownBy w' none := by
  obtain ⟨aa, acap, rfl, hac, har⟩ := ha
  obtain ⟨ba, bcap, rfl, hbc, hbr⟩ := hb
  go_enter Tryz.func22, Tryz.ntmps22
  go_wp2_with fail
  go_loopw [5, 6] (fun p i wr => ∃ m : Nat, m ≤ A.length ∧ i = .int .i64 (m : Int) ∧ Own w.heap.size wr p (A.take m) ∧ w.grownBy wr none) (fun _ i _ => A.length - (intOf i).toNat)
  case atStart => exact ⟨0, by omega, rfl, own_nil _ _, grown_refl _ _⟩
  case round =>
    obtain ⟨m, hm, rfl, hown, hg⟩ := hrel
    by_cases hlt : m < A.length
    · obtain ⟨b, o, rfl, hB⟩ : ∃ b o, aa = some ⟨b, o, none⟩ ∧ BytesAt w b o A := by
        rcases har with ⟨rfl, _⟩ | h
        · simp at hlt
        · exact h
      have c0 := (hB.grown hg (by simp)) m hlt
      have HT : Hid (A.take (m + 1) = A.take m ++ [A.getD m 0]) := by
        show _ = _
        rw [List.take_succ_eq_append_getElem hlt]; simp [hlt]
      have hTl : (A.take m).length ≤ 5000 := by simp; omega
      generalize A.getD m 0 = x at *
      generalize A.take m = T at *
      obtain ⟨pa, pcap, rfl⟩ := hown.shape
      have hsz := hg.size
      have HB : Hid (SliceIs (wr.alloc (.cells #[.int .u8 (x.toNat : Int)] 5)) (.slice (some ⟨wr.heap.size, 0, none⟩) 1 1) [x]) := one_slice _ _ _
      clear hB har hbr
      have i1 : (m : Int) < (A.length : Int) := by omega
      go_wp2_with (at_builtin; refine wpList_append_bytes rfl (.tmp 14) (.tmp 19) rfl w.heap.size (.slice pa T.length pcap) T rfl (hown.alloc _) (some ⟨wr.heap.size, 0, none⟩) 1 1 _ rfl HB.out (by omega) (by simp; omega) ?_; intro v1 w1 ho1 hg1)
      have hgw := grown_own (grown_alloc hg _) (hown.alloc _) hg1
      go_roundw
      case rel => exact ⟨m + 1, by omega, by go_num, by rw [HT.out]; exact ho1, hgw⟩
      case measure => simp [intOf]; omega
    · obtain rfl : m = A.length := by omega
      rw [List.take_length] at hown
      obtain ⟨pa, pcap, rfl⟩ := hown.shape
      clear har hlt
      go_wp2_with fail
      go_loopw [5, 7] (fun p i wr => ∃ m : Nat, m ≤ B.length ∧ i = .int .i64 (m : Int) ∧ Own w.heap.size wr p (A ++ B.take m) ∧ w.grownBy wr none) (fun _ i _ => B.length - (intOf i).toNat)
      case atStart => exact ⟨0, by omega, rfl, by simpa using hown, hg⟩
      case round =>
        clear hown hg
        obtain ⟨m, hm, rfl, hown, hg⟩ := hrel
        by_cases hlt : m < B.length
        · obtain ⟨b, o, rfl, hB⟩ : ∃ b o, ba = some ⟨b, o, none⟩ ∧ BytesAt w b o B := by
            rcases hbr with ⟨rfl, _⟩ | h
            · simp at hlt
            · exact h
          have c0 := (hB.grown hg (by simp)) m hlt
          have HT : Hid (A ++ B.take (m + 1) = A ++ B.take m ++ [B.getD m 0]) := by
            show _ = _
            rw [List.take_succ_eq_append_getElem hlt]; simp [hlt]
          have hTl : (A ++ B.take m).length ≤ 10000 := by simp; omega
          generalize B.getD m 0 = x at *
          generalize A ++ B.take m = T at *
          obtain ⟨qa, qcap, rfl⟩ := hown.shape
          have hsz := hg.size
          have HB : Hid (SliceIs (wr.alloc (.cells #[.int .u8 (x.toNat : Int)] 5)) (.slice (some ⟨wr.heap.size, 0, none⟩) 1 1) [x]) := one_slice _ _ _
          clear hB hbr
          have i1 : (m : Int) < (B.length : Int) := by omega
          go_wp2_with (at_builtin; refine wpList_append_bytes rfl (.tmp 27) (.tmp 32) rfl w.heap.size (.slice qa T.length qcap) T rfl (hown.alloc _) (some ⟨wr.heap.size, 0, none⟩) 1 1 _ rfl HB.out (by omega) (by simp; omega) ?_; intro v1 w1 ho1 hg1)
          have hgw := grown_own (grown_alloc hg _) (hown.alloc _) hg1
          go_roundw
          case rel =>
            first
              | exact ⟨m + 1, by omega, by go_num, by rw [HT.out]; exact ho1, hgw⟩
              | ((repeat apply Exists.intro); refine ⟨⟨m + 1, by omega, ?_, by rw [HT.out]; exact ho1, hgw⟩, rfl⟩; go_num)
          case measure => simp [intOf]; omega
        · obtain rfl : m = B.length := by omega
          rw [List.take_length] at hown
          obtain ⟨qa, qcap, rfl⟩ := hown.shape
          go_wp2
          go_ret
          exact ⟨_, rfl, hown, hg⟩
end Go.Proofs.YtljdconhplgipaaGreatDoor

/-
  The walk of PartsOf of the document's answer.
-/
namespace Go.Proofs.YtljdconhplgipaaGreatDoor
open Go.RowKit
set_option maxRecDepth 100000 in
set_option maxHeartbeats 1000000 in
theorem partsOf_own (w : World) (k : UInt8) (v : Value) (ps : List (List UInt8)) (hv : ListIs w v ps) (hm : ps.length ≤ maxLen) (hms : ∀ i, i < ps.length → (ps.getD i []).length ≤ 140737488351232) :
    Calls Tryz.prog 36 #[.int .u8 (k.toNat : Int), v] w fun e w' => w.grownBy w' none ∧
      (((joinF k ps).length ≤ 4000 ∧ ∃ v', e = .returned (.tuple #[v', .int .i64 0]) ∧ OwnE w' v' (sumF (joinF k ps))) ∨
       (4000 < (joinF k ps).length ∧ e = .returned (.tuple #[.slice none 0 0, .int .i64 1]))) := by
  obtain ⟨a, cap, rfl, hc, hps⟩ := hv
  unfold maxLen at hm
  go_enter Tryz.func36, Tryz.ntmps36
  go_wp2_with fail
  go_loopw [6, 7] (fun j i wr => ∃ m : Nat, m ≤ ps.length ∧ i = .int .i64 (m : Int) ∧ Own w.heap.size wr j (joinF k (ps.take m)) ∧ (joinF k (ps.take m)).length ≤ 4000 ∧ w.grownBy wr none) (fun _ i _ => ps.length - (intOf i).toNat)
  case atStart => exact ⟨0, by omega, rfl, own_new w.heap.size w [k] (Nat.le_refl _) (by unfold maxLen; simp), by simp [joinF], grown_alloc (grown_refl _ _) _⟩
  case round =>
    obtain ⟨m, hmn, rfl, hown, hlen, hg⟩ := hrel
    obtain ⟨ja, jcap, rfl⟩ := hown.shape
    by_cases hlt : m < ps.length
    · obtain ⟨b, o, rfl, hcells⟩ : ∃ b o, a = some ⟨b, o, none⟩ ∧ ∀ i, i < ps.length → ∃ vi, w.cell? ⟨b, o + i, none⟩ = some vi ∧ SliceIs w vi (ps.getD i []) := by
        rcases hps with rfl | h
        · simp at hlt
        · exact h
      obtain ⟨vi, hvi, hsi⟩ := hcells m hlt
      have hpm := hms m hlt
      have HT : Hid (joinF k (ps.take (m + 1)) = joinF k (ps.take m) ++ jpartF (ps.getD m [])) := joinF_take k ps m hlt
      have HM : Hid ((joinF k (ps.take (m + 1))).length ≤ (joinF k ps).length) := joinF_mono k ps (m + 1)
      have hci := hg.cell hvi (by simp)
      generalize ps.getD m [] = P at *
      obtain ⟨pa, pcap, rfl, hpc, hpr⟩ := hsi
      have hsi : SliceIs w (.slice pa P.length pcap) P := ⟨pa, pcap, rfl, hpc, hpr⟩
      have HSI : Hid (SliceIs w (.slice pa P.length pcap) P) := hsi
      have hsz := hg.size
      generalize joinF k (ps.take m) = J at *
      have HPS : Hid (w.heap.size ≤ wr.heap.size) := hsz
      have HVI : Hid (w.cell? ⟨b, o + m, none⟩ = some (.slice pa P.length pcap)) := hvi
      clear hcells hvi hsi hpr hps hms hsz
      have i1 : (m : Int) < (ps.length : Int) := by omega
      by_cases hfit : P.length + 2 + J.length ≤ 4000
      · have i2 : ¬ (4000 : Int) < (P.length : Int) + 2 + (J.length : Int) := by omega
        have i3 : ¬ (4000 : Int) < (P.length : Int) := by omega
        have i4 : (P.length : Int) ≤ 4000 := by omega
        have HB1 : Hid (SliceIs (wr.alloc (.cells #[.int .u8 ((P.length : Int) / 256), .int .u8 ((P.length : Int) % 256)] 5)) (.slice (some ⟨wr.heap.size, 0, none⟩) 2 2) [UInt8.ofNat (P.length / 256), UInt8.ofNat P.length]) := by
          have e1 : ((P.length : Int) / 256) = ((UInt8.ofNat (P.length / 256)).toNat : Int) := by simp; omega
          have e2 : ((P.length : Int) % 256) = ((UInt8.ofNat P.length).toNat : Int) := by simp
          rw [e1, e2]
          exact two_slice _ _ _ _
        go_upto_region 9 with (at_builtin; refine wpList_append_bytes rfl (.tmp 32) (.tmp 39) rfl w.heap.size (.slice ja J.length jcap) J rfl (hown.alloc _) (some ⟨wr.heap.size, 0, none⟩) 2 2 _ rfl HB1.out (by omega) (by have := HPS.out; simp; omega) ?_; intro v1 w1 ho1 hg1)
        have hgw := grown_own (grown_alloc hg _) (hown.alloc _) hg1
        have hci1 := hgw.cell HVI.out (by simp)
        have HS1 : Hid (SliceIs w1 (.slice pa P.length pcap) P) := HSI.out.grown hgw
        have hJl : (J ++ [UInt8.ofNat (P.length / 256), UInt8.ofNat P.length]).length = J.length + 2 := by simp
        generalize hJ2 : J ++ [UInt8.ofNat (P.length / 256), UInt8.ofNat P.length] = J2 at *
        have HJ2 : Hid (J ++ [UInt8.ofNat (P.length / 256), UInt8.ofNat P.length] = J2) := hJ2
        have HJL : Hid (J2.length = J.length + 2) := hJl
        clear hJ2 hJl
        have HJ1 := ho1.slice
        obtain ⟨va, vcap, rfl⟩ := ho1.shape
        clear hown hci hg hg1 HB1 HSI HPS HVI
        go_wp2_with fail
        refine (rjoined_any w1 _ _ _ _ HJ1 HS1.out (by have := HJL.out; omega) (by omega)).mono ?_
        rintro e w2 ⟨v2, rfl, ho2, hg2⟩
        have hgw2 := grown_trans hgw hg2
        go_wp2_with fail
        go_roundw
        case rel =>
          have e : joinF k (ps.take (m + 1)) = J2 ++ P := by rw [HT.out, ← HJ2.out]; simp [jpartF]
          have ho3 : Own w.heap.size w2 v2 (joinF k (ps.take (m + 1))) := by rw [e]; exact own_mono ho2 hgw.size
          refine ⟨m + 1, by omega, by go_num, ho3, ?_, hgw2⟩
          rw [e]; have := HJL.out; simp; omega
        case measure => simp [intOf]; omega
      · by_cases hbig : 4000 < P.length
        · have i3 : (4000 : Int) < (P.length : Int) := by omega
          go_wp2
          go_ret2
          refine ⟨hg, .inr ⟨?_, rfl⟩⟩
          have h1 := HM.out
          rw [HT.out] at h1
          simp [jpartF_len] at h1
          omega
        · have i3 : ¬ (4000 : Int) < (P.length : Int) := by omega
          have i2 : (4000 : Int) < (P.length : Int) + 2 + (J.length : Int) := by omega
          go_wp2
          go_ret2
          refine ⟨hg, .inr ⟨?_, rfl⟩⟩
          have h1 := HM.out
          rw [HT.out] at h1
          simp [jpartF_len] at h1
          omega
    · obtain rfl : m = ps.length := by omega
      rw [List.take_length] at hown hlen
      have hS := digested_own wr _ _ hown.slice hlen
      go_wp2_with fail
      refine hS.mono ?_
      rintro e w2 ⟨v2, rfl, hs2, hg2⟩
      go_wp2
      go_ret2
      exact ⟨grown_trans hg hg2, .inl ⟨hlen, v2, rfl, hs2⟩⟩
theorem partsOf_any (w : World) (k : UInt8) (v : Value) (ps : List (List UInt8)) (hv : ListIs w v ps) (hm : ps.length ≤ maxLen) (hms : ∀ i, i < ps.length → (ps.getD i []).length ≤ 140737488351232) :
    Calls Tryz.prog 36 #[.int .u8 (k.toNat : Int), v] w fun e w' => w.grownBy w' none ∧
      (((joinF k ps).length ≤ 4000 ∧ ∃ v', e = .returned (.tuple #[v', .int .i64 0]) ∧ SliceIs w' v' (sumF (joinF k ps))) ∨
       (4000 < (joinF k ps).length ∧ e = .returned (.tuple #[.slice none 0 0, .int .i64 1]))) := by
  refine (partsOf_own w k v ps hv hm hms).mono ?_
  rintro e w' ⟨hg, ⟨h1, v', h2, h3⟩ | h⟩
  · exact ⟨hg, .inl ⟨h1, v', h2, h3.slice⟩⟩
  · exact ⟨hg, .inr h⟩
end Go.Proofs.YtljdconhplgipaaGreatDoor
