/-
  The walks of power, turned and column of the document's answer; lanes as signed numbers in memory.
-/
import Derived.Test.YtdpoickggdgddaaDoorRBits
import Derived.Test.YtdpoickggdgddaaDoorLanes
import Derived.Test.YtdpoickggdgddaaDoorBase
namespace Go.Proofs.YtdpoickggdgddaaDoor
open Go.RowKit
def icellsOf (st : List (BitVec 64)) : Array Value := (st.map fun x => Value.int .i64 (I x)).toArray
/-- Block b holds n lanes, as signed numbers. -/
structure ILanes (n : Nat) (w : World) (b : Nat) (st : List (BitVec 64)) : Prop where
  len : st.length = n
  blk : ∃ t, w.heap[b]? = some (.cells (icellsOf st) t (0, 0))
section
variable {n : Nat} {w : World} {b : Nat} {st : List (BitVec 64)}
theorem ILanes.cell (h : ILanes n w b st) (i : Nat) (hi : i < n) : w.cell? ⟨b, i, none⟩ = some (.int .i64 (I (st.getD i 0))) := by
  obtain ⟨t, hb⟩ := h.blk
  simp [World.cell?, hb, icellsOf, List.getElem?_map, List.getElem?_eq_getElem (show i < st.length by have := h.len; omega)]
theorem ILanes.frozen (h : ILanes n w b st) (i : Nat) : w.frozen? ⟨b, i, none⟩ = false := by
  obtain ⟨t, hb⟩ := h.blk
  simp [World.frozen?, hb]
theorem ILanes.lt (h : ILanes n w b st) : b < w.heap.size := by
  obtain ⟨t, hb⟩ := h.blk
  exact (Array.getElem?_eq_some_iff.1 hb).1
theorem icellsOf_set (st : List (BitVec 64)) (i : Nat) (x : BitVec 64) : (icellsOf st).setIfInBounds i (.int .i64 (I x)) = icellsOf (st.set i x) := by
  simp [icellsOf]
theorem ILanes.set (h : ILanes n w b st) (i : Nat) (x : BitVec 64) : ILanes n (w.setCell ⟨b, i, none⟩ (.int .i64 (I x))) b (st.set i x) := by
  obtain ⟨t, hb⟩ := h.blk
  refine ⟨by simp [h.len], t, ?_⟩
  simp only [World.setCell, Array.getElem?_modify, if_true, hb, Option.map_some]
  simp [icellsOf_set]
theorem ILanes.setOther (h : ILanes n w b st) (c : Nat) (hc : b ≠ c) (i : Nat) (v : Value) : ILanes n (w.setCell ⟨c, i, none⟩ v) b st := by
  obtain ⟨t, hb⟩ := h.blk
  exact ⟨h.len, t, by rw [Below.heap_setCell _ _ _ _ hc]; exact hb⟩
theorem ILanes.drewN (h : ILanes n w b st) (k : Nat) : ILanes n (w.drewN k) b st := ⟨h.len, h.blk⟩
theorem ILanes.drew (h : ILanes n w b st) : ILanes n w.drew b st := ⟨h.len, h.blk⟩
theorem ILanes.alloc (h : ILanes n w b st) (o : Obj) : ILanes n (w.alloc o) b st := by
  obtain ⟨t, hb⟩ := h.blk
  exact ⟨h.len, t, by rw [Below.heap_alloc _ _ _ h.lt]; exact hb⟩
theorem ILanes.grown (h : ILanes n w b st) {w' : World} {r : Option Nat} (hg : w.grownBy w' r) (hr : some b ≠ r) : ILanes n w' b st := by
  obtain ⟨t, hb⟩ := h.blk
  exact ⟨h.len, t, by rw [hg.block b h.lt hr]; exact hb⟩
theorem ILanes.new (w : World) (t : TypeId) (st : List (BitVec 64)) (hl : st.length = n) : ILanes n (w.alloc (.cells (icellsOf st) t)) w.heap.size st :=
  ⟨hl, t, heap_alloc_new w _⟩
end
theorem dbl (x : BitVec 64) : x + x = x <<< 1 := by
  apply BitVec.eq_of_toNat_eq
  rw [BitVec.toNat_add, BitVec.toNat_shiftLeft, Nat.shiftLeft_eq]
  omega
theorem shl_succ (k : Nat) : (1#64 <<< k) + (1#64 <<< k) = 1#64 <<< (k + 1) := by
  rw [dbl, BitVec.shiftLeft_add]
set_option maxRecDepth 100000 in
set_option maxHeartbeats 1000000 in
theorem power_any (n : Nat) (hn : n ≤ 64) (w : World) :
    Calls Tryd.prog 51 #[.int .i64 (n : Int)] w fun e w' => e = .returned (.int .i64 (I (1#64 <<< n))) ∧ w' = w := by
  go_enter Tryd.func51, Tryd.ntmps51
  go_wp2
  go_loop [3, 4] (fun p i => ∃ k : Nat, k ≤ n ∧ i = .int .i64 (k : Int) ∧ p = .int .i64 (I (1#64 <<< k))) (fun _ i => n - (intOf i).toNat)
  case atStart => exact ⟨0, by omega, rfl, rfl⟩
  case round =>
    obtain ⟨k, hk, rfl, rfl⟩ := hrel
    by_cases hlt : k < n
    · have HP : Hid (wrap64 (I (1#64 <<< k) + I (1#64 <<< k)) = I (1#64 <<< (k + 1))) := by show _ = _; rw [wrap64_eq, wrap_add_I, shl_succ]
      generalize I (1#64 <<< k) = P at *
      go_wp2
      go_round
      case rel => exact ⟨k + 1, by omega, by go_num, by rw [HP.out]⟩
      case measure => simp [intOf]; omega
    · obtain rfl : k = n := by omega
      go_wp2
      go_ret
      exact ⟨rfl, rfl⟩
theorem rotl_zero (x : BitVec 64) : rotl x 0 = x := by simp [rotl, BitVec.ushiftRight_eq_zero]
theorem mask_I (n : Nat) : wrap64 (I (1#64 <<< n) - 1) = I ((1#64 <<< n) - 1) := by
  rw [wrap64_eq, show (1 : Int) = I 1 by decide, wrap_sub_I]
theorem sar_mask (x : BitVec 64) (n : Nat) (h1 : 1 ≤ n) (h : n ≤ 63) : x.sshiftRight (64 - n) &&& ((1#64 <<< n) - 1) = x >>> (64 - n) := by
  have hm : (1#64 <<< n) - 1 = BitVec.ofNat 64 (2 ^ n - 1) := by
    have hp : 2 ^ n ≤ 2 ^ 63 := Nat.pow_le_pow_right (by decide) h
    have hq : 0 < 2 ^ n := Nat.two_pow_pos n
    apply BitVec.eq_of_toNat_eq
    rw [BitVec.toNat_sub, BitVec.toNat_shiftLeft, Nat.shiftLeft_eq, BitVec.toNat_ofNat]
    have h1 : (1 : BitVec 64).toNat = 1 := rfl
    have h2 : (1 % 2 ^ 64 : Nat) = 1 := by decide
    rw [h1, BitVec.toNat_ofNat, h2, Nat.one_mul]
    omega
  rw [hm]
  apply BitVec.eq_of_getLsbD_eq
  intro i hi
  rw [BitVec.getLsbD_and, BitVec.getLsbD_sshiftRight, BitVec.getLsbD_ofNat, BitVec.getLsbD_ushiftRight, Nat.testBit_two_pow_sub_one]
  by_cases hin : i < n
  · simp [hin, hi, show 64 - n + i < 64 by omega, show ¬ 64 ≤ i by omega]
  · simp [hin, BitVec.getLsbD_of_ge x (64 - n + i) (by omega)]
theorem mul_shl (x : BitVec 64) (n : Nat) : x * (1#64 <<< n) = x <<< n := by
  rw [BitVec.shiftLeft_eq_mul_twoPow x n, BitVec.twoPow_eq]
set_option maxRecDepth 100000 in
set_option maxHeartbeats 1000000 in
theorem turned_any (x : BitVec 64) (n : Nat) (hn : n < 64) (w : World) :
    Calls Tryd.prog 53 #[.int .i64 (I x), .int .i64 (n : Int)] w fun e w' => e = .returned (.int .i64 (I (rotl x n))) ∧ ∃ m, w' = w.drewN m := by
  by_cases h0 : n = 0
  · subst h0
    rw [rotl_zero]
    generalize I x = X at *
    go_enter Tryd.func53, Tryd.ntmps53
    go_wp2
    go_ret
    exact ⟨rfl, 0, rfl⟩
  · have hc : ((n : Int) == 0) = false := by rw [beq_eq_false_iff_ne]; omega
    have hp := fun W => power_any n (by omega) W
    have HPW : Hid (∀ W, Calls Tryd.prog 51 #[.int .i64 (n : Int)] W fun e w' => e = .returned (.int .i64 (I (1#64 <<< n))) ∧ w' = W) := hp
    clear hp
    have hx1 := I_lo x
    have hx2 := I_hi x
    have HR : Hid (I (rotl x n) = bits .or .i64 (wrap64 (I x * I (1#64 <<< n))) (bits .and .i64 (I x / 2 ^ (64 - n)) (wrap64 (I (1#64 <<< n) - 1)))) := by
      show _ = _
      rw [wrap64_eq, wrap_mul_I, mask_I n, shr_I, bits_and_I, sar_mask x n (by omega) (by omega), bits_or_I, mul_shl]; rfl
    generalize I (1#64 <<< n) = P at *
    generalize I x = X at *
    have i1 : (0 : Int) ≤ 64 - (n : Int) := by omega
    have e1 : (64 - (n : Int)).toNat = 64 - n := by omega
    have e2 : IntKind.i64.wrap (64 - (n : Int)) = 64 - (n : Int) := by rw [IntKind.wrap_i64]; omega
    go_enter Tryd.func53, Tryd.ntmps53
    go_wp2_with fail
    go_quiet ((go_at_call 51; exact Calls.quiet_of_same (HPW.out _)))
    go_wp2_with fail
    refine (HPW.out _).mono ?_
    rintro e w1 ⟨rfl, rfl⟩
    go_wp2_with fail
    go_ret
    exact ⟨by rw [HR.out]; rfl, _, rfl⟩
/-- All lanes of x mixed, one by one. -/
def colTo (st : List (BitVec 64)) (x : Nat) : Nat → BitVec 64
  | 0 => 0
  | y + 1 => colTo st x y ^^^ st.getD (x + 5 * y) 0
set_option maxRecDepth 100000 in
set_option maxHeartbeats 1000000 in
theorem column_any (w : World) (b : Nat) (st : List (BitVec 64)) (h : ILanes 25 w b st) (x : Nat) (hx : x < 5) :
    Calls Tryd.prog 52 #[.slice (some ⟨b, 0, none⟩) 25 25, .int .i64 (x : Int)] w fun e w' => e = .returned (.int .i64 (I (colTo st x 5))) ∧ w' = w := by
  go_enter Tryd.func52, Tryd.ntmps52
  go_wp2
  go_loop [5, 6] (fun c y => ∃ k : Nat, k ≤ 5 ∧ y = .int .i64 (k : Int) ∧ c = .int .i64 (I (colTo st x k))) (fun _ i => 5 - (intOf i).toNat)
  case atStart => exact ⟨0, by omega, rfl, by rw [colTo, I_zero]⟩
  case round =>
    obtain ⟨k, hk, rfl, rfl⟩ := hrel
    by_cases hlt : k < 5
    · have c0 := h.cell (x + 5 * k) (by omega)
      have HC : Hid (bits .xor .i64 (I (colTo st x k)) (I (st.getD (x + 5 * k) 0)) = I (colTo st x (k + 1))) := by show _ = _; rw [bits_xor_I]; rfl
      generalize I (colTo st x k) = C at *
      generalize I (st.getD (x + 5 * k) 0) = Y at *
      have e1 : ((x : Int) + 5 * (k : Int)).toNat = x + 5 * k := by omega
      have i1 : (x : Int) + 5 * (k : Int) < 25 := by omega
      have i2 : (0 : Int) ≤ (x : Int) + 5 * (k : Int) := by omega
      go_wp2
      go_round
      case rel => exact ⟨k + 1, by omega, by go_num, by rw [HC.out]⟩
      case measure => simp [intOf]; omega
    · obtain rfl : k = 5 := by omega
      go_wp2
      go_ret
      exact ⟨rfl, rfl⟩
end Go.Proofs.YtdpoickggdgddaaDoor
