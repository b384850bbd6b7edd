/-
  The walks of a lane's reading and of a block's taking.
-/
import Derived.Test.YtedmhejnbapklaaDoorRound
import Derived.Test.YtedmhejnbapklaaDoorBase
namespace Go.Proofs.YtedmhejnbapklaaDoor
open Go.RowKit
/-- A byte as a word. -/
def Z (c : UInt8) : BitVec 64 := BitVec.ofNat 64 c.toNat
theorem wrap_byte (c : UInt8) : IntKind.u64.wrap ((c.toNat : Nat) : Int) = U (Z c) := by
  rw [IntKind.wrap_u64]; unfold U Z; rw [BitVec.toNat_ofNat]; have := c.toNat_lt; omega
/-- Eight bytes as a lane, the lowest one first. -/
def laneOf (c0 c1 c2 c3 c4 c5 c6 c7 : UInt8) : BitVec 64 := Z c7 <<< 56 ||| Z c6 <<< 48 ||| Z c5 <<< 40 ||| Z c4 <<< 32 ||| Z c3 <<< 24 ||| Z c2 <<< 16 ||| Z c1 <<< 8 ||| Z c0
def laneAt (bs : List UInt8) (k : Nat) : BitVec 64 := laneOf (bs.getD k 0) (bs.getD (k + 1) 0) (bs.getD (k + 2) 0) (bs.getD (k + 3) 0) (bs.getD (k + 4) 0) (bs.getD (k + 5) 0) (bs.getD (k + 6) 0) (bs.getD (k + 7) 0)
theorem lane_bits (c0 c1 c2 c3 c4 c5 c6 c7 : UInt8) :
    bits .or .u64 (bits .or .u64 (bits .or .u64 (bits .or .u64 (bits .or .u64 (bits .or .u64 (bits .or .u64
      (IntKind.u64.wrap (IntKind.u64.wrap (c7.toNat : Int) * 72057594037927936)) (IntKind.u64.wrap (IntKind.u64.wrap (c6.toNat : Int) * 281474976710656)))
      (IntKind.u64.wrap (IntKind.u64.wrap (c5.toNat : Int) * 1099511627776))) (IntKind.u64.wrap (IntKind.u64.wrap (c4.toNat : Int) * 4294967296)))
      (IntKind.u64.wrap (IntKind.u64.wrap (c3.toNat : Int) * 16777216))) (IntKind.u64.wrap (IntKind.u64.wrap (c2.toNat : Int) * 65536)))
      (IntKind.u64.wrap (IntKind.u64.wrap (c1.toNat : Int) * 256))) (IntKind.u64.wrap (c0.toNat : Int)) = U (laneOf c0 c1 c2 c3 c4 c5 c6 c7) := by
  have e56 := wrap_shl_U (Z c7) 56
  have e48 := wrap_shl_U (Z c6) 48
  have e40 := wrap_shl_U (Z c5) 40
  have e32 := wrap_shl_U (Z c4) 32
  have e24 := wrap_shl_U (Z c3) 24
  have e16 := wrap_shl_U (Z c2) 16
  have e8 := wrap_shl_U (Z c1) 8
  simp only [Int.reducePow] at e56 e48 e40 e32 e24 e16 e8
  rw [wrap_byte, wrap_byte, wrap_byte, wrap_byte, wrap_byte, wrap_byte, wrap_byte, wrap_byte, e56, e48, e40, e32, e24, e16, e8]
  simp only [bits_or_U]
  rfl
set_option maxRecDepth 100000 in
set_option maxHeartbeats 1000000 in
theorem lane_core (w : World) (b o : Nat) (cap : Nat) (len : Nat) (c0 c1 c2 c3 c4 c5 c6 c7 : UInt8) (hl : 8 ≤ len)
    (h0 : w.cell? ⟨b, o, none⟩ = some (.int .u8 (c0.toNat : Int))) (h1 : w.cell? ⟨b, o + 1, none⟩ = some (.int .u8 (c1.toNat : Int))) (h2 : w.cell? ⟨b, o + 2, none⟩ = some (.int .u8 (c2.toNat : Int)))
    (h3 : w.cell? ⟨b, o + 3, none⟩ = some (.int .u8 (c3.toNat : Int))) (h4 : w.cell? ⟨b, o + 4, none⟩ = some (.int .u8 (c4.toNat : Int))) (h5 : w.cell? ⟨b, o + 5, none⟩ = some (.int .u8 (c5.toNat : Int)))
    (h6 : w.cell? ⟨b, o + 6, none⟩ = some (.int .u8 (c6.toNat : Int))) (h7 : w.cell? ⟨b, o + 7, none⟩ = some (.int .u8 (c7.toNat : Int))) :
    Calls Tryd.prog 91 #[.slice (some ⟨b, o, none⟩) len cap] w fun e w' => e = .returned (.int .u64 (U (laneOf c0 c1 c2 c3 c4 c5 c6 c7))) ∧ ∃ n, w' = w.drewN n := by
  have g0 : (0 : Int) < len := by omega
  have g1 : (1 : Int) < len := by omega
  have g2 : (2 : Int) < len := by omega
  have g3 : (3 : Int) < len := by omega
  have g4 : (4 : Int) < len := by omega
  have g5 : (5 : Int) < len := by omega
  have g6 : (6 : Int) < len := by omega
  have g7 : (7 : Int) < len := by omega
  go_enter Tryd.func91, Tryd.ntmps91
  go_wp2
  go_quiet (fail)
  go_wp2
  go_ret
  refine ⟨?_, _, rfl⟩
  rw [← lane_bits]
  rfl
theorem lane_any (w : World) (pb o len cap : Nat) (bs : List UInt8) (k : Nat) (hk : k + 8 ≤ bs.length) (hl : 8 ≤ len) (h : BytesAt w pb o bs) :
    Calls Tryd.prog 91 #[.slice (some ⟨pb, o + k, none⟩) len cap] w fun e w' => e = .returned (.int .u64 (U (laneAt bs k))) ∧ ∃ n, w' = w.drewN n :=
  lane_core w pb (o + k) cap len _ _ _ _ _ _ _ _ hl (h k (by omega)) (h (k + 1) (by omega)) (h (k + 2) (by omega)) (h (k + 3) (by omega)) (h (k + 4) (by omega)) (h (k + 5) (by omega)) (h (k + 6) (by omega)) (h (k + 7) (by omega))
def absorbTo (bs : List UInt8) (st : List (BitVec 64)) : Nat → List (BitVec 64)
  | 0 => st
  | k + 1 => (absorbTo bs st k).set k ((absorbTo bs st k).getD k 0 ^^^ laneAt bs (8 * k))
def roundsTo (st : List (BitVec 64)) : Nat → List (BitVec 64)
  | 0 => st
  | k + 1 => roundF (roundsTo st k) (roundNumbersT.getD k 0)
set_option maxRecDepth 100000 in
set_option maxHeartbeats 1000000 in
theorem take_any (w : World) (b : Nat) (hb : 4 ≤ b) (st : List (BitVec 64)) (h : St w b st) (ht : Tabs w) (pb o cap : Nat) (hpb : pb ≠ b) (hcap : 136 ≤ cap) (hmax : cap ≤ 1000000) (bs : List UInt8) (hbs : bs.length = 136) (hB : BytesAt w pb o bs) :
    Calls Tryd.prog 86 #[.pointer (some ⟨b, 0, none⟩), .slice (some ⟨pb, o, none⟩) 136 cap] w fun e w' => e = .returned (.tuple #[]) ∧ St w' b (roundsTo (absorbTo bs st 17) 24) ∧ w.grownBy w' (some b) := by
  go_enter Tryd.func86, Tryd.ntmps86
  go_wp2_with fail
  go_loopw [6] (fun i wr => ∃ k : Nat, k ≤ 17 ∧ i = .int .i64 (k : Int) ∧ St wr b (absorbTo bs st k) ∧ w.grownBy wr (some b)) (fun i _ => 17 - (intOf i).toNat)
  case atStart => exact ⟨0, by omega, rfl, h, grown_refl _ _⟩
  case round =>
    obtain ⟨k, hk, rfl, hst, hg⟩ := hrel
    by_cases hlt : k < 17
    · have hBr := hB.grown hg (by simpa using hpb)
      have c0 := hst.cell k (by omega)
      have hf := hst.frozen k
      generalize hS : absorbTo bs st k = S at *
      have HS : Hid (absorbTo bs st k = S) := hS
      generalize hx : S.getD k 0 = x at *
      have HX : Hid (S.getD k 0 = x) := hx
      have HL : Hid (bs.length = 136) := hbs
      clear hS hx h ht hB hbs
      have i1 : (k : Int) < 25 := by omega
      have i2 : 8 * (k : Int) ≤ 128 := by omega
      have n1 : ¬ cap = 8 * k := by omega
      have n2 : (8 * (k : Int)).toNat = 8 * k := by omega
      have ha := addr_add
      have hwr : IntKind.i64.wrap (8 * (k : Int)) = 8 * (k : Int) := by rw [IntKind.wrap_i64]; omega
      have hsl := fun W => slice_l W pb o 136 cap (8 * (k : Int)) (8 * k) (by omega) (by omega) (by omega)
      go_wp2_with fail
      go_region_with (go_at_call 91; refine (lane_any _ pb o _ _ bs (8 * k) (by have := HL.out; omega) (by omega) (by exact hBr)).mono ?_; rintro e w' ⟨rfl, n, rfl⟩)
      all_goals go_wp2
      all_goals
        go_roundw
        case rel =>
          rw [bits_xor_U]
          refine ⟨k + 1, by omega, by go_num, ?_, grown_set (grown_drewN hg _) _ _⟩
          simp only [absorbTo, HS.out, HX.out]
          exact (hst.drewN _).set k _
        case measure => simp [intOf]; omega
    · obtain rfl : k = 17 := by omega
      clear hlt hk
      generalize hS : absorbTo bs st 17 = S at *
      have HS : Hid (absorbTo bs st 17 = S) := hS
      clear hS h hB
      go_wp2_with fail
      go_loopw [23] (fun i wr => ∃ k : Nat, k ≤ 24 ∧ i = .int .i64 (k : Int) ∧ St wr b (roundsTo S k) ∧ w.grownBy wr (some b)) (fun i _ => 24 - (intOf i).toNat)
      case atStart => exact ⟨0, by omega, rfl, hst, hg⟩
      case round =>
        clear hst hg
        obtain ⟨k, hk, rfl, hst, hg⟩ := hrel
        by_cases hlt : k < 24
        · have hT := ht.grown hg hb
          have t0 := hT.nums k hlt
          generalize hn : roundNumbersT.getD k 0 = n at *
          have HN : Hid (roundNumbersT.getD k 0 = n) := hn
          generalize hR : roundsTo S k = R at *
          have HR : Hid (roundsTo S k = R) := hR
          clear hn hR ht
          have i1 : (k : Int) < 24 := by omega
          go_wp2_with fail
          refine (round_any _ b hb R n hst hT).mono ?_
          rintro e w1 ⟨rfl, h1, g1⟩
          clear hT t0
          go_wp2_with fail
          go_roundw
          case rel =>
            have hnew : St w1 b (roundsTo S (k + 1)) := by simp only [roundsTo, HR.out, HN.out]; exact h1
            repeat apply Exists.intro
            exact ⟨⟨k + 1, by omega, by go_num, hnew, grown_trans hg g1⟩, rfl⟩
          case measure => simp [intOf]; omega
        · obtain rfl : k = 24 := by omega
          go_wp2
          go_end0
          refine ⟨rfl, ?_, hg⟩
          rw [HS.out]
          exact hst
end Go.Proofs.YtedmhejnbapklaaDoor
