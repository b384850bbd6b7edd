/-
  The walk of canopykeep.hex: a text of digits of the base 16.
-/
import Derived.Test.YtpkegibjoieemaaDoorOwn
namespace Go.Proofs.YtpkegibjoieemaaDoor
open Go.RowKit
def digitH (c : UInt8) : Nat := if 97 ≤ c.toNat then c.toNat - 97 + 10 else c.toNat - 48
/-- The first k bytes of a text of digits of the base 16. -/
def hexTo (s : ByteArray) : Nat → List UInt8
  | 0 => []
  | k + 1 => hexTo s k ++ [UInt8.ofNat (16 * digitH (s.data.toList.getD (2 * k) 0) + digitH (s.data.toList.getD (2 * k + 1) 0))]
theorem hexTo_len (s : ByteArray) (k : Nat) : (hexTo s k).length = k := by
  induction k with
  | zero => rfl
  | succ k ih => simp [hexTo, ih]
def numTo (s : ByteArray) (i : Nat) : Nat → Nat
  | 0 => 0
  | j + 1 => 16 * numTo s i j + digitH (s.data.toList.getD (i + j) 0)
set_option maxRecDepth 100000 in
set_option maxHeartbeats 1000000 in
theorem hex_any (w : World) (s : ByteArray) (n : Nat) (hn : s.size = 2 * n) (hm : n ≤ 1000) (hd : ∀ i (h : i < s.size), 48 ≤ s[i].toNat ∧ s[i].toNat ≤ 102 ∧ (s[i].toNat ≤ 57 ∨ 97 ≤ s[i].toNat)) :
    Calls Tryd.prog 16 #[.string s] w fun e w' => ∃ v, e = .returned v ∧ Own w.heap.size w' v (hexTo s n) ∧ w.grownBy w' none := by
  have HN : Hid (s.size = 2 * n) := hn
  have HD : Hid (∀ i (h : i < s.size), 48 ≤ s[i].toNat ∧ s[i].toNat ≤ 102 ∧ (s[i].toNat ≤ 57 ∨ 97 ≤ s[i].toNat)) := hd
  clear hd
  have hs2 : s.size ≤ 2000 := by omega
  clear hn
  go_enter Tryd.func16, Tryd.ntmps16
  go_wp2_with fail
  go_loopw [3, 4] (fun out i wr => ∃ k : Nat, k ≤ n ∧ i = .int .i64 ((2 * k : Nat) : Int) ∧ Own w.heap.size wr out (hexTo s k) ∧ w.grownBy wr none) (fun _ i _ => 2 * n + 2 - (intOf i).toNat)
  case atStart => exact ⟨0, by omega, rfl, own_nil _ _, grown_refl _ _⟩
  case round =>
    obtain ⟨k, hk, rfl, hown, hg⟩ := hrel
    obtain ⟨oa, ocap, rfl⟩ := hown.shape
    have hsz := hg.size
    by_cases hlt : k < n
    · have HI : Hid (2 * k + 2 ≤ s.size) := by show _ ≤ _; rw [HN.out]; omega
      generalize hq : 2 * k = q at *
      have HQ : Hid (2 * k = q) := hq
      clear hq
      have i1 : (q : Int) + 1 < (s.size : Int) := by have := HI.out; omega
      generalize hH : hexTo s k = H at *
      have HH : Hid (hexTo s k = H) := hH
      clear hH
      go_wp2_with fail
      go_loop [5, 6, 7] (fun num p _ => ∃ j : Nat, j ≤ 2 ∧ p = .int .i64 ((q + j : Nat) : Int) ∧ num = .int .i64 ((numTo s q j : Nat) : Int) ∧ (j ≤ 1 → numTo s q j ≤ 15) ∧ numTo s q j ≤ 255) (fun _ p _ => q + 2 - (intOf p).toNat)
      case atStart => exact ⟨0, by omega, by simp, rfl, fun _ => by simp [numTo], by simp [numTo]⟩
      case round =>
        obtain ⟨j, hj, rfl, rfl, hb1, hb2⟩ := hrel
        by_cases hj2 : j < 2
        · have hp : q + j < s.size := by have := HI.out; omega
          have hdd := HD.out (q + j) hp
          have HG : Hid (s.data.toList.getD (q + j) 0 = s[q + j]) := by
            show _ = _
            have hp2 : q + j < s.data.size := hp
            rw [List.getD_eq_getElem?_getD, Array.getElem?_toList, Array.getElem?_eq_getElem hp2]
            rfl
          have hM := hb1 (by omega)
          have HM0 : Hid (j = 0 → numTo s q j = 0) := by intro h; subst h; rfl
          have HN1 : Hid (numTo s q (j + 1) = 16 * numTo s q j + digitH (s.data.toList.getD (q + j) 0)) := rfl
          generalize numTo s q j = M at *
          clear hb1 hb2
          have i2 : (q : Int) + (j : Int) < (s.size : Int) := by omega
          by_cases h97 : 97 ≤ s[q + j].toNat
          · have i3 : (97 : Int) ≤ (s[q + j].toNat : Int) := by omega
            have HX : Hid (numTo s q (j + 1) = 16 * M + (s[q + j].toNat - 97 + 10)) := by show _ = _; rw [HN1.out, HG.out, digitH, if_pos h97]
            go_wp2_with fail
            go_round
            case rel => exact ⟨j + 1, by omega, by go_num, by rw [HX.out]; go_num, fun h => by rw [HX.out]; have : M = 0 := HM0.out (by omega); omega, by rw [HX.out]; omega⟩
            case measure => simp [intOf]; omega
          · have i3 : (s[q + j].toNat : Int) ≤ 57 := by omega
            have HX : Hid (numTo s q (j + 1) = 16 * M + (s[q + j].toNat - 48)) := by show _ = _; rw [HN1.out, HG.out, digitH, if_neg h97]
            go_wp2_with fail
            go_round
            case rel => exact ⟨j + 1, by omega, by go_num, by rw [HX.out]; go_num, fun h => by rw [HX.out]; have : M = 0 := HM0.out (by omega); omega, by rw [HX.out]; omega⟩
            case measure => simp [intOf]; omega
        · obtain rfl : j = 2 := by omega
          have HE : Hid (hexTo s (k + 1) = H ++ [UInt8.ofNat (numTo s q 2)]) := by show _ = _; simp only [hexTo, HH.out, numTo, HQ.out, Nat.mul_zero, Nat.zero_add, Nat.add_zero]
          have hHl : H.length ≤ 1000 := by rw [← HH.out, hexTo_len]; omega
          generalize numTo s q 2 = N2 at *
          have HB : Hid (SliceIs (wr.alloc (.cells #[.int .u8 ((N2 : Nat) : Int)] 5)) (.slice (some ⟨wr.heap.size, 0, none⟩) 1 1) [UInt8.ofNat N2]) := by
            have e : ((N2 : Nat) : Int) = ((UInt8.ofNat N2).toNat : Int) := by simp; omega
            rw [e]
            exact (Bytes.new wr 5 [UInt8.ofNat N2]).slice 1 (by simp)
          go_wp2_with (at_builtin; refine wpList_append_bytes rfl (.tmp 41) (.tmp 44) rfl w.heap.size (.slice oa H.length ocap) H rfl (hown.alloc _) (some ⟨wr.heap.size, 0, none⟩) 1 1 _ rfl HB.out (by omega) (by simp; omega) ?_; intro v1 w1 ho1 hg1)
          have hgw := grown_own (grown_alloc hg _) (hown.alloc _) hg1
          go_roundw
          case rel =>
            have hq := HQ.out
            have e4 : (q : Int) + 2 = ((2 * (k + 1) : Nat) : Int) := by omega
            first
              | exact ⟨k + 1, by omega, by rw [e4], by rw [HE.out]; exact ho1, hgw⟩
              | ((repeat apply Exists.intro); exact ⟨⟨k + 1, by omega, by rw [e4], by rw [HE.out]; exact ho1, hgw⟩, rfl⟩)
          case measure => have hq := HQ.out; simp [intOf]; omega
    · obtain rfl : k = n := by omega
      have i1 : ¬ ((2 * k : Nat) : Int) + 1 < (s.size : Int) := by have := HN.out; omega
      go_wp2
      go_ret
      exact ⟨_, rfl, hown, hg⟩
end Go.Proofs.YtpkegibjoieemaaDoor
