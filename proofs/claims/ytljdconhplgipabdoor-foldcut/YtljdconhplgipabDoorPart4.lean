/-
  Texts of this proof, joined: CheckP, Group, BitP, Len16, PartP.
-/
import Derived.Test.YtljdconhplgipabDoorPart2
import Derived.Test.YtljdconhplgipabDoorBase
import Derived.Test.YtljdconhplgipabDoorKeys
import Derived.Lib.Slices
import Derived.Lib.Small
import Derived.Lib.Walk
import Derived.Lib.BitFns
import Derived.Test.YtljdconhplgipabDoorPartC
/-
  path.Check, as it landed, keeps P2.1.
-/
namespace Go.Proofs.YtljdconhplgipabDoor
open Go.RowKit
theorem check_ok : CheckOK := by
  intro w a n cap
  by_cases h1 : 1 ≤ n
  · by_cases h2 : n ≤ 16
    · rw [keyFaultF, if_pos ⟨h1, h2⟩]
      have t1 : ¬ (n : Int) < 1 := by omega
      have t2 : ¬ (n : Int) > 16 := by omega
      go_enter Tryd.func68, Tryd.ntmps68
      go_wp2
      go_ret
      exact ⟨rfl, grown_refl _ _⟩
    · rw [keyFaultF, if_neg (by omega)]
      have t1 : ¬ (n : Int) < 1 := by omega
      have t2 : (n : Int) > 16 := by omega
      go_enter Tryd.func68, Tryd.ntmps68
      go_wp2
      go_ret
      exact ⟨rfl, grown_refl _ _⟩
  · rw [keyFaultF, if_neg (by omega)]
    have t1 : (n : Int) < 1 := by omega
    go_enter Tryd.func68, Tryd.ntmps68
    go_wp2
    go_ret
    exact ⟨rfl, grown_refl _ _⟩
end Go.Proofs.YtljdconhplgipabDoor

/-
  path.group, as it landed: the nine bits of a byte, as a number.
-/
namespace Go.Proofs.YtljdconhplgipabDoor
open Go.RowKit
/-- The nine bits at a place. -/
def groupN (k : List UInt8) (p : Nat) : Nat := if p < k.length then 256 ||| (k.getD p 0).toNat else 0
theorem or_256 : ∀ c : Fin 256, 256 ||| c.val = 256 + c.val := by decide +kernel
theorem groupN_lt (k : List UInt8) (p : Nat) : groupN k p < 512 := by
  unfold groupN
  by_cases h : p < k.length
  · rw [if_pos h]
    have := or_256 ⟨(k.getD p 0).toNat, (k.getD p 0).toNat_lt⟩
    have := (k.getD p 0).toNat_lt
    simp only at *
    omega
  · rw [if_neg h]; decide
theorem kbit_group (k : List UInt8) (i : Nat) : kbit k i = (groupN k (i / 9)).testBit (8 - i % 9) := by
  unfold kbit groupN
  by_cases h : i / 9 < k.length
  · rw [if_pos h, if_pos h]
    by_cases h0 : i % 9 = 0
    · rw [if_pos h0, h0, Nat.testBit_or]
      simp
      left; decide
    · rw [if_neg h0, Nat.testBit_or, show Nat.testBit 256 (8 - i % 9) = false from ?_, Bool.false_or]
      have hj : 8 - i % 9 < 8 := by omega
      generalize 8 - i % 9 = j at hj
      revert hj; revert j; decide
  · rw [if_neg h, if_neg h]; simp
theorem wrap_u16 (x : Nat) (h : x < 65536) : IntKind.u16.wrap (x : Int) = (x : Int) := by
  rw [IntKind.wrap_u16]; omega
theorem or_u16 (x y : Nat) (hx : x < 65536) (hy : y < 65536) : bits .or .u16 (x : Int) (y : Int) = ((x ||| y : Nat) : Int) := by
  show IntKind.u16.wrap ((BitVec.ofInt 16 (x : Int) ||| BitVec.ofInt 16 (y : Int)).toNat : Int) = _
  rw [BitVec.ofInt_natCast, BitVec.ofInt_natCast, BitVec.toNat_or, BitVec.toNat_ofNat, BitVec.toNat_ofNat, Nat.mod_eq_of_lt (by omega), Nat.mod_eq_of_lt (by omega), wrap_u16]
  exact Nat.or_lt_two_pow (n := 16) hx hy
theorem xor_u16 (x y : Nat) (hx : x < 65536) (hy : y < 65536) : bits .xor .u16 (x : Int) (y : Int) = ((x ^^^ y : Nat) : Int) := by
  show IntKind.u16.wrap ((BitVec.ofInt 16 (x : Int) ^^^ BitVec.ofInt 16 (y : Int)).toNat : Int) = _
  rw [BitVec.ofInt_natCast, BitVec.ofInt_natCast, BitVec.toNat_xor, BitVec.toNat_ofNat, BitVec.toNat_ofNat, Nat.mod_eq_of_lt (by omega), Nat.mod_eq_of_lt (by omega), wrap_u16]
  exact Nat.xor_lt_two_pow (n := 16) hx hy
theorem and1_u16 (x : Nat) (hx : x < 65536) : bits .and .u16 (x : Int) 1 = ((x % 2 : Nat) : Int) := by
  show IntKind.u16.wrap ((BitVec.ofInt 16 (x : Int) &&& BitVec.ofInt 16 ((1 : Nat) : Int)).toNat : Int) = _
  rw [BitVec.ofInt_natCast, BitVec.ofInt_natCast, BitVec.toNat_and, BitVec.toNat_ofNat, BitVec.toNat_ofNat, Nat.mod_eq_of_lt (by omega), Nat.mod_eq_of_lt (by omega), Nat.and_one_is_mod, wrap_u16]
  omega
theorem group_any (w : World) (v : Value) (bs : List UInt8) (p : Nat) (hv : SliceIs w v bs) :
    Calls Tryd.prog 90 #[v, .int .i64 (p : Int)] w fun e w' => e = .returned (.int .u16 (groupN bs p)) ∧ w.grownBy w' none := by
  obtain ⟨a, cap, rfl, hc, hrest⟩ := hv
  by_cases hp : p < bs.length
  · rw [groupN, if_pos hp]
    rcases hrest with ⟨h0, _⟩ | ⟨b, o, rfl, hcell⟩
    · rw [h0] at hp; cases hp
    have t1 : ¬ (p : Int) ≥ (bs.length : Int) := by omega
    have c0 := hcell p hp
    go_enter Tryd.func90, Tryd.ntmps90
    go_wp2
    go_ret
    refine ⟨congrArg Ending.returned (congrArg (Value.int IntKind.u16) ?_), grown_refl _ _⟩
    have hb := (bs[p]).toNat_lt
    generalize (bs[p]).toNat = c at hb ⊢
    rw [wrap_u16 c (by omega), show (256 : Int) = ((256 : Nat) : Int) from rfl, or_u16 256 c (by omega) (by omega)]
  · rw [groupN, if_neg hp]
    have t1 : (p : Int) ≥ (bs.length : Int) := by omega
    go_enter Tryd.func90, Tryd.ntmps90
    go_wp2
    go_ret
    exact ⟨rfl, grown_refl _ _⟩
end Go.Proofs.YtljdconhplgipabDoor

/-
  path.Bit, as it landed, keeps P2.2.
-/
namespace Go.Proofs.YtljdconhplgipabDoor
open Go.RowKit
set_option maxRecDepth 100000 in
set_option maxHeartbeats 1000000 in
theorem bit_ok : BitOK := by
  intro w v bs i hv
  obtain ⟨a, cap, rfl, hc, hrest⟩ := hv
  have hv : SliceIs w (.slice a bs.length cap) bs := ⟨a, cap, rfl, hc, hrest⟩
  clear hrest
  by_cases hk : 1 ≤ bs.length ∧ bs.length ≤ 16
  · by_cases hi : 0 ≤ i ∧ i ≤ 144
    · rw [bitF, if_pos hk, if_pos hi]
      obtain ⟨n, rfl⟩ : ∃ n : Nat, i = (n : Int) := ⟨i.toNat, by omega⟩
      have t1 : ¬ (n : Int) < 0 := by omega
      have t2 : ¬ (n : Int) ≥ 145 := by omega
      go_enter Tryd.func72, Tryd.ntmps72
      go_wp2_with fail
      refine (check_ok _ _ _ _).mono ?_
      rintro e w1 ⟨rfl, hg1⟩
      rw [keyFaultF, if_pos hk]
      go_wp2_with fail
      refine (group_any _ _ _ (n / 9) (hv.grown hg1)).mono ?_
      rintro e w2 ⟨rfl, hg2⟩
      have hgn := groupN_lt bs (n / 9)
      have HB : Hid (kbit bs n = (groupN bs (n / 9)).testBit (8 - n % 9)) := kbit_group bs n
      generalize groupN bs (n / 9) = g at hgn HB ⊢
      have q1 : 0 ≤ (8 : Int) - (n : Int) % 9 := by omega
      go_wp2
      go_ret2
      refine ⟨?_, grown_trans hg1 hg2⟩
      have he : (g : Int) / 2 ^ (8 - n % 9) = ((g / 2 ^ (8 - n % 9) : Nat) : Int) := by simp
      have hlt : g / 2 ^ (8 - n % 9) < 65536 := Nat.lt_of_le_of_lt (Nat.div_le_self _ _) (by omega)
      rw [he, and1_u16 _ hlt, show kbit bs ((n : Int)).toNat = kbit bs n from rfl, HB.out, Nat.testBit_eq_decide_div_mod_eq]
      congr 4
      generalize g / 2 ^ (8 - n % 9) % 2 = x
      by_cases hx : x = 1
      · subst hx; rfl
      · have : ¬ (x : Int) = 1 := by omega
        simp [hx, this]
    · rw [bitF, if_pos hk, if_neg hi]
      go_enter Tryd.func72, Tryd.ntmps72
      go_wp2_with fail
      refine (check_ok _ _ _ _).mono ?_
      rintro e w1 ⟨rfl, hg1⟩
      rw [keyFaultF, if_pos hk]
      by_cases h0 : i < 0
      · go_wp2
        go_ret2
        exact ⟨rfl, hg1⟩
      · have h1 : i ≥ 145 := by omega
        go_wp2
        go_ret2
        exact ⟨rfl, hg1⟩
  · rw [bitF, if_neg hk]
    go_enter Tryd.func72, Tryd.ntmps72
    go_wp2_with fail
    refine (check_ok _ _ _ _).mono ?_
    rintro e w1 ⟨rfl, hg1⟩
    rw [keyFaultF, if_neg hk]
    go_wp2
    go_ret2
    exact ⟨rfl, hg1⟩
end Go.Proofs.YtljdconhplgipabDoor

/-
  math/bits.Len16: the library's own text, walked.
-/
namespace Go.Proofs.YtljdconhplgipabDoor
open Go.RowKit
theorem tab_at (i : Int) (h0 : 0 ≤ i) (h1 : i ≤ 255) (h : i.toNat < Lib.len8tab.size) : ((Lib.len8tab[i.toNat]'h).toNat : Int) = (Lib.bitLen i.toNat : Int) := by
  rw [← Lib.len8_of i h0 h1]
  simp only [Lib.len8, ByteArray.getElem?_lt' _ _ h, Option.getD_some]
set_option maxHeartbeats 4000000 in
set_option maxRecDepth 100000 in
theorem len16_any (x : Int) (w : World) (h0 : 0 ≤ x) (h1 : x ≤ 65535) :
    Calls Tryd.prog 91 #[.int .u16 x] w fun e w' => e = .returned (.int .i64 (Lib.bitLen x.toNat)) ∧ w' = w := by
  have hs := Lib.len8tab_size
  by_cases hx : 256 ≤ x
  · have q : 0 ≤ x / 256 ∧ x / 256 < (Lib.len8tab.size : Int) := by omega
    have l := Lib.bitLen_le8' (x / 256) (by omega) (by omega)
    have s := Lib.bitLen_shift8 x.toNat (by omega) (by omega)
    have T := tab_at (x / 256) q.1 (by omega) (by omega)
    go_enter Tryd.func91, Tryd.ntmps91
    go_wp2
    go_ret
    refine ⟨congrArg Ending.returned (congrArg (Value.int IntKind.i64) ?_), rfl⟩
    have e : (x / 256).toNat = x.toNat / 256 := by omega
    rw [e]
    omega
  · have q : 0 ≤ x ∧ x < (Lib.len8tab.size : Int) := by omega
    have l := Lib.bitLen_le8' x (by omega) (by omega)
    have T := tab_at x q.1 (by omega) (by omega)
    go_enter Tryd.func91, Tryd.ntmps91
    go_wp2
    go_ret
    exact ⟨rfl, rfl⟩
theorem bitLen_512 : ∀ n : Fin 512, n.val ≠ 0 → 1 ≤ Lib.bitLen n.val ∧ Lib.bitLen n.val ≤ 9 ∧ n.val.testBit (Lib.bitLen n.val - 1) = true ∧ ∀ j : Fin 9, Lib.bitLen n.val ≤ j.val → n.val.testBit j.val = false := by decide +kernel
end Go.Proofs.YtljdconhplgipabDoor

/-
  path.Part, as it landed, keeps P2.3.
-/
namespace Go.Proofs.YtljdconhplgipabDoor
open Go.RowKit
/-- Where two groups differ first. -/
theorem part_group (a b : List UInt8) (p : Nat) (hp : p < 16) (h : ∀ q, q < p → groupN a q = groupN b q) (hd : groupN a p ^^^ groupN b p ≠ 0) :
    partK a b = ((9 * p + 9 - Lib.bitLen (groupN a p ^^^ groupN b p) : Nat) : Int) ∧ 1 ≤ Lib.bitLen (groupN a p ^^^ groupN b p) ∧ Lib.bitLen (groupN a p ^^^ groupN b p) ≤ 9 := by
  have hlt : groupN a p ^^^ groupN b p < 512 := Nat.xor_lt_two_pow (n := 9) (groupN_lt a p) (groupN_lt b p)
  obtain ⟨h1, h2, h3, h4⟩ := bitLen_512 ⟨_, hlt⟩ hd
  simp only at h1 h2 h3 h4
  generalize hL : Lib.bitLen (groupN a p ^^^ groupN b p) = L at h1 h2 h3 h4
  refine ⟨partK_of a b _ (by omega) (fun j hj => ?_) ?_, h1, h2⟩
  · rw [kbit_group, kbit_group]
    by_cases hjp : j / 9 < p
    · rw [h _ hjp]
    · have e : j / 9 = p := by omega
      have := h4 ⟨8 - j % 9, by omega⟩ (by simp only; omega)
      simp only [Nat.testBit_xor] at this
      rw [e]
      revert this
      cases (groupN a p).testBit (8 - j % 9) <;> cases (groupN b p).testBit (8 - j % 9) <;> simp
  · rw [kbit_group, kbit_group, show (9 * p + 9 - L) / 9 = p by omega, show 8 - (9 * p + 9 - L) % 9 = L - 1 by omega]
    rw [Nat.testBit_xor] at h3
    intro e
    rw [e] at h3
    simp at h3
theorem part_none (a b : List UInt8) (h : ∀ q, q < max a.length b.length → groupN a q = groupN b q) : partK a b = -1 := by
  refine partK_none a b fun j _ => ?_
  rw [kbit_group, kbit_group]
  by_cases hj : j / 9 < max a.length b.length
  · rw [h _ hj]
  · rw [groupN, if_neg (by omega), groupN, if_neg (by omega)]
theorem xor_ne (x y : Nat) (h : x ^^^ y = 0) : x = y := by
  apply Nat.eq_of_testBit_eq
  intro i
  have := congrArg (·.testBit i) h
  simp only [Nat.testBit_xor, Nat.zero_testBit] at this
  revert this
  cases x.testBit i <;> cases y.testBit i <;> simp
set_option maxRecDepth 100000 in
set_option maxHeartbeats 1000000 in
theorem part_ok : PartOK := by
  intro w v u a b hv hu
  obtain ⟨va, vcap, rfl, hvc, hvr⟩ := hv
  have hv : SliceIs w (.slice va a.length vcap) a := ⟨va, vcap, rfl, hvc, hvr⟩
  obtain ⟨ua, ucap, rfl, huc, hur⟩ := hu
  have hu : SliceIs w (.slice ua b.length ucap) b := ⟨ua, ucap, rfl, huc, hur⟩
  clear hvr hur
  by_cases ha : 1 ≤ a.length ∧ a.length ≤ 16
  · by_cases hb : 1 ≤ b.length ∧ b.length ≤ 16
    · rw [partF, if_pos ha, if_pos hb]
      go_enter Tryd.func70, Tryd.ntmps70
      go_wp2_with fail
      refine (check_ok _ _ _ _).mono ?_
      rintro e w1 ⟨rfl, hg1⟩
      rw [keyFaultF, if_pos ha]
      go_wp2_with fail
      refine (check_ok _ _ _ _).mono ?_
      rintro e w2 ⟨rfl, hg2⟩
      rw [keyFaultF, if_pos hb]
      have hg := grown_trans hg1 hg2
      have hv2 := hv.grown hg
      have hu2 := hu.grown hg
      obtain ⟨M, hM⟩ : ∃ M : Nat, M = max a.length b.length := ⟨_, rfl⟩
      have hM16 : M ≤ 16 := by omega
      have HMi : Hid (max (a.length : Int) (b.length : Int) = (M : Int)) := by show max (a.length : Int) (b.length : Int) = (M : Int); omega
      have HM : Hid (M = max a.length b.length) := hM
      clear hv hu hg1 hg2 hM
      go_wp2_with fail
      rw [HMi.out]
      go_loopw [21] (fun iv wr => ∃ m : Nat, m ≤ M ∧ iv = .int .i64 (m : Int) ∧ w2.grownBy wr none ∧ ∀ q, q < m → groupN a q = groupN b q) (fun iv _ => M - (intOf iv).toNat)
      case atStart => exact ⟨0, by omega, rfl, grown_refl _ _, fun j hj => by omega⟩
      case round =>
        obtain ⟨m, hm, rfl, hgr, hsame⟩ := hrel
        have HSame : Hid (∀ j, j < m → groupN a j = groupN b j) := hsame
        have hgw := grown_trans hg hgr
        have hvr := hv2.grown hgr
        have hur := hu2.grown hgr
        clear hsame
        by_cases hlt : m < M
        · have t1 : (m : Int) < (M : Int) := by omega
          go_wp2_with fail
          refine (group_any _ _ _ m hvr).mono ?_
          rintro e w3 ⟨rfl, hg3⟩
          go_wp2_with fail
          refine (group_any _ _ _ m (hur.grown hg3)).mono ?_
          rintro e w4 ⟨rfl, hg4⟩
          have hx := xor_u16 (groupN a m) (groupN b m) (Nat.lt_trans (groupN_lt a m) (by decide)) (Nat.lt_trans (groupN_lt b m) (by decide))
          have hxl : groupN a m ^^^ groupN b m < 512 := Nat.xor_lt_two_pow (n := 9) (groupN_lt a m) (groupN_lt b m)
          by_cases h0 : groupN a m ^^^ groupN b m = 0
          · have HE : Hid (groupN a m = groupN b m) := xor_ne _ _ h0
            rw [h0] at hx
            go_wp2_with fail
            go_roundw
            case rel =>
              have hs : ∀ j, j < m + 1 → groupN a j = groupN b j := fun j hj => by
                by_cases hjm : j = m
                · subst hjm; exact HE.out
                · exact HSame.out j (by omega)
              first
                | exact ⟨m + 1, by omega, by go_num, grown_trans hgr (grown_trans hg3 hg4), hs⟩
                | ((repeat apply Exists.intro); refine ⟨⟨m + 1, by omega, ?_, grown_trans hgr (grown_trans hg3 hg4), hs⟩, rfl⟩; go_num)
            case measure => simp [intOf]; omega
          · obtain ⟨hP, hL1, hL2⟩ := part_group a b m (by omega) HSame.out h0
            have HP : Hid (partK a b = _) := hP
            clear hP
            generalize groupN a m ^^^ groupN b m = x at *
            have hx0 : ((x : Int) != 0) = true := by simp; omega
            go_wp2_with fail
            refine (len16_any (x : Int) _ (by omega) (by omega)).mono ?_
            rintro e w5 ⟨rfl, rfl⟩
            rw [show ((x : Int)).toNat = x from rfl]
            generalize Lib.bitLen x = L at *
            go_wp2
            go_ret2
            refine ⟨?_, grown_trans hgw (grown_trans hg3 hg4)⟩
            rw [HP.out, show ((9 * m + 9 - L : Nat) : Int) = (m : Int) * 9 + 9 - (L : Int) by omega]
            rfl
        · obtain rfl : m = M := by omega
          have HP : Hid (partK a b = -1) := part_none a b (by rw [← HM.out]; exact HSame.out)
          go_wp2
          go_ret2
          exact ⟨by rw [HP.out]; rfl, hgw⟩
    · rw [partF, if_pos ha, if_neg hb]
      go_enter Tryd.func70, Tryd.ntmps70
      go_wp2_with fail
      refine (check_ok _ _ _ _).mono ?_
      rintro e w1 ⟨rfl, hg1⟩
      rw [keyFaultF, if_pos ha]
      go_wp2_with fail
      refine (check_ok _ _ _ _).mono ?_
      rintro e w2 ⟨rfl, hg2⟩
      rw [keyFaultF, if_neg hb]
      go_wp2
      go_ret2
      exact ⟨rfl, grown_trans hg1 hg2⟩
  · rw [partF, if_neg ha]
    go_enter Tryd.func70, Tryd.ntmps70
    go_wp2_with fail
    refine (check_ok _ _ _ _).mono ?_
    rintro e w1 ⟨rfl, hg1⟩
    rw [keyFaultF, if_neg ha]
    go_wp2
    go_ret2
    exact ⟨rfl, hg1⟩
end Go.Proofs.YtljdconhplgipabDoor
