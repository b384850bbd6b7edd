/-
  The walks of P2's kept laws: PartOrder, PartFirst, BitsTell.
-/
import Derived.Test.YtdpmfekkieblmaaBitC
import Derived.Test.YtdpmfekkieblmaaPartC
import Derived.Test.YtdpmfekkieblmaaKey
import Derived.Test.YtdpmfekkieblmaaKSame
namespace Go.Proofs.Ytdpmfekkieblmaa
open Go.RowKit

set_option maxRecDepth 100000 in
set_option maxHeartbeats 1000000 in
theorem partOrder_walk (hB : BitOK) (hP : PartOK) (w : World) (v u : Value) (k l : List UInt8) (hv : SliceIs w v k) (hu : SliceIs w u l) (hl : k.length ≤ maxLen) (hl2 : l.length ≤ maxLen) :
    Calls Try.prog 8 #[v, u] w fun e w' => e = .returned (.bool true) ∧ w.grownBy w' none := by
  have hk := key_any w v k hv hl
  go_enter Try.func8, Try.ntmps8
  go_wp2_with fail
  refine hk.mono ?_
  rintro e w1 ⟨v1, rfl, ho1, hg1⟩
  clear hk
  go_wp2_with fail
  refine (key_any w1 u l (hu.grown hg1) hl2).mono ?_
  rintro e w2 ⟨v2, rfl, ho2, hg2⟩
  have ha := keyF_len k
  have hb := keyF_len l
  have g2 := grown_trans hg1 hg2
  replace ho1 := ho1.grown hg2
  clear hg1 hg2 hv hu
  generalize keyF k = a at *
  generalize keyF l = b at *
  go_wp2_with fail
  refine (hP.of w2 v1 v2 a b ho1 ho2 ha hb).mono ?_
  rintro e w3 ⟨rfl, hg3⟩
  have g3 := grown_trans g2 hg3
  replace ho1 := ho1.grown hg3
  replace ho2 := ho2.grown hg3
  clear hg3 g2
  rcases partK_spec a b with ⟨he, hs⟩ | ⟨m, he, hm, hs, hd⟩
  · obtain rfl := bits_tell a b ha.2 hb.2 hs
    rw [he]
    clear hs
    go_wp2_with fail
    refine (same_any w3 v1 v2 a a ho1 ho2).mono ?_
    rintro e w4 ⟨rfl, rfl⟩
    rw [decide_eq_true (rfl : a = a)]
    go_wp2
    go_ret
    exact ⟨rfl, g3⟩
  · rw [he]
    have HO : Hid (kbit b m = Op.bytesLess a b) := part_order a b m hs hd
    clear hs hd
    have t0 : ¬ (m : Int) < 0 := by omega
    go_wp2_with fail
    refine (hB.of w3 v2 b m ho2 hb hm).mono ?_
    rintro e w4 ⟨rfl, hg4⟩
    have g4 := grown_trans g3 hg4
    have c1 := conv_bytes w4 v1 a (ho1.grown hg4)
    have c2 := conv_bytes w4 v2 b (ho2.grown hg4)
    rw [HO.out]
    generalize hz : Op.bytesLess a b = z
    go_wp2
    go_ret
    refine ⟨?_, g4⟩
    show Ending.returned (.bool (z == Op.bytesLess (textOf a).toList (textOf b).toList)) = _
    rw [textOf_list, textOf_list, hz]
    simp
set_option maxRecDepth 100000 in
set_option maxHeartbeats 1000000 in
theorem partFirst_walk (hB : BitOK) (hP : PartOK) (w : World) (v u : Value) (k l : List UInt8) (hv : SliceIs w v k) (hu : SliceIs w u l) (hl : k.length ≤ maxLen) (hl2 : l.length ≤ maxLen) :
    Calls Try.prog 7 #[v, u] w fun e w' => e = .returned (.bool true) ∧ w.grownBy w' none := by
  have hk := key_any w v k hv hl
  go_enter Try.func7, Try.ntmps7
  go_wp2_with fail
  refine hk.mono ?_
  rintro e w1 ⟨v1, rfl, ho1, hg1⟩
  clear hk
  go_wp2_with fail
  refine (key_any w1 u l (hu.grown hg1) hl2).mono ?_
  rintro e w2 ⟨v2, rfl, ho2, hg2⟩
  have ha := keyF_len k
  have hb := keyF_len l
  have g2 := grown_trans hg1 hg2
  replace ho1 := ho1.grown hg2
  clear hg1 hg2 hv hu
  generalize keyF k = a at *
  generalize keyF l = b at *
  go_wp2_with fail
  refine (hP.of w2 v1 v2 a b ho1 ho2 ha hb).mono ?_
  rintro e w3 ⟨rfl, hg3⟩
  have g3 := grown_trans g2 hg3
  replace ho1 := ho1.grown hg3
  replace ho2 := ho2.grown hg3
  clear hg3 g2
  go_wp2_with fail
  refine (hP.of w3 v2 v1 b a ho2 ho1 hb ha).mono ?_
  rintro e w4 ⟨rfl, hg4⟩
  have g4 := grown_trans g3 hg4
  replace ho1 := ho1.grown hg4
  replace ho2 := ho2.grown hg4
  clear hg4 g3
  rw [partK_comm b a]
  have hlast : partK a b < 0 ↔ a = b := partK_same a b ha.2 hb.2
  have hsame := same_any w4 v1 v2 a b ho1 ho2
  rcases partK_spec a b with ⟨he, hs⟩ | ⟨m, he, hm, hs, hd⟩
  · obtain rfl := bits_tell a b ha.2 hb.2 hs
    rw [he]
    clear hs hlast
    rw [decide_eq_true (rfl : a = a)] at hsame
    go_wp2_with fail
    refine hsame.mono ?_
    rintro e w5 ⟨rfl, rfl⟩
    clear hsame
    go_wp2_with fail
    go_loopw [11] (fun iv wr => iv = .int .i64 0 ∧ wr = w5) (fun _ _ => 0)
    case atStart => exact ⟨rfl, rfl⟩
    case round =>
      obtain ⟨rfl, rfl⟩ := hrel
      go_wp2
      go_ret
      exact ⟨rfl, g4⟩
  · rw [he] at hlast ⊢
    have hne : ¬ a = b := fun e => by have := hlast.2 e; omega
    rw [decide_eq_false hne] at hsame
    clear hlast hne
    have HS : Hid (∀ j, j < m → kbit a j = kbit b j) := hs
    have HD : Hid (kbit a m ≠ kbit b m) := hd
    clear hs hd
    have t0 : ¬ (m : Int) < 0 := by omega
    go_wp2_with fail
    refine hsame.mono ?_
    rintro e w5 ⟨rfl, rfl⟩
    clear hsame
    go_wp2_with fail
    go_loopw [11] (fun iv wr => ∃ i : Nat, i ≤ m ∧ iv = .int .i64 (i : Int) ∧ SliceIs wr v1 a ∧ SliceIs wr v2 b ∧ w.grownBy wr none) (fun iv _ => m - (intOf iv).toNat)
    case atStart => exact ⟨0, by omega, rfl, ho1, ho2, g4⟩
    case round =>
      clear ho1 ho2 g4
      obtain ⟨i, hi, rfl, ho1, ho2, g4⟩ := hrel
      by_cases hlt : i < m
      · have HE : Hid (kbit a i = kbit b i) := HS.out i hlt
        have t1 : (i : Int) < (m : Int) := by omega
        go_wp2_with fail
        refine (hB.of wr v1 a i ho1 ha (by omega)).mono ?_
        rintro e w6 ⟨rfl, hg6⟩
        replace ho1 := ho1.grown hg6
        replace ho2 := ho2.grown hg6
        replace g4 := grown_trans g4 hg6
        clear hg6
        go_wp2_with fail
        refine (hB.of w6 v2 b i ho2 hb (by omega)).mono ?_
        rintro e w7 ⟨rfl, hg7⟩
        replace ho1 := ho1.grown hg7
        replace ho2 := ho2.grown hg7
        replace g4 := grown_trans g4 hg7
        clear hg7
        rw [HE.out]
        generalize kbit b i = y
        go_wp2_with fail
        go_roundw
        case rel =>
          first
            | exact ⟨i + 1, by omega, by go_num, ho1, ho2, g4⟩
            | ((repeat apply Exists.intro); refine ⟨⟨i + 1, by omega, ?_, ho1, ho2, g4⟩, rfl⟩; go_num)
        case measure => simp [intOf]; omega
      · obtain rfl : i = m := by omega
        go_wp2_with fail
        refine (hB.of wr v1 a i ho1 ha hm).mono ?_
        rintro e w6 ⟨rfl, hg6⟩
        replace ho1 := ho1.grown hg6
        replace ho2 := ho2.grown hg6
        replace g4 := grown_trans g4 hg6
        clear hg6
        go_wp2_with fail
        refine (hB.of w6 v2 b i ho2 hb hm).mono ?_
        rintro e w7 ⟨rfl, hg7⟩
        replace g4 := grown_trans g4 hg7
        clear hg7 ho1 ho2
        have hd := HD.out
        clear HD HS
        generalize kbit a i = x at *
        generalize kbit b i = y at *
        have he2 : (!x == y) = true := by cases x <;> cases y <;> simp_all
        clear hd
        go_wp2
        go_ret
        exact ⟨rfl, g4⟩
theorem byte_half (c : UInt8) (j : Nat) (h1 : 1 ≤ j) (h8 : j < 9) : c.toNat / 2 ^ (9 - (j + 1)) = 2 * (c.toNat / 2 ^ (9 - j)) + (if c.toNat.testBit (8 - j) then 1 else 0) :=
  (by decide +kernel : ∀ (c : Fin 256) (j : Fin 9), 1 ≤ j.1 → c.1 / 2 ^ (9 - (j.1 + 1)) = 2 * (c.1 / 2 ^ (9 - j.1)) + (if c.1.testBit (8 - j.1) then 1 else 0)) ⟨c.toNat, c.toNat_lt⟩ ⟨j, h8⟩ h1
set_option maxRecDepth 100000 in
set_option maxHeartbeats 1000000 in
theorem bitsTell_walk (hB : BitOK) (w : World) (v : Value) (k : List UInt8) (hv : SliceIs w v k) (hl : k.length ≤ maxLen) :
    Calls Try.prog 6 #[v] w fun e w' => e = .returned (.bool true) ∧ w.grownBy w' none := by
  have hk := key_any w v k hv hl
  go_enter Try.func6, Try.ntmps6
  go_wp2_with fail
  refine hk.mono ?_
  rintro e w1 ⟨v1, rfl, ho1, hg1⟩
  clear hk
  have ha := keyF_len k
  clear hv
  generalize keyF k = a at *
  go_wp2_with fail
  have HO0 : Hid (SliceIs w1 v1 a) := ho1
  go_loopw [4, 5] (fun ov iv wr => ∃ m : Nat, m ≤ a.length ∧ iv = .int .i64 (m : Int) ∧ Own w1.heap.size wr ov (a.take m) ∧ SliceIs wr v1 a ∧ w1.grownBy wr none) (fun _ iv _ => a.length - (intOf iv).toNat)
  case atStart => exact ⟨0, by omega, rfl, own_nil _ _, ho1, grown_refl _ _⟩
  case round =>
    clear ho1
    obtain ⟨m, hm, rfl, hown, ho1, hg⟩ := hrel
    obtain ⟨oa, ocap, rfl⟩ := hown.shape
    by_cases hlt : m < a.length
    · have HK : Hid (kbit a (9 * m) = true) := by
        show _ = _
        rw [kbit_head, decide_eq_true hlt]
      have t1 : (m : Int) < 16 := by omega
      have e9 : Hid ((9 : Int) * (m : Int) = ((9 * m : Nat) : Int)) := by show _ = _; omega
      go_wp2_with fail
      rw [e9.out]
      refine (hB.of wr v1 a (9 * m) ho1 ha (by omega)).mono ?_
      rintro e w2 ⟨rfl, hg2⟩
      rw [HK.out]
      replace hown := hown.grownNone hg2
      replace ho1 := ho1.grown hg2
      replace hg := grown_trans hg hg2
      clear hg2
      have HKB : Hid (∀ j, 1 ≤ j → j < 9 → kbit a (9 * m + j) = (a.getD m 0).toNat.testBit (8 - j)) := fun j h1 h2 => kbit_byte a m j hlt h1 (by omega)
      have HTK : Hid (a.take (m + 1) = a.take m ++ [a.getD m 0]) := by
        show _ = _
        rw [List.take_succ_eq_append_getElem hlt]
        simp [hlt]
      have hol : (a.take m).length ≤ 16 := by rw [List.length_take]; omega
      generalize a.take m = O at *
      generalize a.getD m 0 = c at *
      have hcb : c.toNat < 256 := c.toNat_lt
      clear HK
      go_wp2_with fail
      go_loopw [8, 9] (fun nv jv wr => ∃ j : Nat, 1 ≤ j ∧ j ≤ 9 ∧ jv = .int .i64 (j : Int) ∧ nv = .int .i64 ((c.toNat / 2 ^ (9 - j) : Nat) : Int) ∧ Own w1.heap.size wr (.slice oa O.length ocap) O ∧ SliceIs wr v1 a ∧ w1.grownBy wr none) (fun _ jv _ => 9 - (intOf jv).toNat)
      case atStart =>
        refine ⟨1, by omega, by omega, rfl, ?_, hown, ho1, hg⟩
        have e : c.toNat / 2 ^ (9 - 1) = 0 := Nat.div_eq_of_lt (by simpa using hcb)
        rw [e]
        rfl
      case round =>
        clear hown ho1 hg
        obtain ⟨j, hj1, hj9, rfl, rfl, hown, ho1, hg⟩ := hrel
        by_cases hlj : j < 9
        · have HBJ : Hid (kbit a (9 * m + j) = c.toNat.testBit (8 - j)) := HKB.out j hj1 hlj
          have HH : Hid (c.toNat / 2 ^ (9 - (j + 1)) = 2 * (c.toNat / 2 ^ (9 - j)) + (if c.toNat.testBit (8 - j) then 1 else 0)) := byte_half c j hj1 hlj
          have t2 : (j : Int) < 9 := by omega
          have hnb : c.toNat / 2 ^ (9 - j) < 256 := Nat.lt_of_le_of_lt (Nat.div_le_self _ _) hcb
          have e9j : Hid ((9 : Int) * (m : Int) + (j : Int) = ((9 * m + j : Nat) : Int)) := by show _ = _; omega
          go_wp2_with fail
          rw [e9j.out]
          refine (hB.of wr v1 a (9 * m + j) ho1 ha (by omega)).mono ?_
          rintro e w3 ⟨rfl, hg3⟩
          rw [HBJ.out]
          replace hown := hown.grownNone hg3
          replace ho1 := ho1.grown hg3
          replace hg := grown_trans hg hg3
          clear hg3
          generalize c.toNat / 2 ^ (9 - j) = n at *
          cases hb : c.toNat.testBit (8 - j) with
          | true =>
            rw [hb] at HH
            go_wp2_with fail
            go_roundw
            case rel =>
              have e2 : (n : Int) * 2 + 1 = ((c.toNat / 2 ^ (9 - (j + 1)) : Nat) : Int) := by rw [HH.out]; simp; omega
              first
                | exact ⟨j + 1, by omega, by omega, by go_num, by rw [e2], hown, ho1, hg⟩
                | ((repeat apply Exists.intro); refine ⟨⟨j + 1, by omega, by omega, ?_, by rw [e2], hown, ho1, hg⟩, rfl⟩; go_num)
            case measure => simp [intOf]; omega
          | false =>
            rw [hb] at HH
            go_wp2_with fail
            go_roundw
            case rel =>
              have e2 : (n : Int) * 2 = ((c.toNat / 2 ^ (9 - (j + 1)) : Nat) : Int) := by rw [HH.out]; simp; omega
              first
                | exact ⟨j + 1, by omega, by omega, by go_num, by rw [e2], hown, ho1, hg⟩
                | ((repeat apply Exists.intro); refine ⟨⟨j + 1, by omega, by omega, ?_, by rw [e2], hown, ho1, hg⟩, rfl⟩; go_num)
            case measure => simp [intOf]; omega
        · obtain rfl : j = 9 := by omega
          have e1 : c.toNat / 2 ^ (9 - 9) = c.toNat := by simp
          rw [e1]
          have HB1 : Hid (SliceIs (wr.alloc (.cells #[.int .u8 (c.toNat : Int)] 5)) (.slice (some ⟨wr.heap.size, 0, none⟩) 1 1) [c]) := one_slice wr c 5
          have hsz := hg.size
          go_wp2_with (at_builtin; refine wpList_append_bytes rfl (.tmp 55) (.tmp 58) rfl w1.heap.size (.slice oa O.length ocap) O rfl (hown.alloc _) (some ⟨wr.heap.size, 0, none⟩) 1 1 _ rfl HB1.out (by omega) (by simp; omega) ?_; intro v4 w4 ho4 hg4)
          have hgw := grown_own (grown_alloc hg _) (hown.alloc _) hg4
          have ho1' : SliceIs w4 v1 a := HO0.out.grown hgw
          go_roundw
          case rel =>
            first
              | exact ⟨m + 1, by omega, by go_num, by rw [HTK.out]; exact ho4, ho1', hgw⟩
              | ((repeat apply Exists.intro); refine ⟨⟨m + 1, by omega, ?_, by rw [HTK.out]; exact ho4, ho1', hgw⟩, rfl⟩; go_num)
          case measure => simp [intOf]; omega
    · obtain rfl : m = a.length := by omega
      clear hlt
      by_cases h16 : a.length < 16
      · have t1 : (a.length : Int) < 16 := by omega
        have e9 : Hid ((9 : Int) * (a.length : Int) = ((9 * a.length : Nat) : Int)) := by show _ = _; omega
        go_wp2_with fail
        rw [e9.out]
        refine (hB.of wr v1 a (9 * a.length) ho1 ha (by omega)).mono ?_
        rintro e w2 ⟨rfl, hg2⟩
        rw [kbit_head, decide_eq_false (by omega)]
        replace hown := hown.grownNone hg2
        replace ho1 := ho1.grown hg2
        replace hg := grown_trans hg hg2
        clear hg2
        go_wp2_with fail
        refine (hB.of w2 v1 a 144 ho1 ha (by omega)).mono ?_
        rintro e w3 ⟨rfl, hg3⟩
        rw [kbit_past a 144 (by omega)]
        go_wp2_with fail
        refine (hB w3 v1 a 145 (ho1.grown hg3)).mono ?_
        rintro e w4 ⟨rfl, hg4⟩
        rw [bitF, if_pos ha, if_neg (by omega)]
        go_wp2_with fail
        refine (hB w4 (.slice none 0 0) [] 0 (sliceIs_nil w4)).mono ?_
        rintro e w5 ⟨rfl, hg5⟩
        rw [bitF, if_neg (by simp)]
        have g35 := grown_trans (grown_trans hg3 hg4) hg5
        have s1 := ho1.grown g35
        have s2 := (hown.grownNone g35).slice
        rw [List.take_length] at s2
        have gg := grown_trans hg g35
        clear ho1 hown hg hg3 hg4 hg5 g35
        go_wp2_with fail
        refine (same_any w5 _ _ a a s2 s1).mono ?_
        rintro e w6 ⟨rfl, rfl⟩
        rw [decide_eq_true (rfl : a = a)]
        go_wp2
        go_ret
        exact ⟨rfl, grown_trans hg1 gg⟩
      · have t1 : ¬ (a.length : Int) < 16 := by omega
        go_wp2_with fail
        refine (hB.of wr v1 a 144 ho1 ha (by omega)).mono ?_
        rintro e w3 ⟨rfl, hg3⟩
        rw [kbit_past a 144 (by omega)]
        go_wp2_with fail
        refine (hB w3 v1 a 145 (ho1.grown hg3)).mono ?_
        rintro e w4 ⟨rfl, hg4⟩
        rw [bitF, if_pos ha, if_neg (by omega)]
        go_wp2_with fail
        refine (hB w4 (.slice none 0 0) [] 0 (sliceIs_nil w4)).mono ?_
        rintro e w5 ⟨rfl, hg5⟩
        rw [bitF, if_neg (by simp)]
        have g35 := grown_trans (grown_trans hg3 hg4) hg5
        have s1 := ho1.grown g35
        have s2 := (hown.grownNone g35).slice
        rw [List.take_length] at s2
        have gg := grown_trans hg g35
        clear ho1 hown hg hg3 hg4 hg5 g35
        go_wp2_with fail
        refine (same_any w5 _ _ a a s2 s1).mono ?_
        rintro e w6 ⟨rfl, rfl⟩
        rw [decide_eq_true (rfl : a = a)]
        go_wp2
        go_ret
        exact ⟨rfl, grown_trans hg1 gg⟩
end Go.Proofs.Ytdpmfekkieblmaa
