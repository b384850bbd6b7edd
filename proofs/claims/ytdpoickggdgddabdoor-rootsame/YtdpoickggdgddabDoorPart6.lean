/-
  Texts of this proof, joined: BitP, PartC, Len16, PartP, TBitP, TForkP, Own, Parts, RootF, TCRoot, TRootP, KPure, RootSameF, KFind.
-/
import Derived.Test.YtdpoickggdgddabDoorPart4
import Derived.Test.YtdpoickggdgddabDoorPart5
import Derived.Test.YtdpoickggdgddabDoorPart1
import Derived.Test.YtdpoickggdgddabDoorPart2
import Derived.Lib.Slices
import Derived.Lib.Small
import Derived.Lib.Walk
import Derived.Lib.BitFns
import Derived.Test.YtdpoickggdgddabDoorPart3
import Derived.Deep.RegionWith
import Derived.Handy
/-
  path.Bit, as it landed, keeps P2.2.
-/
namespace Go.Proofs.YtdpoickggdgddabDoor
open Go.RowKit
set_option maxRecDepth 100000 in
set_option maxHeartbeats 1000000 in
theorem bit_ok : BitOK := by
  intro w v bs i hv
  obtain ⟨a, cap, rfl, hc, hrest⟩ := hv
  have hv : SliceIs w (.slice a bs.length cap) bs := ⟨a, cap, rfl, hc, hrest⟩
  clear hrest
  by_cases hk : 1 ≤ bs.length ∧ bs.length ≤ 16
  · by_cases hi : 0 ≤ i ∧ i ≤ 144
    · rw [bitF, if_pos hk, if_pos hi]
      obtain ⟨n, rfl⟩ : ∃ n : Nat, i = (n : Int) := ⟨i.toNat, by omega⟩
      have t1 : ¬ (n : Int) < 0 := by omega
      have t2 : ¬ (n : Int) ≥ 145 := by omega
      go_enter Tryd.func32, Tryd.ntmps32
      go_wp2_with fail
      refine (check_ok _ _ _ _).mono ?_
      rintro e w1 ⟨rfl, hg1⟩
      rw [keyFaultF, if_pos hk]
      go_wp2_with fail
      refine (group_any _ _ _ (n / 9) (hv.grown hg1)).mono ?_
      rintro e w2 ⟨rfl, hg2⟩
      have hgn := groupN_lt bs (n / 9)
      have HB : Hid (kbit bs n = (groupN bs (n / 9)).testBit (8 - n % 9)) := kbit_group bs n
      generalize groupN bs (n / 9) = g at hgn HB ⊢
      have q1 : 0 ≤ (8 : Int) - (n : Int) % 9 := by omega
      go_wp2
      go_ret2
      refine ⟨?_, grown_trans hg1 hg2⟩
      have he : (g : Int) / 2 ^ (8 - n % 9) = ((g / 2 ^ (8 - n % 9) : Nat) : Int) := by simp
      have hlt : g / 2 ^ (8 - n % 9) < 65536 := Nat.lt_of_le_of_lt (Nat.div_le_self _ _) (by omega)
      rw [he, and1_u16 _ hlt, show kbit bs ((n : Int)).toNat = kbit bs n from rfl, HB.out, Nat.testBit_eq_decide_div_mod_eq]
      congr 4
      generalize g / 2 ^ (8 - n % 9) % 2 = x
      by_cases hx : x = 1
      · subst hx; rfl
      · have : ¬ (x : Int) = 1 := by omega
        simp [hx, this]
    · rw [bitF, if_pos hk, if_neg hi]
      go_enter Tryd.func32, Tryd.ntmps32
      go_wp2_with fail
      refine (check_ok _ _ _ _).mono ?_
      rintro e w1 ⟨rfl, hg1⟩
      rw [keyFaultF, if_pos hk]
      by_cases h0 : i < 0
      · go_wp2
        go_ret2
        exact ⟨rfl, hg1⟩
      · have h1 : i ≥ 145 := by omega
        go_wp2
        go_ret2
        exact ⟨rfl, hg1⟩
  · rw [bitF, if_neg hk]
    go_enter Tryd.func32, Tryd.ntmps32
    go_wp2_with fail
    refine (check_ok _ _ _ _).mono ?_
    rintro e w1 ⟨rfl, hg1⟩
    rw [keyFaultF, if_neg hk]
    go_wp2
    go_ret2
    exact ⟨rfl, hg1⟩
end Go.Proofs.YtdpoickggdgddabDoor

/-
  What path.Part must keep.
-/
namespace Go.Proofs.YtdpoickggdgddabDoor
open Go.RowKit
/-- path.Part keeps P2.3. -/
def PartOK : Prop := ∀ (w : World) (v u : Value) (a b : List UInt8), SliceIs w v a → SliceIs w u b → Calls Tryd.prog 29 #[v, u] w fun e w' => e = .returned (.tuple #[.int .i64 (partF a b).1, .int .i64 (partF a b).2]) ∧ w.grownBy w' none

/-- path.Part of two keys. -/
theorem PartOK.of (hP : PartOK) (w : World) (v u : Value) (a b : List UInt8) (hv : SliceIs w v a) (hu : SliceIs w u b) (ha : 1 ≤ a.length ∧ a.length ≤ 16) (hb : 1 ≤ b.length ∧ b.length ≤ 16) :
    Calls Tryd.prog 29 #[v, u] w fun e w' => e = .returned (.tuple #[.int .i64 (partK a b), .int .i64 0]) ∧ w.grownBy w' none := by
  have := hP w v u a b hv hu
  rw [partF_ok a b ha hb] at this
  exact this
end Go.Proofs.YtdpoickggdgddabDoor

/-
  math/bits.Len16: the library's own text, walked.
-/
namespace Go.Proofs.YtdpoickggdgddabDoor
open Go.RowKit
theorem tab_at (i : Int) (h0 : 0 ≤ i) (h1 : i ≤ 255) (h : i.toNat < Lib.len8tab.size) : ((Lib.len8tab[i.toNat]'h).toNat : Int) = (Lib.bitLen i.toNat : Int) := by
  rw [← Lib.len8_of i h0 h1]
  simp only [Lib.len8, ByteArray.getElem?_lt' _ _ h, Option.getD_some]
set_option maxHeartbeats 4000000 in
set_option maxRecDepth 100000 in
theorem len16_any (x : Int) (w : World) (h0 : 0 ≤ x) (h1 : x ≤ 65535) :
    Calls Tryd.prog 37 #[.int .u16 x] w fun e w' => e = .returned (.int .i64 (Lib.bitLen x.toNat)) ∧ w' = w := by
  have hs := Lib.len8tab_size
  by_cases hx : 256 ≤ x
  · have q : 0 ≤ x / 256 ∧ x / 256 < (Lib.len8tab.size : Int) := by omega
    have l := Lib.bitLen_le8' (x / 256) (by omega) (by omega)
    have s := Lib.bitLen_shift8 x.toNat (by omega) (by omega)
    have T := tab_at (x / 256) q.1 (by omega) (by omega)
    go_enter Tryd.func37, Tryd.ntmps37
    go_wp2
    go_ret
    refine ⟨congrArg Ending.returned (congrArg (Value.int IntKind.i64) ?_), rfl⟩
    have e : (x / 256).toNat = x.toNat / 256 := by omega
    rw [e]
    omega
  · have q : 0 ≤ x ∧ x < (Lib.len8tab.size : Int) := by omega
    have l := Lib.bitLen_le8' x (by omega) (by omega)
    have T := tab_at x q.1 (by omega) (by omega)
    go_enter Tryd.func37, Tryd.ntmps37
    go_wp2
    go_ret
    exact ⟨rfl, rfl⟩
theorem bitLen_512 : ∀ n : Fin 512, n.val ≠ 0 → 1 ≤ Lib.bitLen n.val ∧ Lib.bitLen n.val ≤ 9 ∧ n.val.testBit (Lib.bitLen n.val - 1) = true ∧ ∀ j : Fin 9, Lib.bitLen n.val ≤ j.val → n.val.testBit j.val = false := by decide +kernel
end Go.Proofs.YtdpoickggdgddabDoor

/-
  path.Part, as it landed, keeps P2.3.
-/
namespace Go.Proofs.YtdpoickggdgddabDoor
open Go.RowKit
/-- Where two groups differ first. -/
theorem part_group (a b : List UInt8) (p : Nat) (hp : p < 16) (h : ∀ q, q < p → groupN a q = groupN b q) (hd : groupN a p ^^^ groupN b p ≠ 0) :
    partK a b = ((9 * p + 9 - Lib.bitLen (groupN a p ^^^ groupN b p) : Nat) : Int) ∧ 1 ≤ Lib.bitLen (groupN a p ^^^ groupN b p) ∧ Lib.bitLen (groupN a p ^^^ groupN b p) ≤ 9 := by
  have hlt : groupN a p ^^^ groupN b p < 512 := Nat.xor_lt_two_pow (n := 9) (groupN_lt a p) (groupN_lt b p)
  obtain ⟨h1, h2, h3, h4⟩ := bitLen_512 ⟨_, hlt⟩ hd
  simp only at h1 h2 h3 h4
  generalize hL : Lib.bitLen (groupN a p ^^^ groupN b p) = L at h1 h2 h3 h4
  refine ⟨partK_of a b _ (by omega) (fun j hj => ?_) ?_, h1, h2⟩
  · rw [kbit_group, kbit_group]
    by_cases hjp : j / 9 < p
    · rw [h _ hjp]
    · have e : j / 9 = p := by omega
      have := h4 ⟨8 - j % 9, by omega⟩ (by simp only; omega)
      simp only [Nat.testBit_xor] at this
      rw [e]
      revert this
      cases (groupN a p).testBit (8 - j % 9) <;> cases (groupN b p).testBit (8 - j % 9) <;> simp
  · rw [kbit_group, kbit_group, show (9 * p + 9 - L) / 9 = p by omega, show 8 - (9 * p + 9 - L) % 9 = L - 1 by omega]
    rw [Nat.testBit_xor] at h3
    intro e
    rw [e] at h3
    simp at h3
theorem part_none (a b : List UInt8) (h : ∀ q, q < max a.length b.length → groupN a q = groupN b q) : partK a b = -1 := by
  refine partK_none a b fun j _ => ?_
  rw [kbit_group, kbit_group]
  by_cases hj : j / 9 < max a.length b.length
  · rw [h _ hj]
  · rw [groupN, if_neg (by omega), groupN, if_neg (by omega)]
theorem xor_ne (x y : Nat) (h : x ^^^ y = 0) : x = y := by
  apply Nat.eq_of_testBit_eq
  intro i
  have := congrArg (·.testBit i) h
  simp only [Nat.testBit_xor, Nat.zero_testBit] at this
  revert this
  cases x.testBit i <;> cases y.testBit i <;> simp
set_option maxRecDepth 100000 in
set_option maxHeartbeats 1000000 in
theorem part_ok : PartOK := by
  intro w v u a b hv hu
  obtain ⟨va, vcap, rfl, hvc, hvr⟩ := hv
  have hv : SliceIs w (.slice va a.length vcap) a := ⟨va, vcap, rfl, hvc, hvr⟩
  obtain ⟨ua, ucap, rfl, huc, hur⟩ := hu
  have hu : SliceIs w (.slice ua b.length ucap) b := ⟨ua, ucap, rfl, huc, hur⟩
  clear hvr hur
  by_cases ha : 1 ≤ a.length ∧ a.length ≤ 16
  · by_cases hb : 1 ≤ b.length ∧ b.length ≤ 16
    · rw [partF, if_pos ha, if_pos hb]
      go_enter Tryd.func29, Tryd.ntmps29
      go_wp2_with fail
      refine (check_ok _ _ _ _).mono ?_
      rintro e w1 ⟨rfl, hg1⟩
      rw [keyFaultF, if_pos ha]
      go_wp2_with fail
      refine (check_ok _ _ _ _).mono ?_
      rintro e w2 ⟨rfl, hg2⟩
      rw [keyFaultF, if_pos hb]
      have hg := grown_trans hg1 hg2
      have hv2 := hv.grown hg
      have hu2 := hu.grown hg
      obtain ⟨M, hM⟩ : ∃ M : Nat, M = max a.length b.length := ⟨_, rfl⟩
      have hM16 : M ≤ 16 := by omega
      have HMi : Hid (max (a.length : Int) (b.length : Int) = (M : Int)) := by show max (a.length : Int) (b.length : Int) = (M : Int); omega
      have HM : Hid (M = max a.length b.length) := hM
      clear hv hu hg1 hg2 hM
      go_wp2_with fail
      rw [HMi.out]
      go_loopw [21] (fun iv wr => ∃ m : Nat, m ≤ M ∧ iv = .int .i64 (m : Int) ∧ w2.grownBy wr none ∧ ∀ q, q < m → groupN a q = groupN b q) (fun iv _ => M - (intOf iv).toNat)
      case atStart => exact ⟨0, by omega, rfl, grown_refl _ _, fun j hj => by omega⟩
      case round =>
        obtain ⟨m, hm, rfl, hgr, hsame⟩ := hrel
        have HSame : Hid (∀ j, j < m → groupN a j = groupN b j) := hsame
        have hgw := grown_trans hg hgr
        have hvr := hv2.grown hgr
        have hur := hu2.grown hgr
        clear hsame
        by_cases hlt : m < M
        · have t1 : (m : Int) < (M : Int) := by omega
          go_wp2_with fail
          refine (group_any _ _ _ m hvr).mono ?_
          rintro e w3 ⟨rfl, hg3⟩
          go_wp2_with fail
          refine (group_any _ _ _ m (hur.grown hg3)).mono ?_
          rintro e w4 ⟨rfl, hg4⟩
          have hx := xor_u16 (groupN a m) (groupN b m) (Nat.lt_trans (groupN_lt a m) (by decide)) (Nat.lt_trans (groupN_lt b m) (by decide))
          have hxl : groupN a m ^^^ groupN b m < 512 := Nat.xor_lt_two_pow (n := 9) (groupN_lt a m) (groupN_lt b m)
          by_cases h0 : groupN a m ^^^ groupN b m = 0
          · have HE : Hid (groupN a m = groupN b m) := xor_ne _ _ h0
            rw [h0] at hx
            go_wp2_with fail
            go_roundw
            case rel =>
              have hs : ∀ j, j < m + 1 → groupN a j = groupN b j := fun j hj => by
                by_cases hjm : j = m
                · subst hjm; exact HE.out
                · exact HSame.out j (by omega)
              first
                | exact ⟨m + 1, by omega, by go_num, grown_trans hgr (grown_trans hg3 hg4), hs⟩
                | ((repeat apply Exists.intro); refine ⟨⟨m + 1, by omega, ?_, grown_trans hgr (grown_trans hg3 hg4), hs⟩, rfl⟩; go_num)
            case measure => simp [intOf]; omega
          · obtain ⟨hP, hL1, hL2⟩ := part_group a b m (by omega) HSame.out h0
            have HP : Hid (partK a b = _) := hP
            clear hP
            generalize groupN a m ^^^ groupN b m = x at *
            have hx0 : ((x : Int) != 0) = true := by simp; omega
            go_wp2_with fail
            refine (len16_any (x : Int) _ (by omega) (by omega)).mono ?_
            rintro e w5 ⟨rfl, rfl⟩
            rw [show ((x : Int)).toNat = x from rfl]
            generalize Lib.bitLen x = L at *
            go_wp2
            go_ret2
            refine ⟨?_, grown_trans hgw (grown_trans hg3 hg4)⟩
            rw [HP.out, show ((9 * m + 9 - L : Nat) : Int) = (m : Int) * 9 + 9 - (L : Int) by omega]
            rfl
        · obtain rfl : m = M := by omega
          have HP : Hid (partK a b = -1) := part_none a b (by rw [← HM.out]; exact HSame.out)
          go_wp2
          go_ret2
          exact ⟨by rw [HP.out]; rfl, hgw⟩
    · rw [partF, if_pos ha, if_neg hb]
      go_enter Tryd.func29, Tryd.ntmps29
      go_wp2_with fail
      refine (check_ok _ _ _ _).mono ?_
      rintro e w1 ⟨rfl, hg1⟩
      rw [keyFaultF, if_pos ha]
      go_wp2_with fail
      refine (check_ok _ _ _ _).mono ?_
      rintro e w2 ⟨rfl, hg2⟩
      rw [keyFaultF, if_neg hb]
      go_wp2
      go_ret2
      exact ⟨rfl, grown_trans hg1 hg2⟩
  · rw [partF, if_neg ha]
    go_enter Tryd.func29, Tryd.ntmps29
    go_wp2_with fail
    refine (check_ok _ _ _ _).mono ?_
    rintro e w1 ⟨rfl, hg1⟩
    rw [keyFaultF, if_neg ha]
    go_wp2
    go_ret2
    exact ⟨rfl, hg1⟩
end Go.Proofs.YtdpoickggdgddabDoor

/-
  The closure of tree.fork, and sort.Search, as they landed.
-/
namespace Go.Proofs.YtdpoickggdgddabDoor
open Go.RowKit
theorem Tree.key {l : PL} (h : Tree l) (j : Nat) (hj : j < l.length) : 1 ≤ (l.getD j ([], [])).1.length ∧ (l.getD j ([], [])).1.length ≤ 16 := by
  have := (h.pairs l[j] (List.getElem_mem hj)).1
  simpa [hj] using this
set_option maxRecDepth 100000 in
set_option maxHeartbeats 1000000 in
theorem bitAt_any (w : World) (lb bb : Nat) (a : Option Addr) (cap : Nat) (l : PL) (b i : Nat) (hl : w.cell? ⟨lb, 0, none⟩ = some (.slice a l.length cap)) (hb : w.cell? ⟨bb, 0, none⟩ = some (.int .i64 (b : Int))) (hv : PairsIs w (.slice a l.length cap) l) (hT : Tree l) (hi : i < l.length) (hb145 : b < 145) :
    Calls Tryd.prog 31 #[.int .i64 (i : Int), .pointer (some ⟨lb, 0, none⟩), .pointer (some ⟨bb, 0, none⟩)] w fun e w' => e = .returned (.bool (kbit (l.getD i ([], [])).1 b)) ∧ w.grownBy w' none := by
  obtain ⟨pb, po, rfl, hat⟩ := hv.at i hi
  obtain ⟨vk, vv, c1, c2, s1, s2⟩ := hat
  have hk := hT.key i hi
  have BT : Hid (Calls Tryd.prog 32 #[vk, .int .i64 (b : Int)] w.drew fun e w' => e = .returned (.tuple #[.bool (kbit (l.getD i ([], [])).1 b), .int .i64 0]) ∧ w.drew.grownBy w' none) := BitOK.of bit_ok w.drew vk _ b s1.drew hk hb145
  generalize kbit (l.getD i ([], [])).1 b = z at *
  have t1 : (i : Int) < (l.length : Int) := by omega
  have hgd := grown_drew (grown_refl w none)
  obtain ⟨ka, kc, rfl⟩ := s1.shape
  generalize l.getD i ([], []) = P at *
  clear s1 s2 c2 hv hT
  go_enter Tryd.func31, Tryd.ntmps31
  go_wp2_with fail
  go_region_with (go_at_call 32; refine BT.out.mono ?_; rintro e w1 ⟨rfl, hg1⟩)
  all_goals
    go_wp2
    go_ret
    exact ⟨rfl, grown_trans hgd hg1⟩
set_option maxRecDepth 100000 in
set_option maxHeartbeats 1000000 in
theorem search_any (w : World) (lb bb : Nat) (a : Option Addr) (cap : Nat) (l : PL) (b n : Nat) (hl : w.cell? ⟨lb, 0, none⟩ = some (.slice a l.length cap)) (hb : w.cell? ⟨bb, 0, none⟩ = some (.int .i64 (b : Int))) (hv : PairsIs w (.slice a l.length cap) l) (hT : Tree l) (hb145 : b < 145)
    (hn : n ≤ l.length) (hbit : ∀ j, j < l.length → kbit (l.getD j ([], [])).1 b = decide (n ≤ j)) :
    Calls Tryd.prog 30 #[.int .i64 (l.length : Int), .func (.func 31) #[] #[.pointer (some ⟨lb, 0, none⟩), .pointer (some ⟨bb, 0, none⟩)]] w fun e w' => e = .returned (.int .i64 (n : Int)) ∧ w.grownBy w' none := by
  have CL : Hid (∀ (w' : World) (i : Nat), w.grownBy w' none → i < l.length → Calls Tryd.prog 31 #[.int .i64 (i : Int), .pointer (some ⟨lb, 0, none⟩), .pointer (some ⟨bb, 0, none⟩)] w' fun e w'' => e = .returned (.bool (decide (n ≤ i))) ∧ w'.grownBy w'' none) := fun w' i hg hi => by
    have := bitAt_any w' lb bb a cap l b i (hg.cell hl (by simp)) (hg.cell hb (by simp)) (hv.grown hg) hT hi hb145
    rw [hbit i hi] at this
    exact this
  have hroom := hT.room
  clear hl hb hv hT hbit
  go_enter Tryd.func30, Tryd.ntmps30
  go_wp2_with fail
  go_loopw [5, 6] (fun si sj wr => ∃ i j : Nat, i ≤ n ∧ n ≤ j ∧ j ≤ l.length ∧ si = .int .i64 (i : Int) ∧ sj = .int .i64 (j : Int) ∧ w.grownBy wr none) (fun si sj _ => (intOf sj).toNat - (intOf si).toNat)
  case atStart => exact ⟨0, l.length, by omega, hn, by omega, rfl, rfl, grown_refl _ _⟩
  case round =>
    obtain ⟨i, j, hi, hj, hjl, rfl, rfl, hgr⟩ := hrel
    by_cases hlt : i < j
    · have t1 : (i : Int) < (j : Int) := by omega
      obtain ⟨h, hh⟩ : ∃ h : Nat, ((i : Int) + (j : Int)) / 2 = (h : Int) := ⟨(i + j) / 2, by omega⟩
      have b1 : i ≤ h := by omega
      have b2 : h < j := by omega
      have CH : Hid (Calls Tryd.prog 31 #[.int .i64 (h : Int), .pointer (some ⟨lb, 0, none⟩), .pointer (some ⟨bb, 0, none⟩)] wr fun e w'' => e = .returned (.bool (decide (n ≤ h))) ∧ wr.grownBy w'' none) := CL.out wr h hgr (by omega)
      go_wp2_with fail
      refine CH.out.mono ?_
      rintro e w1 ⟨rfl, hg1⟩
      have hgw := grown_trans hgr hg1
      by_cases hz : n ≤ h
      · rw [decide_eq_true hz]
        go_wp2_with fail
        go_roundw
        case rel =>
          first
            | exact ⟨i, h, by omega, by omega, by omega, rfl, rfl, hgw⟩
            | ((repeat apply Exists.intro); refine ⟨⟨i, h, by omega, by omega, by omega, rfl, ?_, hgw⟩, rfl⟩; go_num)
        case measure => simp [intOf]; omega
      · rw [decide_eq_false hz]
        go_wp2_with fail
        go_roundw
        case rel =>
          first
            | exact ⟨h + 1, j, by omega, by omega, by omega, by go_num, rfl, hgw⟩
            | ((repeat apply Exists.intro); refine ⟨⟨h + 1, j, by omega, by omega, by omega, ?_, rfl, hgw⟩, rfl⟩; go_num)
        case measure => simp [intOf]; omega
    · obtain rfl : i = n := by omega
      obtain rfl : j = i := by omega
      go_wp2
      go_ret
      exact ⟨rfl, hgr⟩
end Go.Proofs.YtdpoickggdgddabDoor

/-
  tree.fork, as it landed.
-/
namespace Go.Proofs.YtdpoickggdgddabDoor
open Go.RowKit
theorem one_cell {w : World} {b : Nat} {x : Value} {t : TypeId} (h : w.heap[b]? = some (.cells #[x] t)) : w.cell? ⟨b, 0, none⟩ = some x := by simp [World.cell?, h]
theorem one_free {w : World} {b : Nat} {x : Value} {t : TypeId} (h : w.heap[b]? = some (.cells #[x] t)) : w.frozen? ⟨b, 0, none⟩ = false := by simp [World.frozen?, h]
theorem one_set {w : World} {b : Nat} {x : Value} {t : TypeId} (h : w.heap[b]? = some (.cells #[x] t)) (u : Value) : (w.setCell ⟨b, 0, none⟩ u).heap[b]? = some (.cells #[u] t) := by
  simp only [World.setCell, Array.getElem?_modify, if_true, h, Option.map_some]
  first | rfl | simp
set_option maxRecDepth 100000 in
set_option maxHeartbeats 1000000 in
theorem fork_any (w : World) (v : Value) (l : PL) (hv : PairsIs w v l) (hT : Tree l) (h2 : 2 ≤ l.length) :
    Calls Tryd.prog 26 #[v] w fun e w' => e = .returned (.tuple #[.int .i64 (forkBit l), .int .i64 (sideN l (forkBit l).toNat : Int), .int .i64 0]) ∧ w.grownBy w' none := by
  obtain ⟨a, cap, rfl⟩ := hv.shape
  have hr := forkBit_range hT h2
  have hpart := fork_part hT h2
  have hsr := side_range hT h2
  have hbit := fun j hj => bit_side hT h2 j hj
  have hroom := hT.room
  obtain ⟨b, hb⟩ : ∃ b : Nat, forkBit l = (b : Int) := ⟨(forkBit l).toNat, by omega⟩
  rw [hb] at hpart hsr hbit ⊢
  rw [Int.toNat_natCast] at hsr hbit ⊢
  have hb145 : b < 145 := by omega
  generalize sideN l b = n at *
  obtain ⟨m, hm⟩ : ∃ m, l.length = m + 1 := ⟨l.length - 1, by omega⟩
  rw [show l.length - 1 = m by omega] at hpart
  obtain ⟨W1, hW1⟩ : ∃ W1 : World, W1 = (w.alloc (.cells #[.slice a l.length cap] 25)).alloc (.cells #[.int .i64 0] 3) := ⟨_, rfl⟩
  have hgW : w.grownBy W1 none := by rw [hW1]; exact grown_alloc (World.grownBy_alloc _ _ _) _
  have HW1 : Hid (W1 = (w.alloc (.cells #[.slice a l.length cap] 25)).alloc (.cells #[.int .i64 0] 3)) := hW1
  have d1 : W1.drew.cell? ⟨w.heap.size, 0, none⟩ = some (.slice a l.length cap) := by rw [hW1]; simp
  have d2 : Hid (W1.heap[w.heap.size + 1]? = some (.cells #[.int .i64 0] 3)) := by
    have := heap_alloc_new (w.alloc (.cells #[.slice a l.length cap] 25)) (.cells #[.int .i64 0] 3)
    rw [World.size_alloc] at this
    rw [hW1]; exact this
  obtain ⟨pb, po, rfl, hat0⟩ := hv.at 0 (by omega)
  obtain ⟨pb2, po2, e, hatm⟩ := hv.at m (by omega)
  cases e
  have hpb : pb < w.heap.size := by obtain ⟨_, _, c, _⟩ := hat0; exact cell_lt c
  obtain ⟨vk, vv, c1, _, s1, _⟩ := hat0.grown (grown_drew hgW)
  obtain ⟨uk, uv, c2, _, s2, _⟩ := hatm.grown (grown_drew hgW)
  rw [Nat.zero_mul, Nat.add_zero] at c1
  have PT : Hid (Calls Tryd.prog 29 #[vk, uk] W1.drew fun e w' => e = .returned (.tuple #[.int .i64 (b : Int), .int .i64 0]) ∧ W1.drew.grownBy w' none) := by
    have := PartOK.of part_ok W1.drew vk uk _ _ s1 s2 (hT.key 0 (by omega)) (hT.key m (by omega))
    rw [hpart] at this
    exact this
  obtain ⟨ka, kc, rfl⟩ := s1.shape
  obtain ⟨ua, uc, rfl⟩ := s2.shape
  generalize (l.getD 0 ([], [])).1.length = k0 at *
  generalize (l.getD m ([], [])).1.length = km at *
  have i0 : (0 : Int) < (l.length : Int) := by omega
  have i1 : (m : Int) < (l.length : Int) := by omega
  have i2 : IntKind.i64.wrap ((l.length : Int) - 1) = (m : Int) := by rw [IntKind.wrap_i64]; omega
  have HBT : Hid (∀ j, j < l.length → kbit (l.getD j ([], [])).1 b = decide (n ≤ j)) := hbit
  have hgd := grown_drew hgW
  have hm1 : m + 1 ≤ l.length := by omega
  have hm2 : l.length ≤ m + 1 := by omega
  clear hpart hbit hW1 s1 s2 hat0 hatm hb hr hm
  have HV : Hid (PairsIs w (.slice (some ⟨pb, po, none⟩) l.length cap) l) := hv
  have HT : Hid (Tree l) := hT
  clear hv hT
  generalize hL : l.length = L at *
  have HL : Hid (l.length = L) := hL
  clear hL
  have i0' : 0 < L := by omega
  go_enter Tryd.func26, Tryd.ntmps26
  go_wp2_with fail
  rw [← HW1.out]
  go_region_held3 (fun w' => w'.cell? ⟨w.heap.size, 0, none⟩ = some (.slice (some ⟨pb, po, none⟩) L cap) ∧ w'.cell? ⟨pb, po, none⟩ = some (.slice ka k0 kc) ∧ w'.cell? ⟨pb, po + m * 2, none⟩ = some (.slice ua km uc))
    (first | exact ⟨d1, c1, c2⟩ | exact ⟨f1, f2, f3⟩ | exact ⟨(World.cell?_setCell_other _ _ _ _ (by simp)).trans f1, (World.cell?_setCell_other _ _ _ _ (by first | (simp; done) | (simp; omega))).trans f2, (World.cell?_setCell_other _ _ _ _ (by first | (simp; done) | (simp; omega))).trans f3⟩)
    (first | (go_at_call 29; refine PT.out.mono ?_; rintro e w1 ⟨rfl, hg1⟩; have f1 := hg1.cell d1 (by simp); have f2 := hg1.cell c1 (by simp); have f3 := hg1.cell c2 (by simp); have g0 := pair_old hg1 d2.out; have g1 : w1.cell? ⟨w.heap.size + 1, 0, none⟩ = some (.int .i64 0) := one_cell g0; have g2 : w1.frozen? ⟨w.heap.size + 1, 0, none⟩ = false := one_free g0))
  have hgw := grown_trans hgd hg1
  have k1 : (w1.setCell ⟨w.heap.size + 1, 0, none⟩ (.int .i64 (b : Int))).cell? ⟨w.heap.size, 0, none⟩ = some (.slice (some ⟨pb, po, none⟩) L cap) := (World.cell?_setCell_other _ _ _ _ (by simp)).trans f1
  have k2 : (w1.setCell ⟨w.heap.size + 1, 0, none⟩ (.int .i64 (b : Int))).cell? ⟨w.heap.size + 1, 0, none⟩ = some (.int .i64 (b : Int)) := World.cell?_setCell_same' _ _ _ (by rw [g1]; rfl)
  have hgs : w.grownBy (w1.setCell ⟨w.heap.size + 1, 0, none⟩ (.int .i64 (b : Int))) none := grown_setNew hgw _ (by omega) _ _
  have SE : Hid (Calls Tryd.prog 30 #[.int .i64 (L : Int), .func (.func 31) #[] #[.pointer (some ⟨w.heap.size, 0, none⟩), .pointer (some ⟨w.heap.size + 1, 0, none⟩)]] (w1.setCell ⟨w.heap.size + 1, 0, none⟩ (.int .i64 (b : Int))) fun e w' => e = .returned (.int .i64 (n : Int)) ∧ (w1.setCell ⟨w.heap.size + 1, 0, none⟩ (.int .i64 (b : Int))).grownBy w' none) := by
    have := search_any (w1.setCell ⟨w.heap.size + 1, 0, none⟩ (.int .i64 (b : Int))) w.heap.size (w.heap.size + 1) (some ⟨pb, po, none⟩) cap l b n (by rw [HL.out]; exact k1) k2 (by rw [HL.out]; exact HV.out.grown hgs) HT.out hb145 (by rw [HL.out]; omega) (by rw [HL.out]; exact HBT.out)
    rw [HL.out] at this
    exact this
  have BK : Hid ((w1.setCell ⟨w.heap.size + 1, 0, none⟩ (.int .i64 (b : Int))).heap[w.heap.size + 1]? = some (.cells #[.int .i64 (b : Int)] 3)) := one_set g0 _
  obtain ⟨W2, hW2⟩ : ∃ W2 : World, W2 = w1.setCell ⟨w.heap.size + 1, 0, none⟩ (.int .i64 (b : Int)) := ⟨_, rfl⟩
  rw [← hW2] at SE BK hgs k1 k2
  have HW2 : Hid (W2 = w1.setCell ⟨w.heap.size + 1, 0, none⟩ (.int .i64 (b : Int))) := hW2
  clear hW2 g0 g1 g2 f1 f2 f3 c1 c2 d1 hgd hgw hg1 PT
  have e1 : (w1.setCell ⟨w.heap.size + 1, 0, none⟩ (.int .i64 (b : Int))).cell? ⟨w.heap.size, 0, none⟩ = some (.slice (some ⟨pb, po, none⟩) L cap) := by rw [← HW2.out]; exact k1
  go_wp2_with fail
  rw [← HW2.out]
  refine SE.out.mono ?_
  rintro e w3 ⟨rfl, hg3⟩
  have g0 := pair_old hg3 BK.out
  have g1 := one_cell g0
  have g2 := one_free g0
  have g3 := one_cell (one_set g0 (.int .i64 (b : Int)))
  go_wp2
  refine bodyPost_ret (v := .tuple #[.int .i64 (b : Int), .int .i64 (n : Int), .int .i64 0]) (by simp [results, Tryd.results26, go_sem, g3]) rfl ?_
  exact ⟨rfl, grown_setNew (grown_trans hgs hg3) _ (by omega) _ _⟩
end Go.Proofs.YtdpoickggdgddabDoor

/-
  Slices of bytes that the call itself has made: what append leaves; a prefix of a slice.
-/
namespace Go.Proofs.YtdpoickggdgddabDoor
open Go.RowKit

end Go.Proofs.YtdpoickggdgddabDoor

/-
  The walk of digest.Parts.
-/
namespace Go.Proofs.YtdpoickggdgddabDoor
open Go.RowKit
/-- A list of slices of bytes, as it is handed over. -/
def ListIs (w : World) (v : Value) (ps : List (List UInt8)) : Prop :=
  ∃ a cap, v = .slice a ps.length cap ∧ ps.length ≤ cap ∧ (ps = [] ∨ ∃ b o, a = some ⟨b, o, none⟩ ∧ ∀ i, i < ps.length → ∃ vi, w.cell? ⟨b, o + i, none⟩ = some vi ∧ SliceIs w vi (ps.getD i []))
/-- A part behind its length. -/
def jpartF (p : List UInt8) : List UInt8 := UInt8.ofNat (p.length / 256) :: UInt8.ofNat p.length :: p
def joinF (k : UInt8) (ps : List (List UInt8)) : List UInt8 := k :: ps.flatMap jpartF
theorem jpartF_len (p : List UInt8) : (jpartF p).length = p.length + 2 := by simp [jpartF]
theorem joinF_snoc (k : UInt8) (ps : List (List UInt8)) (p : List UInt8) : joinF k (ps ++ [p]) = joinF k ps ++ jpartF p := by simp [joinF]
theorem joinF_take (k : UInt8) (ps : List (List UInt8)) (i : Nat) (h : i < ps.length) : joinF k (ps.take (i + 1)) = joinF k (ps.take i) ++ jpartF (ps.getD i []) := by
  rw [List.take_succ_eq_append_getElem h, joinF_snoc]
  simp [h]
theorem joinF_mono (k : UInt8) (ps : List (List UInt8)) (i : Nat) : (joinF k (ps.take i)).length ≤ (joinF k ps).length := by
  have : joinF k ps = joinF k (ps.take i) ++ (ps.drop i).flatMap jpartF := by
    unfold joinF
    rw [List.cons_append, ← List.flatMap_append, List.take_append_drop]
  rw [this]; simp
set_option maxRecDepth 100000 in
set_option maxHeartbeats 1000000 in
theorem parts_any (w : World) (k : UInt8) (v : Value) (ps : List (List UInt8)) (hv : ListIs w v ps) (hm : ps.length ≤ maxLen) (hms : ∀ i, i < ps.length → (ps.getD i []).length ≤ maxLen) (ht : Tabs w) :
    Calls Tryd.prog 25 #[.int .u8 (k.toNat : Int), v] w fun e w' => w.grownBy w' none ∧
      (((joinF k ps).length ≤ 4000 ∧ ∃ nb, w.heap.size ≤ nb ∧ e = .returned (.tuple #[.slice (some ⟨nb, 0, none⟩) 32 32, .int .i64 0]) ∧ Bytes w' nb (sumF (joinF k ps))) ∨
       (4000 < (joinF k ps).length ∧ e = .returned (.tuple #[.slice none 0 0, .int .i64 1]))) := by
  obtain ⟨a, cap, rfl, hc, hps⟩ := hv
  unfold maxLen at hm
  go_enter Tryd.func25, Tryd.ntmps25
  go_wp2_with fail
  go_loopw [6, 13] (fun j i wr => ∃ m : Nat, m ≤ ps.length ∧ i = .int .i64 (m : Int) ∧ Own w.heap.size wr j (joinF k (ps.take m)) ∧ (joinF k (ps.take m)).length ≤ 4000 ∧ w.grownBy wr none) (fun _ i _ => ps.length - (intOf i).toNat)
  case atStart => exact ⟨0, by omega, rfl, own_new w.heap.size w [k] (Nat.le_refl _) (by unfold maxLen; simp), by simp [joinF], grown_alloc (grown_refl _ _) _⟩
  case round =>
    obtain ⟨m, hmn, rfl, hown, hlen, hg⟩ := hrel
    obtain ⟨ja, jcap, rfl⟩ := hown.shape
    by_cases hlt : m < ps.length
    · obtain ⟨b, o, rfl, hcells⟩ : ∃ b o, a = some ⟨b, o, none⟩ ∧ ∀ i, i < ps.length → ∃ vi, w.cell? ⟨b, o + i, none⟩ = some vi ∧ SliceIs w vi (ps.getD i []) := by
        rcases hps with rfl | h
        · simp at hlt
        · exact h
      obtain ⟨vi, hvi, hsi⟩ := hcells m hlt
      have hpm := hms m hlt
      have HT : Hid (joinF k (ps.take (m + 1)) = joinF k (ps.take m) ++ jpartF (ps.getD m [])) := joinF_take k ps m hlt
      have HM : Hid ((joinF k (ps.take (m + 1))).length ≤ (joinF k ps).length) := joinF_mono k ps (m + 1)
      have hci := hg.cell hvi (by simp)
      generalize ps.getD m [] = P at *
      obtain ⟨pa, pcap, rfl, hpc, hpr⟩ := hsi
      have hsi : SliceIs w (.slice pa P.length pcap) P := ⟨pa, pcap, rfl, hpc, hpr⟩
      have HSI : Hid (SliceIs w (.slice pa P.length pcap) P) := hsi
      have hsz := hg.size
      have HI : Hid ((joinF k (ps.take m)).length ≤ 4000) := hlen
      generalize joinF k (ps.take m) = J at *
      have HPS : Hid (w.heap.size ≤ wr.heap.size) := hsz
      unfold maxLen at hpm
      clear hcells hvi hsi hpr hps hms hsz ht
      have i1 : (m : Int) < (ps.length : Int) := by omega
      by_cases hfit : P.length + 2 + J.length ≤ 4000
      · have i2 : (P.length : Int) ≤ 3998 - (J.length : Int) := by omega
        have HB1 : Hid (SliceIs (wr.alloc (.cells #[.int .u8 ((P.length : Int) / 256), .int .u8 ((P.length : Int) % 256)] 5)) (.slice (some ⟨wr.heap.size, 0, none⟩) 2 2) [UInt8.ofNat (P.length / 256), UInt8.ofNat P.length]) := by
          have e1 : ((P.length : Int) / 256) = ((UInt8.ofNat (P.length / 256)).toNat : Int) := by simp; omega
          have e2 : ((P.length : Int) % 256) = ((UInt8.ofNat P.length).toNat : Int) := by simp
          rw [e1, e2]
          exact two_slice _ _ _ _
        go_upto_region 8 with (at_builtin; refine wpList_append_bytes rfl (.tmp 23) (.tmp 31) rfl w.heap.size (.slice ja J.length jcap) J rfl (hown.alloc _) (some ⟨wr.heap.size, 0, none⟩) 2 2 _ rfl HB1.out (by omega) (by have := HPS.out; simp; omega) ?_; intro v1 w1 ho1 hg1)
        have hgw := grown_own (grown_alloc hg _) (hown.alloc _) hg1
        have HS1 : Hid (SliceIs w1 (.slice pa P.length pcap) P) := HSI.out.grown hgw
        have hsw := hgw.size
        obtain ⟨va, vcap, rfl⟩ := ho1.shape
        clear hown hci hg hg1 HB1 HSI HPS
        go_wp2_with (at_builtin; refine wpList_append_bytes rfl (.tmp 33) (.tmp 34) rfl w.heap.size _ _ rfl ho1 pa P.length pcap P rfl HS1.out (by simp; omega) hsw ?_; intro v2 w2 ho2 hg2)
        have hgw2 := grown_own hgw ho1 hg2
        go_roundw
        case rel =>
          have e : joinF k (ps.take (m + 1)) = J ++ [UInt8.ofNat (P.length / 256), UInt8.ofNat P.length] ++ P := by rw [HT.out]; simp [jpartF]
          refine ⟨m + 1, by omega, by go_num, ?_, ?_, hgw2⟩
          · rw [e]; exact ho2
          · rw [e]; simp; omega
        case measure => simp [intOf]; omega
      · have i2 : 3998 - (J.length : Int) < (P.length : Int) := by omega
        go_wp2
        go_ret2
        refine ⟨hg, .inr ⟨?_, rfl⟩⟩
        have h1 := HM.out
        rw [HT.out] at h1
        simp [jpartF_len] at h1
        omega
    · obtain rfl : m = ps.length := by omega
      rw [List.take_length] at hown hlen
      have hS := sum_any wr _ _ hown.slice hlen (ht.grownNone hg)
      go_wp2_with fail
      refine hS.mono ?_
      rintro e w2 ⟨nb, hnb, rfl, hb2, hg2⟩
      go_wp2
      go_ret2
      exact ⟨grown_trans hg hg2, .inl ⟨hlen, nb, Nat.le_trans hg.size hnb, rfl, hb2⟩⟩
end Go.Proofs.YtdpoickggdgddabDoor

/-
  The digest of a tree, by the document.
-/
namespace Go.Proofs.YtdpoickggdgddabDoor
def rootK : Nat → PL → List UInt8
  | 0, _ => []
  | f + 1, l => if l.length = 0 then sumF [0] else if l.length = 1 then sumF (joinF 1 [(l.getD 0 ([], [])).1, (l.getD 0 ([], [])).2])
    else sumF (joinF 2 [[UInt8.ofNat (forkBit l).toNat], rootK f (sideL l (forkBit l).toNat false), rootK f (sideL l (forkBit l).toNat true)])
/-- The digest of a tree. -/
def rootL (l : PL) : List UInt8 := rootK (l.length + 1) l
theorem rootK_fuel : ∀ (f : Nat) (l : PL), Tree l → l.length < f → rootK f l = rootL l
  | 0, _, _, h => by omega
  | f + 1, l, hT, h => by
    rw [rootL, rootK, rootK]
    by_cases h0 : l.length = 0
    · rw [if_pos h0, if_pos h0]
    · rw [if_neg h0, if_neg h0]
      by_cases h1 : l.length = 1
      · rw [if_pos h1, if_pos h1]
      · rw [if_neg h1, if_neg h1]
        have hs := sides_less hT (by omega)
        rw [rootK_fuel f _ (side_tree hT _ false) (by have := hs false; omega), rootK_fuel f _ (side_tree hT _ true) (by have := hs true; omega)]
        have key : ∀ x, rootK l.length (sideL l (forkBit l).toNat x) = rootL (sideL l (forkBit l).toNat x) := fun x => by
          obtain ⟨n, hn⟩ : ∃ n, l.length = n + 1 := ⟨l.length - 1, by omega⟩
          have hx := hs x
          rw [rootL]
          by_cases hf : l.length ≤ f
          · have e1 := rootK_fuel l.length (sideL l (forkBit l).toNat x) (side_tree hT _ x) hx
            rw [e1, rootL]
          · omega
        rw [key false, key true]
  termination_by f => f
theorem rootL_none (l : PL) (h : l.length = 0) : rootL l = sumF [0] := by rw [rootL, rootK, if_pos h]
theorem rootL_one (l : PL) (h : l.length = 1) : rootL l = sumF (joinF 1 [(l.getD 0 ([], [])).1, (l.getD 0 ([], [])).2]) := by rw [rootL, rootK, if_neg (by omega), if_pos h]
theorem rootL_fork (l : PL) (hT : Tree l) (h : 2 ≤ l.length) : rootL l = sumF (joinF 2 [[UInt8.ofNat (forkBit l).toNat], rootL (sideL l (forkBit l).toNat false), rootL (sideL l (forkBit l).toNat true)]) := by
  have hs := sides_less hT h
  rw [rootL, rootK, if_neg (by omega), if_neg (by omega), rootK_fuel _ _ (side_tree hT _ false) (hs false), rootK_fuel _ _ (side_tree hT _ true) (hs true)]
theorem rootL_len (l : PL) : (rootL l).length = 32 := by
  rw [rootL, rootK]
  by_cases h0 : l.length = 0
  · rw [if_pos h0]; exact sumF_len _
  · rw [if_neg h0]
    by_cases h1 : l.length = 1
    · rw [if_pos h1]; exact sumF_len _
    · rw [if_neg h1]; exact sumF_len _
/-- Root: an error, or the digest. -/
def rootF (l : PL) : List UInt8 := if pairsFaultF l = 0 then rootL l else []
theorem joinF_two (k : UInt8) (a b : List UInt8) : (joinF k [a, b]).length = a.length + b.length + 5 := by simp [joinF, jpartF]; omega
theorem joinF_three (k : UInt8) (a b c : List UInt8) : (joinF k [a, b, c]).length = a.length + b.length + c.length + 7 := by simp [joinF, jpartF]; omega
end Go.Proofs.YtdpoickggdgddabDoor

/-
  What tree.Root must keep.
-/
namespace Go.Proofs.YtdpoickggdgddabDoor
open Go.RowKit
/-- tree.Root keeps P3.6. -/
def TRootOK : Prop := ∀ (w : World) (v : Value) (l : PL), PairsIs w v l → Fits l → Tabs w → Calls Tryd.prog 11 #[v] w fun e w' => ∃ x, e = .returned (.tuple #[x, .int .i64 (pairsFaultF l)]) ∧ SliceIs w' x (rootF l) ∧ w.grownBy w' none
end Go.Proofs.YtdpoickggdgddabDoor

/-
  tree.Root, as it landed, keeps P3.6.
-/
namespace Go.Proofs.YtdpoickggdgddabDoor
open Go.RowKit
theorem plist_two (w : World) (t : TypeId) (v1 v2 : Value) (x y : List UInt8) (h1 : SliceIs w v1 x) (h2 : SliceIs w v2 y) (nb : Nat) (hnb : nb = w.heap.size) :
    ListIs (w.alloc (.cells #[v1, v2] t)) (.slice (some ⟨nb, 0, none⟩) 2 2) [x, y] := by
  subst hnb
  refine ⟨_, 2, rfl, by simp, .inr ⟨w.heap.size, 0, rfl, fun i hi => ?_⟩⟩
  match i, hi with
  | 0, _ => exact ⟨v1, by simp, h1.alloc _⟩
  | 1, _ => exact ⟨v2, by simp, h2.alloc _⟩
theorem plist_three (w : World) (t : TypeId) (v1 v2 v3 : Value) (x y z : List UInt8) (h1 : SliceIs w v1 x) (h2 : SliceIs w v2 y) (h3 : SliceIs w v3 z) (nb : Nat) (hnb : nb = w.heap.size) :
    ListIs (w.alloc (.cells #[v1, v2, v3] t)) (.slice (some ⟨nb, 0, none⟩) 3 3) [x, y, z] := by
  subst hnb
  refine ⟨_, 3, rfl, by simp, .inr ⟨w.heap.size, 0, rfl, fun i hi => ?_⟩⟩
  match i, hi with
  | 0, _ => exact ⟨v1, by simp, h1.alloc _⟩
  | 1, _ => exact ⟨v2, by simp, h2.alloc _⟩
  | 2, _ => exact ⟨v3, by simp, h3.alloc _⟩
/-- digest.Parts of parts that are short. -/
theorem parts_short (w : World) (k : UInt8) (v : Value) (ps : List (List UInt8)) (hv : ListIs w v ps) (hn : ps.length ≤ 10) (hs : ∀ i, i < ps.length → (ps.getD i []).length ≤ 40) (hj : (joinF k ps).length ≤ 4000) (ht : Tabs w) :
    Calls Tryd.prog 25 #[.int .u8 (k.toNat : Int), v] w fun e w' => ∃ x, e = .returned (.tuple #[x, .int .i64 0]) ∧ SliceIs w' x (sumF (joinF k ps)) ∧ w.grownBy w' none := by
  refine (parts_any w k v ps hv (by unfold maxLen; omega) (fun i hi => by have := hs i hi; unfold maxLen; omega) ht).mono ?_
  rintro e w1 ⟨hg, ⟨_, nb, hnb, rfl, hb⟩ | ⟨hbad, _⟩⟩
  · exact ⟨_, rfl, hb.slice32 (sumF_len _), hg⟩
  · omega
set_option maxRecDepth 100000 in
set_option maxHeartbeats 1000000 in
theorem root_any : ∀ (n : Nat) (w : World) (v : Value) (l : PL), l.length ≤ n → PairsIs w v l → Tree l → Tabs w →
    Calls Tryd.prog 19 #[v] w fun e w' => ∃ x, e = .returned (.tuple #[x, .int .i64 0]) ∧ SliceIs w' x (rootL l) ∧ w.grownBy w' none := by
  have none_case : ∀ (w : World) (a : Option Addr) (cap : Nat) (l : PL), l.length = 0 → Tabs w → Calls Tryd.prog 19 #[.slice a l.length cap] w fun e w' => ∃ x, e = .returned (.tuple #[x, .int .i64 0]) ∧ SliceIs w' x (rootL l) ∧ w.grownBy w' none := by
    intro w a cap l h0 ht
    rw [rootL_none l h0, h0]
    have PS : Hid (Calls Tryd.prog 25 #[.int .u8 0, .slice none 0 0] w fun e w' => ∃ x, e = .returned (.tuple #[x, .int .i64 0]) ∧ SliceIs w' x (sumF [0]) ∧ w.grownBy w' none) := by
      have := parts_short w 0 (.slice none 0 0) [] ⟨none, 0, rfl, by simp, .inl rfl⟩ (by simp) (by simp) (by simp [joinF]) ht
      show Calls _ _ _ _ _
      simpa [joinF] using this
    generalize sumF [0] = S at *
    go_enter Tryd.func19, Tryd.ntmps19
    go_wp2_with fail
    refine PS.out.mono ?_
    rintro e w1 ⟨x, rfl, hx, hg1⟩
    go_wp2
    go_ret2
    exact ⟨x, rfl, hx, hg1⟩
  intro n
  induction n with
  | zero =>
    intro w v l hn hv hT ht
    obtain ⟨a, cap, rfl⟩ := hv.shape
    exact none_case w a cap l (by omega) ht
  | succ n ih =>
    intro w v l hn hv hT ht
    have IH : Hid (∀ (w : World) (v : Value) (l : PL), l.length ≤ n → PairsIs w v l → Tree l → Tabs w → Calls Tryd.prog 19 #[v] w fun e w' => ∃ x, e = .returned (.tuple #[x, .int .i64 0]) ∧ SliceIs w' x (rootL l) ∧ w.grownBy w' none) := ih
    clear ih
    obtain ⟨a, cap, rfl⟩ := hv.shape
    by_cases h0 : l.length = 0
    · exact none_case w a cap l h0 ht
    · clear none_case
      by_cases h1 : l.length = 1
      · rw [rootL_one l h1]
        obtain ⟨b, o, rfl, hat⟩ := hv.at 0 (by omega)
        obtain ⟨vk, vv, c1, c2, s1, s2⟩ := hat
        rw [Nat.zero_mul, Nat.add_zero] at c1 c2
        have hp := hT.pairs l[0] (List.getElem_mem (by omega))
        rw [show l[0] = l.getD 0 ([], []) by simp [show 0 < l.length by omega]] at hp
        generalize l.getD 0 ([], []) = P at *
        rw [h1] at hv ⊢
        have PS : Hid (Calls Tryd.prog 25 #[.int .u8 1, .slice (some ⟨w.heap.size, 0, none⟩) 2 2] (w.alloc (.cells #[vk, vv] 24)).drew fun e w' => ∃ x, e = .returned (.tuple #[x, .int .i64 0]) ∧ SliceIs w' x (sumF (joinF 1 [P.1, P.2])) ∧ w.grownBy w' none) := by
          have hg := World.grownBy_alloc w (.cells #[vk, vv] 24) none
          refine (parts_short (w.alloc (.cells #[vk, vv] 24)).drew 1 (.slice (some ⟨w.heap.size, 0, none⟩) 2 2) [P.1, P.2] (plist_two w _ vk vv P.1 P.2 s1 s2 _ rfl) (by simp) ?_ (by rw [joinF_two]; omega) (ht.grownNone (grown_drew hg))).mono ?_
          · intro i hi
            match i, hi with
            | 0, _ => simp; omega
            | 1, _ => simp; omega
          · rintro e w1 ⟨x, rfl, hx, hg1⟩
            exact ⟨x, rfl, hx, grown_trans (grown_drew hg) hg1⟩
        obtain ⟨ak, ck, rfl⟩ := s1.shape
        obtain ⟨av, cv, rfl⟩ := s2.shape
        have e1 : w.drew.cell? ⟨b, o, none⟩ = some (.slice ak P.1.length ck) := c1
        have e2 : w.drew.cell? ⟨b, o + 1, none⟩ = some (.slice av P.2.length cv) := c2
        generalize sumF (joinF 1 [P.1, P.2]) = S at *
        clear s1 s2 hT hv
        go_enter Tryd.func19, Tryd.ntmps19
        go_wp2_with fail
        go_region_with (go_at_call 25; refine PS.out.mono ?_; rintro e w1 ⟨x, rfl, hx, hg1⟩)
        all_goals
          go_wp2
          go_ret2
          exact ⟨x, rfl, hx, hg1⟩
      · have h2 : 2 ≤ l.length := by omega
        rw [rootL_fork l hT h2]
        have FK : Hid (Calls Tryd.prog 26 #[.slice a l.length cap] w fun e w' => e = .returned (.tuple #[.int .i64 (forkBit l), .int .i64 (sideN l (forkBit l).toNat : Int), .int .i64 0]) ∧ w.grownBy w' none) := fork_any w _ l hv hT h2
        have hrange := forkBit_range hT h2
        have hsr := side_range hT h2
        have tF := side_tree hT (forkBit l).toNat false
        have tT := side_tree hT (forkBit l).toNat true
        have eF := side_false hT h2
        have eT := side_true hT h2
        obtain ⟨B, hB⟩ : ∃ B : Nat, forkBit l = (B : Int) := ⟨(forkBit l).toNat, by omega⟩
        have eB : (forkBit l).toNat = B := by omega
        have hB2 : B < 145 := by omega
        rw [eB] at tF tT eF eT hsr FK ⊢
        rw [hB] at FK
        rw [eF] at tF ⊢
        rw [eT] at tT ⊢
        generalize sideN l B = s at *
        have lF : (l.take s).length ≤ n := by simp; omega
        have lT : (l.drop s).length ≤ n := by simp; omega
        obtain ⟨a1, c1, q1, g1⟩ := pslice_h a cap l s (by omega) hv.cap
        obtain ⟨a2, c2, q2, g2⟩ := pslice_l a cap l s (by omega)
        have RL : Hid (∀ w', w.grownBy w' none → Calls Tryd.prog 19 #[.slice a1 s c1] w' fun e w'' => ∃ x, e = .returned (.tuple #[x, .int .i64 0]) ∧ SliceIs w'' x (rootL (l.take s)) ∧ w'.grownBy w'' none) := fun w' hg => IH.out w' _ _ lF (g1 w' (hv.grown hg)) tF (ht.grownNone hg)
        have RR : Hid (∀ w', w.grownBy w' none → Calls Tryd.prog 19 #[.slice a2 (l.length - s) c2] w' fun e w'' => ∃ x, e = .returned (.tuple #[x, .int .i64 0]) ∧ SliceIs w'' x (rootL (l.drop s)) ∧ w'.grownBy w'' none) := fun w' hg => IH.out w' _ _ lT (g2 w' (hv.grown hg)) tT (ht.grownNone hg)
        have rL := rootL_len (l.take s)
        have rR := rootL_len (l.drop s)
        generalize rootL (l.take s) = XL at *
        generalize rootL (l.drop s) = XR at *
        have HXL : Hid (XL.length = 32) := rL
        have HXR : Hid (XR.length = 32) := rR
        have HTB : Hid (Tabs w) := ht
        have DP : Hid (∀ (w' : World) (x y : Value), w.grownBy w' none → SliceIs w' x XL → SliceIs w' y XR → Calls Tryd.prog 25 #[.int .u8 2, .slice (some ⟨w'.heap.size + 1, 0, none⟩) 3 3] ((w'.alloc (.cells #[.int .u8 (B : Int)] 5)).alloc (.cells #[.slice (some ⟨w'.heap.size, 0, none⟩) 1 1, x, y] 24)) fun e w'' => ∃ z, e = .returned (.tuple #[z, .int .i64 0]) ∧ SliceIs w'' z (sumF (joinF 2 [[UInt8.ofNat B], XL, XR])) ∧ w'.grownBy w'' none) := by
          intro w' x y hg hx hy
          have hone : SliceIs (w'.alloc (.cells #[.int .u8 (B : Int)] 5)) (.slice (some ⟨w'.heap.size, 0, none⟩) 1 1) [UInt8.ofNat B] := by
            have := one_slice w' (UInt8.ofNat B) 5
            rw [show (((UInt8.ofNat B).toNat : Nat) : Int) = (B : Int) by simp; omega] at this
            exact this
          have hgg : w'.grownBy ((w'.alloc (.cells #[.int .u8 (B : Int)] 5)).alloc (.cells #[.slice (some ⟨w'.heap.size, 0, none⟩) 1 1, x, y] 24)) none := grown_alloc (World.grownBy_alloc _ _ _) _
          refine (parts_short _ 2 _ [[UInt8.ofNat B], XL, XR] (plist_three _ _ _ _ _ [UInt8.ofNat B] XL XR hone (hx.alloc _) (hy.alloc _) _ (by simp)) (by simp) ?_ (by rw [joinF_three, HXL.out, HXR.out]; simp) (HTB.out.grownNone (grown_trans hg hgg))).mono ?_
          · intro i hi
            have h1 := HXL.out
            have h2 := HXR.out
            match i, hi with
            | 0, _ => simp
            | 1, _ => simp [h1]
            | 2, _ => simp [h2]
          · rintro e w1 ⟨z, rfl, hz, hg1⟩
            exact ⟨z, rfl, hz, grown_trans hgg hg1⟩
        generalize sumF (joinF 2 [[UInt8.ofNat B], XL, XR]) = S at *
        clear rL rR hB hv hrange eB g1 g2 eF eT tF tT lF lT hT ht IH HTB
        have t0 : ((l.length : Int) == 0) = false := by rw [beq_eq_false_iff_ne]; omega
        have t1 : ((l.length : Int) == 1) = false := by rw [beq_eq_false_iff_ne]; omega
        go_enter Tryd.func19, Tryd.ntmps19
        go_wp2_with fail
        refine FK.out.mono ?_
        rintro e w1 ⟨rfl, hg1⟩
        go_wp2_with fail
        refine (RL.out _ hg1).mono ?_
        rintro e w2 ⟨x, rfl, hx, hg2⟩
        obtain ⟨xa, xc, rfl⟩ := hx.shape
        have hg12 := grown_trans hg1 hg2
        go_wp2_with fail
        refine (RR.out _ hg12).mono ?_
        rintro e w3 ⟨y, rfl, hy, hg3⟩
        obtain ⟨ya, yc, rfl⟩ := hy.shape
        have hg13 := grown_trans hg12 hg3
        go_wp2_with fail
        refine (DP.out w3 _ _ hg13 (hx.grown hg3) hy).mono ?_
        rintro e w4 ⟨z, rfl, hz, hg4⟩
        go_wp2
        go_ret2
        exact ⟨z, rfl, hz, grown_trans hg13 hg4⟩
set_option maxRecDepth 100000 in
set_option maxHeartbeats 1000000 in
theorem troot_ok : TRootOK := by
  intro w v l hv hl ht
  have CL : Hid (Calls Tryd.prog 14 #[v] w fun e w' => e = .returned (.int .i64 (pairsFaultF l)) ∧ w.grownBy w' none) := tcheck_ok w v l hv hl
  obtain ⟨a, cap, rfl⟩ := hv.shape
  by_cases hz : pairsFaultF l = 0
  · have hT := (tree_iff l).1 hz
    have hF : rootF l = rootL l := by rw [rootF, if_pos hz]
    have RT : Hid (∀ w', w.grownBy w' none → Calls Tryd.prog 19 #[.slice a l.length cap] w' fun e w'' => ∃ x, e = .returned (.tuple #[x, .int .i64 0]) ∧ SliceIs w'' x (rootL l) ∧ w'.grownBy w'' none) := fun w' hg => root_any l.length w' _ l (Nat.le_refl _) (hv.grown hg) hT (ht.grownNone hg)
    rw [hz] at CL ⊢
    rw [hF]
    generalize rootL l = R at *
    clear hz hF hT hv ht
    go_enter Tryd.func11, Tryd.ntmps11
    go_wp2_with fail
    refine CL.out.mono ?_
    rintro e w1 ⟨rfl, hg1⟩
    go_wp2_with fail
    refine (RT.out _ hg1).mono ?_
    rintro e w2 ⟨x, rfl, hx, hg2⟩
    go_wp2
    go_ret2
    exact ⟨x, rfl, hx, grown_trans hg1 hg2⟩
  · have hF : rootF l = [] := by rw [rootF, if_neg hz]
    rw [hF]
    generalize pairsFaultF l = z at *
    have hz' : (z != 0) = true := by simpa using hz
    clear hF hv ht
    go_enter Tryd.func11, Tryd.ntmps11
    go_wp2_with fail
    refine CL.out.mono ?_
    rintro e w1 ⟨rfl, hg1⟩
    go_wp2
    go_ret2
    exact ⟨_, rfl, sliceIs_nil _, hg1⟩
end Go.Proofs.YtdpoickggdgddabDoor

/-
  Trees that are put to and taken from: what the laws of canopykeep rest on. No program is named.
-/
namespace Go.Proofs.YtdpoickggdgddabDoor
theorem putE_ok (t : PL) (p : Pr) (h : Tree t) (hp : (1 ≤ p.1.length ∧ p.1.length ≤ 16) ∧ p.2.length ≤ 32) (hl : t.length < 60) : putE t p = 0 ∧ putF t p = putL t p ∧ Tree (putL t p) := by
  have h0 : putE0 t p = 0 := by rw [putE0, if_pos ((tree_iff t).2 h)]; exact (pairFault_iff p).2 hp
  have hlen := put_len t p
  have h1 : putE t p = 0 := by rw [putE, if_pos h0, if_neg (by omega)]
  exact ⟨h1, by rw [putF, if_pos h1], ⟨by omega, put_pairs t p h.pairs hp, put_rises t p h.rises⟩⟩
theorem delF_ok (t : PL) (k : List UInt8) (h : Tree t) (hk : 1 ≤ k.length ∧ k.length ≤ 16) : getE t k = 0 ∧ delF t k = delL t k ∧ Tree (delL t k) := by
  have h1 := getE_ok h hk
  refine ⟨h1, by rw [delF, if_pos h1], ⟨Nat.le_trans (del_len t k) h.room, fun p hp => h.pairs p (List.mem_filter.1 hp).1, del_rises t k h.rises⟩⟩
theorem rangeF_ok (t : PL) (f u : List UInt8) (h : Tree t) (hf : 1 ≤ f.length ∧ f.length ≤ 16) (hu : 1 ≤ u.length ∧ u.length ≤ 16) : rangeE t f u = 0 ∧ rangeF t f u = rangeL t f u ∧ Tree (rangeL t f u) := by
  have h1 : rangeE t f u = 0 := by rw [rangeE, if_pos (getE_ok h hf)]; exact (keyFault_iff _).2 hu
  refine ⟨h1, by rw [rangeF, if_pos h1], ⟨Nat.le_trans (range_len t f u) h.room, fun p hp => h.pairs p (List.mem_filter.1 hp).1, range_rises t f u h.rises⟩⟩
theorem get_ok (t : PL) (k : List UInt8) (h : Tree t) (hk : 1 ≤ k.length ∧ k.length ≤ 16) : getE t k = 0 ∧ getB t k = (getF t k).isSome ∧ getV t k = (getF t k).getD [] := by
  have h1 := getE_ok h hk
  exact ⟨h1, by rw [getB, h1]; simp, by rw [getV, if_pos h1]⟩
theorem tree_fault (t : PL) (h : Tree t) : pairsFaultF t = 0 := (tree_iff t).2 h
theorem put_comm (t : PL) (p q : Pr) (h : Rises t) (hne : p.1 ≠ q.1) : putL (putL t p) q = putL (putL t q) p := by
  refine rises_ext _ _ (put_rises _ _ (put_rises _ _ h)) (put_rises _ _ (put_rises _ _ h)) fun k => ?_
  rw [get_put _ _ _ (put_rises _ _ h), get_put _ _ _ h, get_put _ _ _ (put_rises _ _ h), get_put _ _ _ h]
  by_cases h1 : q.1 = k
  · rw [if_pos h1, if_pos h1, if_neg (fun h2 => hne (h2.trans h1.symm))]
  · rw [if_neg h1, if_neg h1]
theorem put_same (t : PL) (p q : Pr) (h : Rises t) (he : p.1 = q.1) : putL (putL t p) q = putL t q := by
  refine rises_ext _ _ (put_rises _ _ (put_rises _ _ h)) (put_rises _ _ h) fun k => ?_
  rw [get_put _ _ _ (put_rises _ _ h), get_put _ _ _ h, get_put _ _ _ h]
  by_cases h1 : q.1 = k
  · rw [if_pos h1, if_pos h1]
  · rw [if_neg h1, if_neg h1, if_neg (by rw [he]; exact h1)]
theorem del_put (t : PL) (p : Pr) (h : Rises t) : delL (putL t p) p.1 = delL t p.1 := by
  refine rises_ext _ _ (del_rises _ _ (put_rises _ _ h)) (del_rises _ _ h) fun k => ?_
  rw [get_del, get_del, get_put _ _ _ h]
  by_cases h1 : p.1 = k
  · rw [if_pos h1, if_pos h1]
  · rw [if_neg h1, if_neg h1, if_neg h1]
theorem put_some (t : PL) (p : Pr) : putL t p ≠ [] := by
  cases t with
  | nil => simp [putL]
  | cons q r =>
    rw [putL]
    by_cases h1 : klt q.1 p.1 = true
    · rw [if_pos h1]; simp
    · rw [if_neg h1]
      by_cases h2 : q.1 = p.1
      · rw [if_pos h2]; simp
      · rw [if_neg h2]; simp
theorem del_none (t : PL) (k : List UInt8) (h : getF t k = none) : delL t k = t := by
  induction t with
  | nil => rfl
  | cons q r ih =>
    rw [get_cons] at h
    by_cases e : q.1 = k
    · rw [if_pos e] at h; cases h
    · rw [if_neg e] at h
      have := ih h
      unfold delL at this ⊢
      rw [List.filter_cons_of_pos (by simp [e]), this]
theorem put_len_new (t : PL) (p : Pr) (h : getF t p.1 = none) : (putL t p).length = t.length + 1 := by
  induction t with
  | nil => simp [putL]
  | cons q r ih =>
    rw [get_cons] at h
    by_cases e : q.1 = p.1
    · rw [if_pos e] at h; cases h
    · rw [if_neg e] at h
      rw [putL]
      by_cases h1 : klt q.1 p.1 = true
      · rw [if_pos h1]; simp [ih h]
      · rw [if_neg h1, if_neg e]; simp
theorem del_len_old (t : PL) (k : List UInt8) (hr : Rises t) (h : (getF t k).isSome = true) : (delL t k).length + 1 = t.length := by
  induction t with
  | nil => simp [getF] at h
  | cons q r ih =>
    have hp := List.pairwise_cons.1 hr
    rw [get_cons] at h
    by_cases e : q.1 = k
    · have hn : getF r k = none := get_head_none r k fun p hp' => by rw [← e]; exact hp.1 p hp'
      have := del_none r k hn
      unfold delL at this ⊢
      rw [List.filter_cons_of_neg (by simp [e]), this]; simp
    · rw [if_neg e] at h
      have := ih hp.2 h
      unfold delL at this ⊢
      rw [List.filter_cons_of_pos (by simp [e])]
      simp; omega
end Go.Proofs.YtdpoickggdgddabDoor

/-
  Pairs that are put together in another order, with one more that is taken away: what RootSame rests on. No program is named.
-/
namespace Go.Proofs.YtdpoickggdgddabDoor
theorem get_mem (l : PL) (h : Rises l) (j : Nat) (hj : j < l.length) : getF l (l.getD j ([], [])).1 = some (l.getD j ([], [])).2 :=
  get_at l _ j hj (fun i hi e => by have := klt_ne (rises_step l h i j hi hj); exact this e) rfl
theorem get_from (l : PL) (k v : List UInt8) (h : getF l k = some v) : ∃ j, j < l.length ∧ (l.getD j ([], [])).1 = k ∧ (l.getD j ([], [])).2 = v := by
  induction l with
  | nil => simp [getF] at h
  | cons p r ih =>
    rw [get_cons] at h
    by_cases e : p.1 = k
    · rw [if_pos e] at h
      exact ⟨0, by simp, by simpa using e, by simpa using h⟩
    · rw [if_neg e] at h
      obtain ⟨j, h1, h2, h3⟩ := ih h
      exact ⟨j + 1, by simpa using h1, by simpa using h2, by simpa using h3⟩
/-- On the way: what is there is of the tree, but at one key; the first so many of the tree are there. -/
structure OnWay (PS : PL) (X : List UInt8) (T : PL) (m : Nat) : Prop where
  tree : Tree T
  from_ : ∀ k v, getF T k = some v → k ≠ X → getF PS k = some v
  has : ∀ j, j < m → getF T (PS.getD j ([], [])).1 = some (PS.getD j ([], [])).2
theorem onWay_start (PS : PL) (X : List UInt8) (V : List UInt8) (hX : 1 ≤ X.length ∧ X.length ≤ 16) (hV : V.length ≤ 32) : OnWay PS X (putL [] (X, V)) 0 := by
  refine ⟨(putE_ok [] (X, V) tree_nil ⟨hX, hV⟩ (by simp)).2.2, fun k v h hk => ?_, fun j hj => by omega⟩
  rw [get_put _ _ _ List.Pairwise.nil] at h
  rw [if_neg (Ne.symm hk)] at h
  simp [getF] at h
theorem onWay_put {PS T : PL} {X : List UInt8} {m : Nat} (h : OnWay PS X T m) (hP : Tree PS) (j : Nat) (hj : j < PS.length) (hl : T.length < 60) : OnWay PS X (putL T (PS.getD j ([], []))) m ∧ getF (putL T (PS.getD j ([], []))) (PS.getD j ([], [])).1 = some (PS.getD j ([], [])).2 := by
  have hok := hP.pairs PS[j] (List.getElem_mem hj)
  rw [show PS[j] = PS.getD j ([], []) by simp [hj]] at hok
  have hm := get_mem PS hP.rises j hj
  refine ⟨⟨(putE_ok T _ h.tree hok hl).2.2, fun k v hk hne => ?_, fun i hi => ?_⟩, ?_⟩
  · rw [get_put _ _ _ h.tree.rises] at hk
    by_cases e : (PS.getD j ([], [])).1 = k
    · rw [if_pos e] at hk; rw [← e, hm]; exact hk
    · rw [if_neg e] at hk; exact h.from_ k v hk hne
  · rw [get_put _ _ _ h.tree.rises]
    by_cases e : (PS.getD j ([], [])).1 = (PS.getD i ([], [])).1
    · have := h.has i hi
      rw [if_pos e]
      by_cases hil : i < PS.length
      · have hmi := get_mem PS hP.rises i hil
        rw [← e, hm] at hmi
        exact hmi
      · have hd : PS.getD i ([], []) = ([], []) := by simp [Nat.le_of_not_lt hil]
        rw [hd] at e
        rw [e] at hok
        simp at hok
    · rw [if_neg e]; exact h.has i hi
  · rw [get_put _ _ _ h.tree.rises, if_pos rfl]
theorem onWay_next {PS T : PL} {X : List UInt8} {m : Nat} (h : OnWay PS X T m) (hP : Tree PS) (hm : m < PS.length) (hl : T.length < 60) : OnWay PS X (putL T (PS.getD m ([], []))) (m + 1) := by
  obtain ⟨h1, h2⟩ := onWay_put h hP m hm hl
  refine ⟨h1.tree, h1.from_, fun j hj => ?_⟩
  by_cases e : j = m
  · subst e; exact h2
  · exact h1.has j (by omega)
theorem onWay_get {PS T : PL} {X : List UInt8} (h : OnWay PS X T PS.length) (k : List UInt8) (hk : k ≠ X ∨ (getF PS X).isSome = true) : getF T k = getF PS k := by
  cases hp : getF PS k with
  | some v =>
    obtain ⟨j, h1, h2, h3⟩ := get_from PS k v hp
    have := h.has j h1
    rw [h2, h3] at this
    exact this
  | none =>
    cases ht : getF T k with
    | none => rfl
    | some v =>
      rcases hk with hk | hk
      · rw [h.from_ k v ht hk] at hp; cases hp
      · by_cases e : k = X
        · rw [← e, hp] at hk; cases hk
        · rw [h.from_ k v ht e] at hp; cases hp
theorem onWay_had {PS T : PL} {X : List UInt8} (h : OnWay PS X T PS.length) (hP : Tree PS) (hx : (getF PS X).isSome = true) : T = PS :=
  rises_ext _ _ h.tree.rises hP.rises fun k => onWay_get h k (.inr hx)
theorem onWay_del {PS T : PL} {X : List UInt8} (h : OnWay PS X T PS.length) (hP : Tree PS) (hx : (getF PS X).isSome = false) : delL T X = PS := by
  refine rises_ext _ _ (del_rises _ _ h.tree.rises) hP.rises fun k => ?_
  rw [get_del]
  by_cases e : X = k
  · rw [if_pos e, ← e]
    cases hp : getF PS X with
    | none => rfl
    | some v => rw [hp] at hx; cases hx
  · rw [if_neg e]; exact onWay_get h k (.inl (Ne.symm e))
end Go.Proofs.YtdpoickggdgddabDoor

/-
  The walk of canopykeep.find.
-/
namespace Go.Proofs.YtdpoickggdgddabDoor
open Go.RowKit
set_option maxRecDepth 100000 in
set_option maxHeartbeats 1000000 in
theorem find_any (w : World) (v u : Value) (l : PL) (k : List UInt8) (hv : PairsIs w v l) (hu : SliceIs w u k) (hl : l.length ≤ 1000000) :
    Calls Tryd.prog 8 #[v, u] w fun e w' => ∃ i : Int, e = .returned (.tuple #[.int .i64 i, .bool (getF l k).isSome]) ∧ w.grownBy w' none := by
  obtain ⟨a, cap, rfl⟩ := hv.shape
  obtain ⟨ka, kcap, rfl⟩ := hu.shape
  go_enter Tryd.func8, Tryd.ntmps8
  go_wp2_with fail
  go_loopw [6] (fun i wr => ∃ m : Nat, m ≤ l.length ∧ i = .int .i64 (m : Int) ∧ w.grownBy wr none ∧ ∀ j, j < m → (l.getD j ([], [])).1 ≠ k) (fun i _ => l.length - (intOf i).toNat)
  case atStart => exact ⟨0, by omega, rfl, grown_refl _ _, fun j hj => by omega⟩
  case round =>
    obtain ⟨m, hm, rfl, hgr, hne⟩ := hrel
    have HN : Hid (∀ j, j < m → (l.getD j ([], [])).1 ≠ k) := hne
    clear hne
    by_cases hlt : m < l.length
    · obtain ⟨b, o, rfl, hat⟩ := hv.at m hlt
      obtain ⟨vk, vv, c1, c2, s1, s2⟩ := hat.grown hgr
      have HG : Hid ((l.getD m ([], [])).1 = k → getF l k = some (l.getD m ([], [])).2) := get_at l k m hlt HN.out
      generalize hP : l.getD m ([], []) = P at *
      have HPm : Hid (l.getD m ([], []) = P) := hP
      have SB : Hid (Calls Tryd.prog 12 #[vk, .slice ka k.length kcap] wr fun e w' => e = .returned (.bool (decide (P.1 = k))) ∧ w' = wr) := same_any wr _ _ _ _ s1 (hu.grown hgr)
      obtain ⟨pa, pc, rfl⟩ := s1.shape
      clear s1 s2 hat hP
      have i1 : (m : Int) < (l.length : Int) := by omega
      go_wp2_with fail
      refine SB.out.mono ?_
      rintro e w2 ⟨rfl, rfl⟩
      by_cases he : P.1 = k
      · rw [decide_eq_true he]
        have HF : Hid ((getF l k).isSome = true) := by show _ = _; rw [HG.out he]; rfl
        go_wp2
        go_ret2
        exact ⟨(m : Int), by rw [HF.out]; rfl, hgr⟩
      · rw [decide_eq_false he]
        have HE : Hid (P.1 ≠ k) := he
        clear he
        go_wp2_with fail
        go_roundw
        case rel =>
          have hs : ∀ j, j < m + 1 → (l.getD j ([], [])).1 ≠ k := fun j hj => by
            by_cases hjm : j = m
            · subst hjm; rw [HPm.out]; exact HE.out
            · exact HN.out j (by omega)
          first
            | exact ⟨m + 1, by omega, by go_num, hgr, hs⟩
            | ((repeat apply Exists.intro); refine ⟨⟨m + 1, by omega, ?_, hgr, hs⟩, rfl⟩; go_num)
        case measure => simp [intOf]; omega
    · obtain rfl : m = l.length := by omega
      have HF : Hid ((getF l k).isSome = false) := by show _ = _; rw [get_none l k HN.out]; rfl
      go_wp2
      go_ret2
      exact ⟨0, by rw [HF.out]; rfl, hgr⟩
end Go.Proofs.YtdpoickggdgddabDoor
