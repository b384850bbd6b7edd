/-
  Texts of this proof, joined: ForkF, CheckC, CheckP, BitC, Group, BitP, PartC, Len16, PartP, TBitP, TForkP, TPairP, CmpB, TCCheck, TCheckP, PairSlice, Own.
-/
import Derived.Test.YtdpoickggdgddacDoorPart3
import Derived.Test.YtdpoickggdgddacDoorPart1
import Derived.Test.YtdpoickggdgddacDoorPart2
import Derived.Lib.Slices
import Derived.Lib.Small
import Derived.Lib.Walk
import Derived.Lib.BitFns
import Derived.Deep.RegionWith
import Derived.Handy
import Derived.Lib.BytesEntry
/-
  The bit at which pairs part is that of the first and the last one; its sides are a beginning and an end. No program is named.
-/
namespace Go.Proofs.YtdpoickggdgddacDoor
/-- How many stand on the left. -/
def sideN (l : PL) (b : Nat) : Nat := (l.takeWhile fun q => !kbit q.1 b).length
theorem minTo_least (l : PL) : ∀ m j, 0 < j → j < m → m ≤ l.length → minTo l m ≤ partK (l.getD 0 ([], [])).1 (l.getD j ([], [])).1
  | 0, j, _, h, _ => by omega
  | 1, j, h0, h, _ => by omega
  | m + 2, j, h0, h, hm => by
    rw [minTo]
    by_cases hlt : partK (l.getD 0 ([], [])).1 (l.getD (m + 1) ([], [])).1 < minTo l (m + 1)
    · rw [if_pos hlt]
      by_cases e : j = m + 1
      · subst e; exact Int.le_refl _
      · have := minTo_least l (m + 1) j h0 (by omega) (by omega); omega
    · rw [if_neg hlt]
      by_cases e : j = m + 1
      · subst e; omega
      · exact minTo_least l (m + 1) j h0 (by omega) (by omega)
/-- Ahead of it all are the same. -/
theorem fork_same {l : PL} (h : Tree l) (h2 : 2 ≤ l.length) (j : Nat) (hj : j < l.length) (b : Nat) (hb : b < (forkBit l).toNat) : kbit (l.getD 0 ([], [])).1 b = kbit (l.getD j ([], [])).1 b := by
  by_cases h0 : j = 0
  · subst h0; rfl
  · have hm := minTo_least l l.length j (by omega) hj (Nat.le_refl _)
    have hr := forkBit_range h h2
    rcases partK_spec (l.getD 0 ([], [])).1 (l.getD j ([], [])).1 with ⟨e, hs⟩ | ⟨m, e, hm1, hs, _⟩
    · exact hs b (by omega)
    · exact hs b (by unfold forkBit at hb; omega)
theorem fork_mono {l : PL} (h : Tree l) (h2 : 2 ≤ l.length) (i j : Nat) (hij : i < j) (hj : j < l.length) (hi : kbit (l.getD i ([], [])).1 (forkBit l).toNat = true) : kbit (l.getD j ([], [])).1 (forkBit l).toNat = true := by
  have hk := rises_step l h.rises i j hij hj
  have hp := part_pos h i j hij hj
  rcases partK_spec (l.getD i ([], [])).1 (l.getD j ([], [])).1 with ⟨e, _⟩ | ⟨m, e, hm, hs, hd⟩
  · omega
  · have hge : (forkBit l).toNat ≤ m := by
      by_cases hlt : m < (forkBit l).toNat
      · exact absurd ((fork_same h h2 i (by omega) m hlt).symm.trans (fork_same h h2 j hj m hlt)) hd
      · omega
    by_cases he : (forkBit l).toNat = m
    · rw [he]
      have := part_order _ _ m hs hd
      rw [this]; exact hk
    · rw [← hs _ (by omega)]; exact hi
/-- The first one has 0 there, the last one 1. -/
theorem fork_ends {l : PL} (h : Tree l) (h2 : 2 ≤ l.length) : kbit (l.getD 0 ([], [])).1 (forkBit l).toNat = false ∧ kbit (l.getD (l.length - 1) ([], [])).1 (forkBit l).toNat = true := by
  obtain ⟨j, hj1, hj2, hj3⟩ := minTo_at h l.length h2 (Nat.le_refl _)
  have hr := forkBit_range h h2
  have hk := rises_step l h.rises 0 j hj1 hj2
  rcases partK_spec (l.getD 0 ([], [])).1 (l.getD j ([], [])).1 with ⟨e, _⟩ | ⟨m, e, hm, hs, hd⟩
  · rw [← hj3] at e; unfold forkBit at hr; omega
  · have em : (forkBit l).toNat = m := by unfold forkBit; omega
    have ho := part_order _ _ m hs hd
    have hjt : kbit (l.getD j ([], [])).1 m = true := by rw [ho]; exact hk
    refine ⟨?_, ?_⟩
    · rw [em]
      cases hx : kbit (l.getD 0 ([], [])).1 m with
      | false => rfl
      | true => exact absurd (hx.trans hjt.symm) hd
    · by_cases hl : j = l.length - 1
      · rw [← hl, em]; exact hjt
      · exact fork_mono h h2 j (l.length - 1) (by omega) (by omega) (by rw [em]; exact hjt)
theorem fork_part {l : PL} (h : Tree l) (h2 : 2 ≤ l.length) : partK (l.getD 0 ([], [])).1 (l.getD (l.length - 1) ([], [])).1 = forkBit l := by
  have hr := forkBit_range h h2
  obtain ⟨e1, e2⟩ := fork_ends h h2
  rw [partK_of _ _ (forkBit l).toNat (by omega) (fun b hb => fork_same h h2 _ (by omega) b hb) (by rw [e1, e2]; simp)]
  omega
theorem side_le (l : PL) (b : Nat) : sideN l b ≤ l.length := by
  induction l with
  | nil => simp [sideN]
  | cons p r ih =>
    unfold sideN at ih ⊢
    rw [List.takeWhile_cons]
    cases h : kbit p.1 b with
    | false => simpa using ih
    | true => simp
theorem side_lt : ∀ (l : PL) (b j : Nat), j < sideN l b → kbit (l.getD j ([], [])).1 b = false
  | [], b, j, h => by simp [sideN] at h
  | p :: r, b, j, h => by
    cases hk : kbit p.1 b with
    | true => simp [sideN, hk] at h
    | false =>
      cases j with
      | zero => simpa using hk
      | succ j =>
        have := side_lt r b j (by unfold sideN at h ⊢; rw [List.takeWhile_cons_of_pos (p := fun q : Pr => !kbit q.1 b) (by simp [hk])] at h; simpa using h)
        simpa using this
theorem side_not : ∀ (l : PL) (b : Nat), sideN l b < l.length → kbit (l.getD (sideN l b) ([], [])).1 b = true
  | [], b, h => by simp at h
  | p :: r, b, h => by
    cases hk : kbit p.1 b with
    | true => simp [sideN, hk]
    | false =>
      have e : sideN (p :: r) b = sideN r b + 1 := by unfold sideN; rw [List.takeWhile_cons_of_pos (p := fun q : Pr => !kbit q.1 b) (by simp [hk])]; simp
      rw [e] at h ⊢
      have := side_not r b (by simpa using h)
      simpa using this
theorem bit_side {l : PL} (h : Tree l) (h2 : 2 ≤ l.length) (j : Nat) (hj : j < l.length) : kbit (l.getD j ([], [])).1 (forkBit l).toNat = decide (sideN l (forkBit l).toNat ≤ j) := by
  by_cases hlt : j < sideN l (forkBit l).toNat
  · rw [decide_eq_false (by omega)]; exact side_lt l _ j hlt
  · rw [decide_eq_true (by omega)]
    have h0 := side_not l (forkBit l).toNat (by omega)
    by_cases e : j = sideN l (forkBit l).toNat
    · rw [e]; exact h0
    · exact fork_mono h h2 _ j (by omega) hj h0
theorem side_range {l : PL} (h : Tree l) (h2 : 2 ≤ l.length) : 0 < sideN l (forkBit l).toNat ∧ sideN l (forkBit l).toNat < l.length := by
  obtain ⟨e1, e2⟩ := fork_ends h h2
  rw [bit_side h h2 0 (by omega)] at e1
  rw [bit_side h h2 _ (by omega)] at e2
  simp at e1 e2
  omega
theorem side_false {l : PL} (h : Tree l) (h2 : 2 ≤ l.length) : sideL l (forkBit l).toNat false = l.take (sideN l (forkBit l).toNat) := by
  have hs := side_range h h2
  have hb := fun j hj => bit_side h h2 j hj
  generalize (forkBit l).toNat = b at *
  generalize sideN l b = n at *
  have e : l = l.take n ++ l.drop n := (List.take_append_drop n l).symm
  rw [sideL]
  conv => lhs; rw [e]
  rw [List.filter_append, List.filter_eq_self.2, List.filter_eq_nil_iff.2, List.append_nil]
  · intro q hq
    obtain ⟨j, hj, rfl⟩ := List.mem_iff_getElem.1 hq
    have hjn : n + j < l.length := by simp at hj; omega
    rw [List.getElem_drop, show l[n + j] = l.getD (n + j) ([], []) by simp [hjn], hb _ hjn]
    simp
  · intro q hq
    obtain ⟨j, hj, rfl⟩ := List.mem_iff_getElem.1 hq
    have hjn : j < n := by simp at hj; omega
    rw [List.getElem_take, show l[j]'(by omega) = l.getD j ([], []) by simp [show j < l.length by omega], hb _ (by omega)]
    simp [hjn]
theorem side_true {l : PL} (h : Tree l) (h2 : 2 ≤ l.length) : sideL l (forkBit l).toNat true = l.drop (sideN l (forkBit l).toNat) := by
  have hs := side_range h h2
  have hb := fun j hj => bit_side h h2 j hj
  generalize (forkBit l).toNat = b at *
  generalize sideN l b = n at *
  have e : l = l.take n ++ l.drop n := (List.take_append_drop n l).symm
  rw [sideL]
  conv => lhs; rw [e]
  rw [List.filter_append, List.filter_eq_nil_iff.2, List.filter_eq_self.2, List.nil_append]
  · intro q hq
    obtain ⟨j, hj, rfl⟩ := List.mem_iff_getElem.1 hq
    have hjn : n + j < l.length := by simp at hj; omega
    rw [List.getElem_drop, show l[n + j] = l.getD (n + j) ([], []) by simp [hjn], hb _ hjn]
    simp
  · intro q hq
    obtain ⟨j, hj, rfl⟩ := List.mem_iff_getElem.1 hq
    have hjn : j < n := by simp at hj; omega
    rw [List.getElem_take, show l[j]'(by omega) = l.getD j ([], []) by simp [show j < l.length by omega], hb _ (by omega)]
    simp [hjn]
end Go.Proofs.YtdpoickggdgddacDoor

/-
  What path.Check must keep.
-/
namespace Go.Proofs.YtdpoickggdgddacDoor
open Go.RowKit
/-- path.Check keeps P2.1. -/
def CheckOK : Prop := ∀ (w : World) (a : Option Addr) (n cap : Nat), Calls Tryd.prog 16 #[.slice a n cap] w fun e w' => e = .returned (.int .i64 (keyFaultF n)) ∧ w.grownBy w' none
end Go.Proofs.YtdpoickggdgddacDoor

/-
  path.Check, as it landed, keeps P2.1.
-/
namespace Go.Proofs.YtdpoickggdgddacDoor
open Go.RowKit
theorem check_ok : CheckOK := by
  intro w a n cap
  by_cases h1 : 1 ≤ n
  · by_cases h2 : n ≤ 16
    · rw [keyFaultF, if_pos ⟨h1, h2⟩]
      have t1 : ¬ (n : Int) < 1 := by omega
      have t2 : ¬ (n : Int) > 16 := by omega
      go_enter Tryd.func16, Tryd.ntmps16
      go_wp2
      go_ret
      exact ⟨rfl, grown_refl _ _⟩
    · rw [keyFaultF, if_neg (by omega)]
      have t1 : ¬ (n : Int) < 1 := by omega
      have t2 : (n : Int) > 16 := by omega
      go_enter Tryd.func16, Tryd.ntmps16
      go_wp2
      go_ret
      exact ⟨rfl, grown_refl _ _⟩
  · rw [keyFaultF, if_neg (by omega)]
    have t1 : (n : Int) < 1 := by omega
    go_enter Tryd.func16, Tryd.ntmps16
    go_wp2
    go_ret
    exact ⟨rfl, grown_refl _ _⟩
end Go.Proofs.YtdpoickggdgddacDoor

/-
  What path.Bit must keep.
-/
namespace Go.Proofs.YtdpoickggdgddacDoor
open Go.RowKit
/-- path.Bit keeps P2.2. -/
def BitOK : Prop := ∀ (w : World) (v : Value) (bs : List UInt8) (i : Int), SliceIs w v bs → Calls Tryd.prog 12 #[v, .int .i64 i] w fun e w' => e = .returned (.tuple #[.bool (bitF bs i).1, .int .i64 (bitF bs i).2]) ∧ w.grownBy w' none
/-- path.Bit of a key. -/
theorem BitOK.of (hB : BitOK) (w : World) (v : Value) (k : List UInt8) (i : Nat) (hv : SliceIs w v k) (hk : 1 ≤ k.length ∧ k.length ≤ 16) (hi : i < 145) :
    Calls Tryd.prog 12 #[v, .int .i64 (i : Int)] w fun e w' => e = .returned (.tuple #[.bool (kbit k i), .int .i64 0]) ∧ w.grownBy w' none := by
  have := hB w v k i hv
  rw [bitF_ok k i hk hi] at this
  exact this
end Go.Proofs.YtdpoickggdgddacDoor

/-
  path.group, as it landed: the nine bits of a byte, as a number.
-/
namespace Go.Proofs.YtdpoickggdgddacDoor
open Go.RowKit
/-- The nine bits at a place. -/
def groupN (k : List UInt8) (p : Nat) : Nat := if p < k.length then 256 ||| (k.getD p 0).toNat else 0
theorem or_256 : ∀ c : Fin 256, 256 ||| c.val = 256 + c.val := by decide +kernel
theorem groupN_lt (k : List UInt8) (p : Nat) : groupN k p < 512 := by
  unfold groupN
  by_cases h : p < k.length
  · rw [if_pos h]
    have := or_256 ⟨(k.getD p 0).toNat, (k.getD p 0).toNat_lt⟩
    have := (k.getD p 0).toNat_lt
    simp only at *
    omega
  · rw [if_neg h]; decide
theorem kbit_group (k : List UInt8) (i : Nat) : kbit k i = (groupN k (i / 9)).testBit (8 - i % 9) := by
  unfold kbit groupN
  by_cases h : i / 9 < k.length
  · rw [if_pos h, if_pos h]
    by_cases h0 : i % 9 = 0
    · rw [if_pos h0, h0, Nat.testBit_or]
      simp
      left; decide
    · rw [if_neg h0, Nat.testBit_or, show Nat.testBit 256 (8 - i % 9) = false from ?_, Bool.false_or]
      have hj : 8 - i % 9 < 8 := by omega
      generalize 8 - i % 9 = j at hj
      revert hj; revert j; decide
  · rw [if_neg h, if_neg h]; simp
theorem wrap_u16 (x : Nat) (h : x < 65536) : IntKind.u16.wrap (x : Int) = (x : Int) := by
  rw [IntKind.wrap_u16]; omega
theorem or_u16 (x y : Nat) (hx : x < 65536) (hy : y < 65536) : bits .or .u16 (x : Int) (y : Int) = ((x ||| y : Nat) : Int) := by
  show IntKind.u16.wrap ((BitVec.ofInt 16 (x : Int) ||| BitVec.ofInt 16 (y : Int)).toNat : Int) = _
  rw [BitVec.ofInt_natCast, BitVec.ofInt_natCast, BitVec.toNat_or, BitVec.toNat_ofNat, BitVec.toNat_ofNat, Nat.mod_eq_of_lt (by omega), Nat.mod_eq_of_lt (by omega), wrap_u16]
  exact Nat.or_lt_two_pow (n := 16) hx hy
theorem xor_u16 (x y : Nat) (hx : x < 65536) (hy : y < 65536) : bits .xor .u16 (x : Int) (y : Int) = ((x ^^^ y : Nat) : Int) := by
  show IntKind.u16.wrap ((BitVec.ofInt 16 (x : Int) ^^^ BitVec.ofInt 16 (y : Int)).toNat : Int) = _
  rw [BitVec.ofInt_natCast, BitVec.ofInt_natCast, BitVec.toNat_xor, BitVec.toNat_ofNat, BitVec.toNat_ofNat, Nat.mod_eq_of_lt (by omega), Nat.mod_eq_of_lt (by omega), wrap_u16]
  exact Nat.xor_lt_two_pow (n := 16) hx hy
theorem and1_u16 (x : Nat) (hx : x < 65536) : bits .and .u16 (x : Int) 1 = ((x % 2 : Nat) : Int) := by
  show IntKind.u16.wrap ((BitVec.ofInt 16 (x : Int) &&& BitVec.ofInt 16 ((1 : Nat) : Int)).toNat : Int) = _
  rw [BitVec.ofInt_natCast, BitVec.ofInt_natCast, BitVec.toNat_and, BitVec.toNat_ofNat, BitVec.toNat_ofNat, Nat.mod_eq_of_lt (by omega), Nat.mod_eq_of_lt (by omega), Nat.and_one_is_mod, wrap_u16]
  omega
theorem group_any (w : World) (v : Value) (bs : List UInt8) (p : Nat) (hv : SliceIs w v bs) :
    Calls Tryd.prog 17 #[v, .int .i64 (p : Int)] w fun e w' => e = .returned (.int .u16 (groupN bs p)) ∧ w.grownBy w' none := by
  obtain ⟨a, cap, rfl, hc, hrest⟩ := hv
  by_cases hp : p < bs.length
  · rw [groupN, if_pos hp]
    rcases hrest with ⟨h0, _⟩ | ⟨b, o, rfl, hcell⟩
    · rw [h0] at hp; cases hp
    have t1 : ¬ (p : Int) ≥ (bs.length : Int) := by omega
    have c0 := hcell p hp
    go_enter Tryd.func17, Tryd.ntmps17
    go_wp2
    go_ret
    refine ⟨congrArg Ending.returned (congrArg (Value.int IntKind.u16) ?_), grown_refl _ _⟩
    have hb := (bs[p]).toNat_lt
    generalize (bs[p]).toNat = c at hb ⊢
    rw [wrap_u16 c (by omega), show (256 : Int) = ((256 : Nat) : Int) from rfl, or_u16 256 c (by omega) (by omega)]
  · rw [groupN, if_neg hp]
    have t1 : (p : Int) ≥ (bs.length : Int) := by omega
    go_enter Tryd.func17, Tryd.ntmps17
    go_wp2
    go_ret
    exact ⟨rfl, grown_refl _ _⟩
end Go.Proofs.YtdpoickggdgddacDoor

/-
  path.Bit, as it landed, keeps P2.2.
-/
namespace Go.Proofs.YtdpoickggdgddacDoor
open Go.RowKit
set_option maxRecDepth 100000 in
set_option maxHeartbeats 1000000 in
theorem bit_ok : BitOK := by
  intro w v bs i hv
  obtain ⟨a, cap, rfl, hc, hrest⟩ := hv
  have hv : SliceIs w (.slice a bs.length cap) bs := ⟨a, cap, rfl, hc, hrest⟩
  clear hrest
  by_cases hk : 1 ≤ bs.length ∧ bs.length ≤ 16
  · by_cases hi : 0 ≤ i ∧ i ≤ 144
    · rw [bitF, if_pos hk, if_pos hi]
      obtain ⟨n, rfl⟩ : ∃ n : Nat, i = (n : Int) := ⟨i.toNat, by omega⟩
      have t1 : ¬ (n : Int) < 0 := by omega
      have t2 : ¬ (n : Int) ≥ 145 := by omega
      go_enter Tryd.func12, Tryd.ntmps12
      go_wp2_with fail
      refine (check_ok _ _ _ _).mono ?_
      rintro e w1 ⟨rfl, hg1⟩
      rw [keyFaultF, if_pos hk]
      go_wp2_with fail
      refine (group_any _ _ _ (n / 9) (hv.grown hg1)).mono ?_
      rintro e w2 ⟨rfl, hg2⟩
      have hgn := groupN_lt bs (n / 9)
      have HB : Hid (kbit bs n = (groupN bs (n / 9)).testBit (8 - n % 9)) := kbit_group bs n
      generalize groupN bs (n / 9) = g at hgn HB ⊢
      have q1 : 0 ≤ (8 : Int) - (n : Int) % 9 := by omega
      go_wp2
      go_ret2
      refine ⟨?_, grown_trans hg1 hg2⟩
      have he : (g : Int) / 2 ^ (8 - n % 9) = ((g / 2 ^ (8 - n % 9) : Nat) : Int) := by simp
      have hlt : g / 2 ^ (8 - n % 9) < 65536 := Nat.lt_of_le_of_lt (Nat.div_le_self _ _) (by omega)
      rw [he, and1_u16 _ hlt, show kbit bs ((n : Int)).toNat = kbit bs n from rfl, HB.out, Nat.testBit_eq_decide_div_mod_eq]
      congr 4
      generalize g / 2 ^ (8 - n % 9) % 2 = x
      by_cases hx : x = 1
      · subst hx; rfl
      · have : ¬ (x : Int) = 1 := by omega
        simp [hx, this]
    · rw [bitF, if_pos hk, if_neg hi]
      go_enter Tryd.func12, Tryd.ntmps12
      go_wp2_with fail
      refine (check_ok _ _ _ _).mono ?_
      rintro e w1 ⟨rfl, hg1⟩
      rw [keyFaultF, if_pos hk]
      by_cases h0 : i < 0
      · go_wp2
        go_ret2
        exact ⟨rfl, hg1⟩
      · have h1 : i ≥ 145 := by omega
        go_wp2
        go_ret2
        exact ⟨rfl, hg1⟩
  · rw [bitF, if_neg hk]
    go_enter Tryd.func12, Tryd.ntmps12
    go_wp2_with fail
    refine (check_ok _ _ _ _).mono ?_
    rintro e w1 ⟨rfl, hg1⟩
    rw [keyFaultF, if_neg hk]
    go_wp2
    go_ret2
    exact ⟨rfl, hg1⟩
end Go.Proofs.YtdpoickggdgddacDoor

/-
  What path.Part must keep.
-/
namespace Go.Proofs.YtdpoickggdgddacDoor
open Go.RowKit
/-- path.Part keeps P2.3. -/
def PartOK : Prop := ∀ (w : World) (v u : Value) (a b : List UInt8), SliceIs w v a → SliceIs w u b → Calls Tryd.prog 10 #[v, u] w fun e w' => e = .returned (.tuple #[.int .i64 (partF a b).1, .int .i64 (partF a b).2]) ∧ w.grownBy w' none

/-- path.Part of two keys. -/
theorem PartOK.of (hP : PartOK) (w : World) (v u : Value) (a b : List UInt8) (hv : SliceIs w v a) (hu : SliceIs w u b) (ha : 1 ≤ a.length ∧ a.length ≤ 16) (hb : 1 ≤ b.length ∧ b.length ≤ 16) :
    Calls Tryd.prog 10 #[v, u] w fun e w' => e = .returned (.tuple #[.int .i64 (partK a b), .int .i64 0]) ∧ w.grownBy w' none := by
  have := hP w v u a b hv hu
  rw [partF_ok a b ha hb] at this
  exact this
end Go.Proofs.YtdpoickggdgddacDoor

/-
  math/bits.Len16: the library's own text, walked.
-/
namespace Go.Proofs.YtdpoickggdgddacDoor
open Go.RowKit
theorem tab_at (i : Int) (h0 : 0 ≤ i) (h1 : i ≤ 255) (h : i.toNat < Lib.len8tab.size) : ((Lib.len8tab[i.toNat]'h).toNat : Int) = (Lib.bitLen i.toNat : Int) := by
  rw [← Lib.len8_of i h0 h1]
  simp only [Lib.len8, ByteArray.getElem?_lt' _ _ h, Option.getD_some]
set_option maxHeartbeats 4000000 in
set_option maxRecDepth 100000 in
theorem len16_any (x : Int) (w : World) (h0 : 0 ≤ x) (h1 : x ≤ 65535) :
    Calls Tryd.prog 18 #[.int .u16 x] w fun e w' => e = .returned (.int .i64 (Lib.bitLen x.toNat)) ∧ w' = w := by
  have hs := Lib.len8tab_size
  by_cases hx : 256 ≤ x
  · have q : 0 ≤ x / 256 ∧ x / 256 < (Lib.len8tab.size : Int) := by omega
    have l := Lib.bitLen_le8' (x / 256) (by omega) (by omega)
    have s := Lib.bitLen_shift8 x.toNat (by omega) (by omega)
    have T := tab_at (x / 256) q.1 (by omega) (by omega)
    go_enter Tryd.func18, Tryd.ntmps18
    go_wp2
    go_ret
    refine ⟨congrArg Ending.returned (congrArg (Value.int IntKind.i64) ?_), rfl⟩
    have e : (x / 256).toNat = x.toNat / 256 := by omega
    rw [e]
    omega
  · have q : 0 ≤ x ∧ x < (Lib.len8tab.size : Int) := by omega
    have l := Lib.bitLen_le8' x (by omega) (by omega)
    have T := tab_at x q.1 (by omega) (by omega)
    go_enter Tryd.func18, Tryd.ntmps18
    go_wp2
    go_ret
    exact ⟨rfl, rfl⟩
theorem bitLen_512 : ∀ n : Fin 512, n.val ≠ 0 → 1 ≤ Lib.bitLen n.val ∧ Lib.bitLen n.val ≤ 9 ∧ n.val.testBit (Lib.bitLen n.val - 1) = true ∧ ∀ j : Fin 9, Lib.bitLen n.val ≤ j.val → n.val.testBit j.val = false := by decide +kernel
end Go.Proofs.YtdpoickggdgddacDoor

/-
  path.Part, as it landed, keeps P2.3.
-/
namespace Go.Proofs.YtdpoickggdgddacDoor
open Go.RowKit
/-- Where two groups differ first. -/
theorem part_group (a b : List UInt8) (p : Nat) (hp : p < 16) (h : ∀ q, q < p → groupN a q = groupN b q) (hd : groupN a p ^^^ groupN b p ≠ 0) :
    partK a b = ((9 * p + 9 - Lib.bitLen (groupN a p ^^^ groupN b p) : Nat) : Int) ∧ 1 ≤ Lib.bitLen (groupN a p ^^^ groupN b p) ∧ Lib.bitLen (groupN a p ^^^ groupN b p) ≤ 9 := by
  have hlt : groupN a p ^^^ groupN b p < 512 := Nat.xor_lt_two_pow (n := 9) (groupN_lt a p) (groupN_lt b p)
  obtain ⟨h1, h2, h3, h4⟩ := bitLen_512 ⟨_, hlt⟩ hd
  simp only at h1 h2 h3 h4
  generalize hL : Lib.bitLen (groupN a p ^^^ groupN b p) = L at h1 h2 h3 h4
  refine ⟨partK_of a b _ (by omega) (fun j hj => ?_) ?_, h1, h2⟩
  · rw [kbit_group, kbit_group]
    by_cases hjp : j / 9 < p
    · rw [h _ hjp]
    · have e : j / 9 = p := by omega
      have := h4 ⟨8 - j % 9, by omega⟩ (by simp only; omega)
      simp only [Nat.testBit_xor] at this
      rw [e]
      revert this
      cases (groupN a p).testBit (8 - j % 9) <;> cases (groupN b p).testBit (8 - j % 9) <;> simp
  · rw [kbit_group, kbit_group, show (9 * p + 9 - L) / 9 = p by omega, show 8 - (9 * p + 9 - L) % 9 = L - 1 by omega]
    rw [Nat.testBit_xor] at h3
    intro e
    rw [e] at h3
    simp at h3
theorem part_none (a b : List UInt8) (h : ∀ q, q < max a.length b.length → groupN a q = groupN b q) : partK a b = -1 := by
  refine partK_none a b fun j _ => ?_
  rw [kbit_group, kbit_group]
  by_cases hj : j / 9 < max a.length b.length
  · rw [h _ hj]
  · rw [groupN, if_neg (by omega), groupN, if_neg (by omega)]
theorem xor_ne (x y : Nat) (h : x ^^^ y = 0) : x = y := by
  apply Nat.eq_of_testBit_eq
  intro i
  have := congrArg (·.testBit i) h
  simp only [Nat.testBit_xor, Nat.zero_testBit] at this
  revert this
  cases x.testBit i <;> cases y.testBit i <;> simp
set_option maxRecDepth 100000 in
set_option maxHeartbeats 1000000 in
theorem part_ok : PartOK := by
  intro w v u a b hv hu
  obtain ⟨va, vcap, rfl, hvc, hvr⟩ := hv
  have hv : SliceIs w (.slice va a.length vcap) a := ⟨va, vcap, rfl, hvc, hvr⟩
  obtain ⟨ua, ucap, rfl, huc, hur⟩ := hu
  have hu : SliceIs w (.slice ua b.length ucap) b := ⟨ua, ucap, rfl, huc, hur⟩
  clear hvr hur
  by_cases ha : 1 ≤ a.length ∧ a.length ≤ 16
  · by_cases hb : 1 ≤ b.length ∧ b.length ≤ 16
    · rw [partF, if_pos ha, if_pos hb]
      go_enter Tryd.func10, Tryd.ntmps10
      go_wp2_with fail
      refine (check_ok _ _ _ _).mono ?_
      rintro e w1 ⟨rfl, hg1⟩
      rw [keyFaultF, if_pos ha]
      go_wp2_with fail
      refine (check_ok _ _ _ _).mono ?_
      rintro e w2 ⟨rfl, hg2⟩
      rw [keyFaultF, if_pos hb]
      have hg := grown_trans hg1 hg2
      have hv2 := hv.grown hg
      have hu2 := hu.grown hg
      obtain ⟨M, hM⟩ : ∃ M : Nat, M = max a.length b.length := ⟨_, rfl⟩
      have hM16 : M ≤ 16 := by omega
      have HMi : Hid (max (a.length : Int) (b.length : Int) = (M : Int)) := by show max (a.length : Int) (b.length : Int) = (M : Int); omega
      have HM : Hid (M = max a.length b.length) := hM
      clear hv hu hg1 hg2 hM
      go_wp2_with fail
      rw [HMi.out]
      go_loopw [21] (fun iv wr => ∃ m : Nat, m ≤ M ∧ iv = .int .i64 (m : Int) ∧ w2.grownBy wr none ∧ ∀ q, q < m → groupN a q = groupN b q) (fun iv _ => M - (intOf iv).toNat)
      case atStart => exact ⟨0, by omega, rfl, grown_refl _ _, fun j hj => by omega⟩
      case round =>
        obtain ⟨m, hm, rfl, hgr, hsame⟩ := hrel
        have HSame : Hid (∀ j, j < m → groupN a j = groupN b j) := hsame
        have hgw := grown_trans hg hgr
        have hvr := hv2.grown hgr
        have hur := hu2.grown hgr
        clear hsame
        by_cases hlt : m < M
        · have t1 : (m : Int) < (M : Int) := by omega
          go_wp2_with fail
          refine (group_any _ _ _ m hvr).mono ?_
          rintro e w3 ⟨rfl, hg3⟩
          go_wp2_with fail
          refine (group_any _ _ _ m (hur.grown hg3)).mono ?_
          rintro e w4 ⟨rfl, hg4⟩
          have hx := xor_u16 (groupN a m) (groupN b m) (Nat.lt_trans (groupN_lt a m) (by decide)) (Nat.lt_trans (groupN_lt b m) (by decide))
          have hxl : groupN a m ^^^ groupN b m < 512 := Nat.xor_lt_two_pow (n := 9) (groupN_lt a m) (groupN_lt b m)
          by_cases h0 : groupN a m ^^^ groupN b m = 0
          · have HE : Hid (groupN a m = groupN b m) := xor_ne _ _ h0
            rw [h0] at hx
            go_wp2_with fail
            go_roundw
            case rel =>
              have hs : ∀ j, j < m + 1 → groupN a j = groupN b j := fun j hj => by
                by_cases hjm : j = m
                · subst hjm; exact HE.out
                · exact HSame.out j (by omega)
              first
                | exact ⟨m + 1, by omega, by go_num, grown_trans hgr (grown_trans hg3 hg4), hs⟩
                | ((repeat apply Exists.intro); refine ⟨⟨m + 1, by omega, ?_, grown_trans hgr (grown_trans hg3 hg4), hs⟩, rfl⟩; go_num)
            case measure => simp [intOf]; omega
          · obtain ⟨hP, hL1, hL2⟩ := part_group a b m (by omega) HSame.out h0
            have HP : Hid (partK a b = _) := hP
            clear hP
            generalize groupN a m ^^^ groupN b m = x at *
            have hx0 : ((x : Int) != 0) = true := by simp; omega
            go_wp2_with fail
            refine (len16_any (x : Int) _ (by omega) (by omega)).mono ?_
            rintro e w5 ⟨rfl, rfl⟩
            rw [show ((x : Int)).toNat = x from rfl]
            generalize Lib.bitLen x = L at *
            go_wp2
            go_ret2
            refine ⟨?_, grown_trans hgw (grown_trans hg3 hg4)⟩
            rw [HP.out, show ((9 * m + 9 - L : Nat) : Int) = (m : Int) * 9 + 9 - (L : Int) by omega]
            rfl
        · obtain rfl : m = M := by omega
          have HP : Hid (partK a b = -1) := part_none a b (by rw [← HM.out]; exact HSame.out)
          go_wp2
          go_ret2
          exact ⟨by rw [HP.out]; rfl, hgw⟩
    · rw [partF, if_pos ha, if_neg hb]
      go_enter Tryd.func10, Tryd.ntmps10
      go_wp2_with fail
      refine (check_ok _ _ _ _).mono ?_
      rintro e w1 ⟨rfl, hg1⟩
      rw [keyFaultF, if_pos ha]
      go_wp2_with fail
      refine (check_ok _ _ _ _).mono ?_
      rintro e w2 ⟨rfl, hg2⟩
      rw [keyFaultF, if_neg hb]
      go_wp2
      go_ret2
      exact ⟨rfl, grown_trans hg1 hg2⟩
  · rw [partF, if_neg ha]
    go_enter Tryd.func10, Tryd.ntmps10
    go_wp2_with fail
    refine (check_ok _ _ _ _).mono ?_
    rintro e w1 ⟨rfl, hg1⟩
    rw [keyFaultF, if_neg ha]
    go_wp2
    go_ret2
    exact ⟨rfl, hg1⟩
end Go.Proofs.YtdpoickggdgddacDoor

/-
  The closure of tree.fork, and sort.Search, as they landed.
-/
namespace Go.Proofs.YtdpoickggdgddacDoor
open Go.RowKit
theorem Tree.key {l : PL} (h : Tree l) (j : Nat) (hj : j < l.length) : 1 ≤ (l.getD j ([], [])).1.length ∧ (l.getD j ([], [])).1.length ≤ 16 := by
  have := (h.pairs l[j] (List.getElem_mem hj)).1
  simpa [hj] using this
set_option maxRecDepth 100000 in
set_option maxHeartbeats 1000000 in
theorem bitAt_any (w : World) (lb bb : Nat) (a : Option Addr) (cap : Nat) (l : PL) (b i : Nat) (hl : w.cell? ⟨lb, 0, none⟩ = some (.slice a l.length cap)) (hb : w.cell? ⟨bb, 0, none⟩ = some (.int .i64 (b : Int))) (hv : PairsIs w (.slice a l.length cap) l) (hT : Tree l) (hi : i < l.length) (hb145 : b < 145) :
    Calls Tryd.prog 27 #[.int .i64 (i : Int), .pointer (some ⟨lb, 0, none⟩), .pointer (some ⟨bb, 0, none⟩)] w fun e w' => e = .returned (.bool (kbit (l.getD i ([], [])).1 b)) ∧ w.grownBy w' none := by
  obtain ⟨pb, po, rfl, hat⟩ := hv.at i hi
  obtain ⟨vk, vv, c1, c2, s1, s2⟩ := hat
  have hk := hT.key i hi
  have BT : Hid (Calls Tryd.prog 12 #[vk, .int .i64 (b : Int)] w.drew fun e w' => e = .returned (.tuple #[.bool (kbit (l.getD i ([], [])).1 b), .int .i64 0]) ∧ w.drew.grownBy w' none) := BitOK.of bit_ok w.drew vk _ b s1.drew hk hb145
  generalize kbit (l.getD i ([], [])).1 b = z at *
  have t1 : (i : Int) < (l.length : Int) := by omega
  have hgd := grown_drew (grown_refl w none)
  obtain ⟨ka, kc, rfl⟩ := s1.shape
  generalize l.getD i ([], []) = P at *
  clear s1 s2 c2 hv hT
  go_enter Tryd.func27, Tryd.ntmps27
  go_wp2_with fail
  go_region_with (go_at_call 12; refine BT.out.mono ?_; rintro e w1 ⟨rfl, hg1⟩)
  all_goals
    go_wp2
    go_ret
    exact ⟨rfl, grown_trans hgd hg1⟩
set_option maxRecDepth 100000 in
set_option maxHeartbeats 1000000 in
theorem search_any (w : World) (lb bb : Nat) (a : Option Addr) (cap : Nat) (l : PL) (b n : Nat) (hl : w.cell? ⟨lb, 0, none⟩ = some (.slice a l.length cap)) (hb : w.cell? ⟨bb, 0, none⟩ = some (.int .i64 (b : Int))) (hv : PairsIs w (.slice a l.length cap) l) (hT : Tree l) (hb145 : b < 145)
    (hn : n ≤ l.length) (hbit : ∀ j, j < l.length → kbit (l.getD j ([], [])).1 b = decide (n ≤ j)) :
    Calls Tryd.prog 26 #[.int .i64 (l.length : Int), .func (.func 27) #[] #[.pointer (some ⟨lb, 0, none⟩), .pointer (some ⟨bb, 0, none⟩)]] w fun e w' => e = .returned (.int .i64 (n : Int)) ∧ w.grownBy w' none := by
  have CL : Hid (∀ (w' : World) (i : Nat), w.grownBy w' none → i < l.length → Calls Tryd.prog 27 #[.int .i64 (i : Int), .pointer (some ⟨lb, 0, none⟩), .pointer (some ⟨bb, 0, none⟩)] w' fun e w'' => e = .returned (.bool (decide (n ≤ i))) ∧ w'.grownBy w'' none) := fun w' i hg hi => by
    have := bitAt_any w' lb bb a cap l b i (hg.cell hl (by simp)) (hg.cell hb (by simp)) (hv.grown hg) hT hi hb145
    rw [hbit i hi] at this
    exact this
  have hroom := hT.room
  clear hl hb hv hT hbit
  go_enter Tryd.func26, Tryd.ntmps26
  go_wp2_with fail
  go_loopw [5, 6] (fun si sj wr => ∃ i j : Nat, i ≤ n ∧ n ≤ j ∧ j ≤ l.length ∧ si = .int .i64 (i : Int) ∧ sj = .int .i64 (j : Int) ∧ w.grownBy wr none) (fun si sj _ => (intOf sj).toNat - (intOf si).toNat)
  case atStart => exact ⟨0, l.length, by omega, hn, by omega, rfl, rfl, grown_refl _ _⟩
  case round =>
    obtain ⟨i, j, hi, hj, hjl, rfl, rfl, hgr⟩ := hrel
    by_cases hlt : i < j
    · have t1 : (i : Int) < (j : Int) := by omega
      obtain ⟨h, hh⟩ : ∃ h : Nat, ((i : Int) + (j : Int)) / 2 = (h : Int) := ⟨(i + j) / 2, by omega⟩
      have b1 : i ≤ h := by omega
      have b2 : h < j := by omega
      have CH : Hid (Calls Tryd.prog 27 #[.int .i64 (h : Int), .pointer (some ⟨lb, 0, none⟩), .pointer (some ⟨bb, 0, none⟩)] wr fun e w'' => e = .returned (.bool (decide (n ≤ h))) ∧ wr.grownBy w'' none) := CL.out wr h hgr (by omega)
      go_wp2_with fail
      refine CH.out.mono ?_
      rintro e w1 ⟨rfl, hg1⟩
      have hgw := grown_trans hgr hg1
      by_cases hz : n ≤ h
      · rw [decide_eq_true hz]
        go_wp2_with fail
        go_roundw
        case rel =>
          first
            | exact ⟨i, h, by omega, by omega, by omega, rfl, rfl, hgw⟩
            | ((repeat apply Exists.intro); refine ⟨⟨i, h, by omega, by omega, by omega, rfl, ?_, hgw⟩, rfl⟩; go_num)
        case measure => simp [intOf]; omega
      · rw [decide_eq_false hz]
        go_wp2_with fail
        go_roundw
        case rel =>
          first
            | exact ⟨h + 1, j, by omega, by omega, by omega, by go_num, rfl, hgw⟩
            | ((repeat apply Exists.intro); refine ⟨⟨h + 1, j, by omega, by omega, by omega, ?_, rfl, hgw⟩, rfl⟩; go_num)
        case measure => simp [intOf]; omega
    · obtain rfl : i = n := by omega
      obtain rfl : j = i := by omega
      go_wp2
      go_ret
      exact ⟨rfl, hgr⟩
end Go.Proofs.YtdpoickggdgddacDoor

/-
  tree.fork, as it landed.
-/
namespace Go.Proofs.YtdpoickggdgddacDoor
open Go.RowKit
theorem one_cell {w : World} {b : Nat} {x : Value} {t : TypeId} (h : w.heap[b]? = some (.cells #[x] t)) : w.cell? ⟨b, 0, none⟩ = some x := by simp [World.cell?, h]
theorem one_free {w : World} {b : Nat} {x : Value} {t : TypeId} (h : w.heap[b]? = some (.cells #[x] t)) : w.frozen? ⟨b, 0, none⟩ = false := by simp [World.frozen?, h]
theorem one_set {w : World} {b : Nat} {x : Value} {t : TypeId} (h : w.heap[b]? = some (.cells #[x] t)) (u : Value) : (w.setCell ⟨b, 0, none⟩ u).heap[b]? = some (.cells #[u] t) := by
  simp only [World.setCell, Array.getElem?_modify, if_true, h, Option.map_some]
  first | rfl | simp
set_option maxRecDepth 100000 in
set_option maxHeartbeats 1000000 in
theorem fork_any (w : World) (v : Value) (l : PL) (hv : PairsIs w v l) (hT : Tree l) (h2 : 2 ≤ l.length) :
    Calls Tryd.prog 21 #[v] w fun e w' => e = .returned (.tuple #[.int .i64 (forkBit l), .int .i64 (sideN l (forkBit l).toNat : Int), .int .i64 0]) ∧ w.grownBy w' none := by
  obtain ⟨a, cap, rfl⟩ := hv.shape
  have hr := forkBit_range hT h2
  have hpart := fork_part hT h2
  have hsr := side_range hT h2
  have hbit := fun j hj => bit_side hT h2 j hj
  have hroom := hT.room
  obtain ⟨b, hb⟩ : ∃ b : Nat, forkBit l = (b : Int) := ⟨(forkBit l).toNat, by omega⟩
  rw [hb] at hpart hsr hbit ⊢
  rw [Int.toNat_natCast] at hsr hbit ⊢
  have hb145 : b < 145 := by omega
  generalize sideN l b = n at *
  obtain ⟨m, hm⟩ : ∃ m, l.length = m + 1 := ⟨l.length - 1, by omega⟩
  rw [show l.length - 1 = m by omega] at hpart
  obtain ⟨W1, hW1⟩ : ∃ W1 : World, W1 = (w.alloc (.cells #[.slice a l.length cap] 31)).alloc (.cells #[.int .i64 0] 3) := ⟨_, rfl⟩
  have hgW : w.grownBy W1 none := by rw [hW1]; exact grown_alloc (World.grownBy_alloc _ _ _) _
  have HW1 : Hid (W1 = (w.alloc (.cells #[.slice a l.length cap] 31)).alloc (.cells #[.int .i64 0] 3)) := hW1
  have d1 : W1.drew.cell? ⟨w.heap.size, 0, none⟩ = some (.slice a l.length cap) := by rw [hW1]; simp
  have d2 : Hid (W1.heap[w.heap.size + 1]? = some (.cells #[.int .i64 0] 3)) := by
    have := heap_alloc_new (w.alloc (.cells #[.slice a l.length cap] 31)) (.cells #[.int .i64 0] 3)
    rw [World.size_alloc] at this
    rw [hW1]; exact this
  obtain ⟨pb, po, rfl, hat0⟩ := hv.at 0 (by omega)
  obtain ⟨pb2, po2, e, hatm⟩ := hv.at m (by omega)
  cases e
  have hpb : pb < w.heap.size := by obtain ⟨_, _, c, _⟩ := hat0; exact cell_lt c
  obtain ⟨vk, vv, c1, _, s1, _⟩ := hat0.grown (grown_drew hgW)
  obtain ⟨uk, uv, c2, _, s2, _⟩ := hatm.grown (grown_drew hgW)
  rw [Nat.zero_mul, Nat.add_zero] at c1
  have PT : Hid (Calls Tryd.prog 10 #[vk, uk] W1.drew fun e w' => e = .returned (.tuple #[.int .i64 (b : Int), .int .i64 0]) ∧ W1.drew.grownBy w' none) := by
    have := PartOK.of part_ok W1.drew vk uk _ _ s1 s2 (hT.key 0 (by omega)) (hT.key m (by omega))
    rw [hpart] at this
    exact this
  obtain ⟨ka, kc, rfl⟩ := s1.shape
  obtain ⟨ua, uc, rfl⟩ := s2.shape
  generalize (l.getD 0 ([], [])).1.length = k0 at *
  generalize (l.getD m ([], [])).1.length = km at *
  have i0 : (0 : Int) < (l.length : Int) := by omega
  have i1 : (m : Int) < (l.length : Int) := by omega
  have i2 : IntKind.i64.wrap ((l.length : Int) - 1) = (m : Int) := by rw [IntKind.wrap_i64]; omega
  have HBT : Hid (∀ j, j < l.length → kbit (l.getD j ([], [])).1 b = decide (n ≤ j)) := hbit
  have hgd := grown_drew hgW
  have hm1 : m + 1 ≤ l.length := by omega
  have hm2 : l.length ≤ m + 1 := by omega
  clear hpart hbit hW1 s1 s2 hat0 hatm hb hr hm
  have HV : Hid (PairsIs w (.slice (some ⟨pb, po, none⟩) l.length cap) l) := hv
  have HT : Hid (Tree l) := hT
  clear hv hT
  generalize hL : l.length = L at *
  have HL : Hid (l.length = L) := hL
  clear hL
  have i0' : 0 < L := by omega
  go_enter Tryd.func21, Tryd.ntmps21
  go_wp2_with fail
  rw [← HW1.out]
  go_region_held3 (fun w' => w'.cell? ⟨w.heap.size, 0, none⟩ = some (.slice (some ⟨pb, po, none⟩) L cap) ∧ w'.cell? ⟨pb, po, none⟩ = some (.slice ka k0 kc) ∧ w'.cell? ⟨pb, po + m * 2, none⟩ = some (.slice ua km uc))
    (first | exact ⟨d1, c1, c2⟩ | exact ⟨f1, f2, f3⟩ | exact ⟨(World.cell?_setCell_other _ _ _ _ (by simp)).trans f1, (World.cell?_setCell_other _ _ _ _ (by first | (simp; done) | (simp; omega))).trans f2, (World.cell?_setCell_other _ _ _ _ (by first | (simp; done) | (simp; omega))).trans f3⟩)
    (first | (go_at_call 10; refine PT.out.mono ?_; rintro e w1 ⟨rfl, hg1⟩; have f1 := hg1.cell d1 (by simp); have f2 := hg1.cell c1 (by simp); have f3 := hg1.cell c2 (by simp); have g0 := pair_old hg1 d2.out; have g1 : w1.cell? ⟨w.heap.size + 1, 0, none⟩ = some (.int .i64 0) := one_cell g0; have g2 : w1.frozen? ⟨w.heap.size + 1, 0, none⟩ = false := one_free g0))
  have hgw := grown_trans hgd hg1
  have k1 : (w1.setCell ⟨w.heap.size + 1, 0, none⟩ (.int .i64 (b : Int))).cell? ⟨w.heap.size, 0, none⟩ = some (.slice (some ⟨pb, po, none⟩) L cap) := (World.cell?_setCell_other _ _ _ _ (by simp)).trans f1
  have k2 : (w1.setCell ⟨w.heap.size + 1, 0, none⟩ (.int .i64 (b : Int))).cell? ⟨w.heap.size + 1, 0, none⟩ = some (.int .i64 (b : Int)) := World.cell?_setCell_same' _ _ _ (by rw [g1]; rfl)
  have hgs : w.grownBy (w1.setCell ⟨w.heap.size + 1, 0, none⟩ (.int .i64 (b : Int))) none := grown_setNew hgw _ (by omega) _ _
  have SE : Hid (Calls Tryd.prog 26 #[.int .i64 (L : Int), .func (.func 27) #[] #[.pointer (some ⟨w.heap.size, 0, none⟩), .pointer (some ⟨w.heap.size + 1, 0, none⟩)]] (w1.setCell ⟨w.heap.size + 1, 0, none⟩ (.int .i64 (b : Int))) fun e w' => e = .returned (.int .i64 (n : Int)) ∧ (w1.setCell ⟨w.heap.size + 1, 0, none⟩ (.int .i64 (b : Int))).grownBy w' none) := by
    have := search_any (w1.setCell ⟨w.heap.size + 1, 0, none⟩ (.int .i64 (b : Int))) w.heap.size (w.heap.size + 1) (some ⟨pb, po, none⟩) cap l b n (by rw [HL.out]; exact k1) k2 (by rw [HL.out]; exact HV.out.grown hgs) HT.out hb145 (by rw [HL.out]; omega) (by rw [HL.out]; exact HBT.out)
    rw [HL.out] at this
    exact this
  have BK : Hid ((w1.setCell ⟨w.heap.size + 1, 0, none⟩ (.int .i64 (b : Int))).heap[w.heap.size + 1]? = some (.cells #[.int .i64 (b : Int)] 3)) := one_set g0 _
  obtain ⟨W2, hW2⟩ : ∃ W2 : World, W2 = w1.setCell ⟨w.heap.size + 1, 0, none⟩ (.int .i64 (b : Int)) := ⟨_, rfl⟩
  rw [← hW2] at SE BK hgs k1 k2
  have HW2 : Hid (W2 = w1.setCell ⟨w.heap.size + 1, 0, none⟩ (.int .i64 (b : Int))) := hW2
  clear hW2 g0 g1 g2 f1 f2 f3 c1 c2 d1 hgd hgw hg1 PT
  have e1 : (w1.setCell ⟨w.heap.size + 1, 0, none⟩ (.int .i64 (b : Int))).cell? ⟨w.heap.size, 0, none⟩ = some (.slice (some ⟨pb, po, none⟩) L cap) := by rw [← HW2.out]; exact k1
  go_wp2_with fail
  rw [← HW2.out]
  refine SE.out.mono ?_
  rintro e w3 ⟨rfl, hg3⟩
  have g0 := pair_old hg3 BK.out
  have g1 := one_cell g0
  have g2 := one_free g0
  have g3 := one_cell (one_set g0 (.int .i64 (b : Int)))
  go_wp2
  refine bodyPost_ret (v := .tuple #[.int .i64 (b : Int), .int .i64 (n : Int), .int .i64 0]) (by simp [results, Tryd.results21, go_sem, g3]) rfl ?_
  exact ⟨rfl, grown_setNew (grown_trans hgs hg3) _ (by omega) _ _⟩
end Go.Proofs.YtdpoickggdgddacDoor

/-
  tree.checkPair and tree.checkWith, as they landed.
-/
namespace Go.Proofs.YtdpoickggdgddacDoor
open Go.RowKit
theorem checkPair_any (w : World) (ak av : Option Addr) (p : Pr) (ck cv : Nat) :
    Calls Tryd.prog 19 #[.agg #[.slice ak p.1.length ck, .slice av p.2.length cv]] w fun e w' => e = .returned (.int .i64 (pairFaultF p)) ∧ w.grownBy w' none := by
  by_cases h : 32 < p.2.length
  · rw [pairFaultF, if_pos h]
    have t1 : (p.2.length : Int) > 32 := by omega
    go_enter Tryd.func19, Tryd.ntmps19
    go_wp2
    go_ret
    exact ⟨rfl, World.grownBy_alloc _ _ _⟩
  · rw [pairFaultF, if_neg h]
    have t1 : ¬ (p.2.length : Int) > 32 := by omega
    have CK : Hid CheckOK := check_ok
    go_enter Tryd.func19, Tryd.ntmps19
    go_wp2_with fail
    refine (CK.out _ _ _ _).mono ?_
    rintro e w1 ⟨rfl, hg1⟩
    go_wp2
    go_ret
    exact ⟨rfl, grown_trans (World.grownBy_alloc _ _ _) hg1⟩
end Go.Proofs.YtdpoickggdgddacDoor

/-
  The walk of bytes.Compare, over two slices as they are handed over.
-/
namespace Go.Proofs.YtdpoickggdgddacDoor
open Go.RowKit
/-- -1, 0 or 1. -/
def cmpF (a b : List UInt8) : Int := if klt a b = true then -1 else if a = b then 0 else 1
theorem cmp_klt : ∀ a b : List UInt8, Lib.compareBytes a b = cmpF a b
  | [], [] => rfl
  | [], y :: b => by
    have h : klt [] (y :: b) = true := by
      cases h : klt [] (y :: b) with
      | true => rfl
      | false => have := klt_total _ _ h (by simp); rw [klt_nil] at this; cases this
    rw [cmpF, if_pos h]; rfl
  | x :: a, [] => by rw [cmpF, if_neg (by rw [klt_nil]; simp), if_neg (by simp)]; rfl
  | x :: a, y :: b => by
    have ih := cmp_klt a b
    rw [Lib.compareBytes, ih]
    unfold cmpF
    rw [klt_cons]
    by_cases h1 : x < y
    · simp [h1]
    · by_cases h2 : y < x
      · have h3 : x ≠ y := by intro e; subst e; exact h1 h2
        simp [h1, h2, h3]
      · have h3 : x = y := by
          have e1 := UInt8.not_lt.1 h1
          have e2 := UInt8.not_lt.1 h2
          exact UInt8.le_antisymm e2 e1
        subst h3
        simp [h1]
theorem cmpF_lt (a b : List UInt8) (h : klt a b = true) : cmpF a b = -1 := by rw [cmpF, if_pos h]
theorem cmpF_eq (a : List UInt8) : cmpF a a = 0 := by rw [cmpF, if_neg (by rw [klt_irrefl]; simp), if_pos rfl]
theorem cmpF_gt (a b : List UInt8) (h : klt a b = false) (hne : a ≠ b) : cmpF a b = 1 := by rw [cmpF, if_neg (by rw [h]; simp), if_neg hne]
theorem cmpF_range (a b : List UInt8) : -1 ≤ cmpF a b ∧ cmpF a b ≤ 1 := by
  unfold cmpF
  by_cases h1 : klt a b = true
  · rw [if_pos h1]; omega
  · rw [if_neg h1]
    by_cases h2 : a = b
    · rw [if_pos h2]; omega
    · rw [if_neg h2]; omega
theorem cmpF_neg (a b : List UInt8) : decide (cmpF a b < 0) = klt a b := by
  cases h : klt a b with
  | true => rw [cmpF_lt a b h]; rfl
  | false =>
    by_cases h2 : a = b
    · subst h2; rw [cmpF_eq]; rfl
    · rw [cmpF_gt a b h h2]; rfl
theorem cmpF_zero (a b : List UInt8) : (cmpF a b == 0) = decide (a = b) := by
  by_cases h2 : a = b
  · subst h2; rw [cmpF_eq]; simp
  · cases h : klt a b with
    | true => rw [cmpF_lt a b h]; simp [h2]
    | false => rw [cmpF_gt a b h h2]; simp [h2]
theorem run_bytesOf (w : World) (v : Value) (a : List UInt8) (h : SliceIs w v a) : (Extern.Bytes.bytesOf v).run Tryd.prog w = .ok ⟨a.toArray⟩ w := by
  obtain ⟨ad, cap, rfl, hc, h⟩ := h
  have key : ∀ x : Addr, (∀ j y, (a.map fun c => (c.toNat : Int))[j]? = some y → w.cell? (x.add j) = some (.int .u8 y)) → (Extern.Bytes.bytesOf (.slice (some x) a.length cap)).run Tryd.prog w = .ok ⟨a.toArray⟩ w := by
    intro x hx
    have hl := Lib.run_loadBytesX (P := Tryd.prog) w (a.map fun c => (c.toNat : Int)) x .empty hx
    rw [List.length_map] at hl
    have e : (⟨ByteArray.empty.data ++ (Lib.bytesOf (a.map fun c => (c.toNat : Int))).toArray⟩ : ByteArray) = ⟨a.toArray⟩ := by
      apply ByteArray.ext
      show (#[] : Array UInt8) ++ (Lib.bytesOf (a.map fun c => (c.toNat : Int))).toArray = a.toArray
      simp only [Lib.bytesOf, List.map_map, Array.empty_append, Array.mk.injEq]
      congr 1
      exact (List.map_congr_left fun c _ => by simp).trans (List.map_id a)
    rw [e] at hl
    simpa only [Extern.Bytes.bytesOf] using hl
  rcases h with ⟨rfl, h⟩ | ⟨b, o, rfl, h⟩
  · cases ad with
    | none => rfl
    | some x => exact key x fun j y hy => by simp at hy
  · refine key ⟨b, o, none⟩ fun j y hy => ?_
    rw [List.getElem?_map] at hy
    cases hj : a[j]? with
    | none => rw [hj] at hy; simp at hy
    | some c =>
      rw [hj] at hy
      simp at hy
      subst hy
      have hlt : j < a.length := (List.getElem?_eq_some_iff.1 hj).1
      rw [addr_add, h j hlt]
      simp [hj]
theorem run_compare (w : World) (v u : Value) (a b : List UInt8) (hv : SliceIs w v a) (hu : SliceIs w u b) :
    (Extern.BytealgCompare.compare #[v, u]).run Tryd.prog w = .ok (.int .i64 (cmpF a b)) w := by
  change Sem.run Tryd.prog (do pure (goInt (Extern.BytealgCompare.cmp (← Extern.Bytes.bytesOf v) (← Extern.Bytes.bytesOf u)))) w = _
  simp only [Sem.run_bind, Sem.run_pure, run_bytesOf w v a hv, run_bytesOf w u b hu, Result.andThen]
  rw [Lib.cmp_eq, cmp_klt]
  rfl
set_option maxRecDepth 100000 in
set_option maxHeartbeats 1000000 in
theorem compare_any (w : World) (v u : Value) (a b : List UInt8) (hv : SliceIs w v a) (hu : SliceIs w u b) :
    Calls Tryd.prog 20 #[v, u] w fun e w' => e = .returned (.int .i64 (cmpF a b)) ∧ w' = w := by
  have hrun := run_compare w v u a b hv hu
  obtain ⟨va, vc, rfl⟩ : ∃ x c, v = .slice x a.length c := by obtain ⟨x, c, e, _⟩ := hv; exact ⟨x, c, e⟩
  obtain ⟨ua, uc, rfl⟩ : ∃ x c, u = .slice x b.length c := by obtain ⟨x, c, e, _⟩ := hu; exact ⟨x, c, e⟩
  have HR : Hid ((Extern.BytealgCompare.compare #[.slice va a.length vc, .slice ua b.length uc]).run Tryd.prog w = .ok (.int .i64 (cmpF a b)) w) := hrun
  clear hrun hv hu
  go_enter Tryd.func20, Tryd.ntmps20
  go_wp2
  rw [run_callFunc_extern Tryd.func25 (by kernel_rfl) (by kernel_rfl) (by kernel_rfl) (e := Extern.BytealgCompare.compare) (by kernel_rfl), HR.out]
  simp only [Result.andThen]
  rw [Oper.upon_value]
  go_wp2
  go_ret
  exact ⟨rfl, rfl⟩
end Go.Proofs.YtdpoickggdgddacDoor

/-
  What tree.Check must keep.
-/
namespace Go.Proofs.YtdpoickggdgddacDoor
open Go.RowKit
/-- tree.Check keeps P3.1. -/
def TCheckOK : Prop := ∀ (w : World) (v : Value) (l : PL), PairsIs w v l → Fits l → Calls Tryd.prog 13 #[v] w fun e w' => e = .returned (.int .i64 (pairsFaultF l)) ∧ w.grownBy w' none
end Go.Proofs.YtdpoickggdgddacDoor

/-
  tree.Check, as it landed, keeps P3.1.
-/
namespace Go.Proofs.YtdpoickggdgddacDoor
open Go.RowKit
set_option maxRecDepth 100000 in
set_option maxHeartbeats 1000000 in
theorem tcheck_ok : TCheckOK := by
  intro w v l hv hl
  obtain ⟨a, cap, rfl⟩ := hv.shape
  have hll := hl.len
  by_cases h60 : 60 < l.length
  · rw [pairsFault_long l h60]
    have t1 : (l.length : Int) > 60 := by omega
    go_enter Tryd.func13, Tryd.ntmps13
    go_wp2
    go_ret
    exact ⟨rfl, grown_refl _ _⟩
  · have t1 : ¬ (l.length : Int) > 60 := by omega
    go_enter Tryd.func13, Tryd.ntmps13
    go_wp2_with fail
    go_loopw [11] (fun i wr => ∃ m : Nat, m ≤ l.length ∧ i = .int .i64 (m : Int) ∧ w.grownBy wr none ∧ ∀ j, j < m → faultAt l j = 0) (fun i _ => l.length - (intOf i).toNat)
    case atStart => exact ⟨0, by omega, rfl, grown_refl _ _, fun j hj => by omega⟩
    case round =>
      obtain ⟨m, hm, rfl, hgr, hok⟩ := hrel
      have HOK : Hid (∀ j, j < m → faultAt l j = 0) := hok
      clear hok
      by_cases hlt : m < l.length
      · obtain ⟨b, o, rfl, hat⟩ := hv.at m hlt
        obtain ⟨vk, vv, c1, c2, s1, s2⟩ := hat.grown hgr
        generalize hP : l.getD m ([], []) = P at s1 s2
        have HA : Hid (faultAt l m = if pairFaultF P = 0 then (if 0 < m ∧ klt (l.getD (m - 1) ([], [])).1 P.1 = false then 3 else 0) else pairFaultF P) := by
          show _ = _
          unfold faultAt
          rw [hP]
        obtain ⟨ak, ck, rfl, hck, hrk⟩ := s1
        obtain ⟨av, cv, rfl, hcv, hrv⟩ := s2
        have s1 : SliceIs wr (.slice ak P.1.length ck) P.1 := ⟨ak, ck, rfl, hck, hrk⟩
        clear hrk hrv hat hP
        have i1 : (m : Int) < (l.length : Int) := by omega
        go_wp2_with fail
        have hga : wr.grownBy (wr.alloc (.cells #[.slice ak P.1.length ck, .slice av P.2.length cv] 27)) none := World.grownBy_alloc _ _ _
        refine (checkPair_any _ _ _ P _ _).mono ?_
        rintro e w1 ⟨rfl, hg1⟩
        have hg2 := grown_trans hga hg1
        obtain ⟨cA, _, _, _⟩ := pair_room hg1 (heap_alloc_new wr (.cells #[.slice ak P.1.length ck, .slice av P.2.length cv] 27))
        by_cases hf : pairFaultF P = 0
        · rw [hf]
          have s1 := s1.grown hg2
          have hgw := grown_trans hgr hg2
          clear c1 c2
          by_cases h0 : m = 0
          · subst h0
            have HZ : Hid (faultAt l 0 = 0) := by show _ = _; rw [HA.out, if_pos hf, if_neg (by simp)]
            go_wp2_with fail
            go_quiet (fail)
            all_goals go_wp2_with fail
            go_roundw
            case rel =>
              have hs : ∀ j, j < 0 + 1 → faultAt l j = 0 := fun j hj => by
                obtain rfl : j = 0 := by omega
                exact HZ.out
              exact ⟨1, by omega, rfl, grown_drewN hgw _, hs⟩
            case measure => simp [intOf]; omega
          · obtain ⟨n, rfl⟩ : ∃ n, m = n + 1 := ⟨m - 1, by omega⟩
            obtain ⟨b2, o2, e, hat⟩ := hv.at n (by omega)
            cases e
            obtain ⟨qk, qv, d1, d2, r1, r2⟩ := hat.grown hgw
            clear d2 r2 hat
            have HA2 : Hid (faultAt l (n + 1) = if klt (l.getD n ([], [])).1 P.1 = false then 3 else 0) := by
              show _ = _
              rw [HA.out, if_pos hf]
              simp
            generalize (l.getD n ([], [])).1 = q at *
            have i0 : IntKind.i64.wrap (n : Int) = (n : Int) := by rw [IntKind.wrap_i64]; omega
            have R1 : Hid (SliceIs w1 qk q) := r1
            have S1 : Hid (SliceIs w1 (.slice ak P.1.length ck) P.1) := s1
            have i2 : (n : Int) < (l.length : Int) := by omega
            have i3 : ((n + 1 : Nat) : Int) > 0 := by omega
            have hcr := cmpF_neg q P.1
            have CM : Hid (∀ k, Calls Tryd.prog 20 #[qk, .slice ak P.1.length ck] (w1.drewN k) fun e w' => e = .returned (.int .i64 (cmpF q P.1)) ∧ w' = w1.drewN k) := fun k => compare_any _ _ _ _ _ (R1.out.drewN k) (S1.out.drewN k)
            generalize cmpF q P.1 = z at *
            have HCR : Hid (decide (z < 0) = klt q P.1) := hcr
            clear s1 r1 hcr
            go_wp2_with fail
            go_quiet (first | (go_at_call 20; exact Calls.quiet_of_same (CM.out _)))
            cases hk : klt q P.1 with
            | true =>
              have HZ : Hid (faultAt l (n + 1) = 0) := by show _ = _; rw [HA2.out, hk]; simp
              have hz : z < 0 := by have := HCR.out; rw [hk] at this; simpa using this
              clear hk
              go_wp2_with fail
              go_roundw
              case rel =>
                have hs : ∀ j, j < n + 1 + 1 → faultAt l j = 0 := fun j hj => by
                  by_cases hjm : j = n + 1
                  · subst hjm; exact HZ.out
                  · exact HOK.out j (by omega)
                first
                  | exact ⟨n + 1 + 1, by omega, by go_num, grown_drewN hgw _, hs⟩
                  | ((repeat apply Exists.intro); refine ⟨⟨n + 1 + 1, by omega, ?_, grown_drewN hgw _, hs⟩, rfl⟩; go_num)
              case measure => simp [intOf]; omega
            | false =>
              have HZ : Hid (pairsFaultF l = 3) := by
                have e : faultAt l (n + 1) = 3 := by rw [HA2.out, hk]; simp
                show _ = _
                rw [← e]
                exact pairsFault_at l (n + 1) hlt (by omega) HOK.out (by rw [e]; decide)
              have hz : 0 ≤ z := by have := HCR.out; rw [hk] at this; simpa using this
              clear hk
              go_wp2
              go_ret
              exact ⟨by rw [HZ.out]; rfl, grown_drewN hgw _⟩
        · have HF : Hid (pairsFaultF l = pairFaultF P) := by
            have e : faultAt l m = pairFaultF P := by rw [HA.out, if_neg hf]
            show _ = _
            rw [← e]
            exact pairsFault_at l m hlt (by omega) HOK.out (by rw [e]; exact hf)
          generalize pairFaultF P = z at *
          have hz : (z != 0) = true := by simpa using hf
          go_wp2
          go_ret
          exact ⟨by rw [HF.out]; rfl, grown_trans hgr hg2⟩
      · obtain rfl : m = l.length := by omega
        have HP : Hid (pairsFaultF l = 0) := pairsFault_none l (by omega) HOK.out
        go_wp2
        go_ret
        exact ⟨by rw [HP.out]; rfl, hgr⟩
end Go.Proofs.YtdpoickggdgddacDoor

/-
  Pieces of a list of pairs: l[:n], l[m:], l[i:j].
-/
namespace Go.Proofs.YtdpoickggdgddacDoor
open Go.RowKit
theorem sizePair (w : World) : (sizeOf (Tryd.prog.elem 31)).run Tryd.prog w = .ok 2 w := by kernel_rfl
theorem PairsIs.sliced {w : World} {a : Option Addr} {cap : Nat} {l : PL} (h : PairsIs w (.slice a l.length cap) l) (i j : Nat) (hij : i ≤ j) (hj : j ≤ l.length) : PairsIs w (Go.sliced a i j cap 2) ((l.take j).drop i) := by
  obtain ⟨a', cap', e, hc, h⟩ := h
  simp only [Value.slice.injEq, true_and] at e
  obtain ⟨rfl, rfl⟩ := e
  have hlen : ((l.take j).drop i).length = j - i := by simp; omega
  refine ⟨if cap = i then a else a.map (·.add (i * 2)), cap - i, by rw [hlen]; rfl, by rw [hlen]; omega, ?_⟩
  by_cases hci : cap = i
  · left
    exact ⟨List.eq_nil_of_length_eq_zero (by rw [hlen]; omega), fun _ => by omega⟩
  · rw [if_neg hci]
    rcases h with ⟨rfl, h⟩ | ⟨b, o, rfl, h⟩
    · left
      refine ⟨by simp, fun e => ?_⟩
      cases a with
      | none => have := h rfl; simp at hj; omega
      | some x => cases e
    · right
      refine ⟨b, o + i * 2, by simp [addr_add], fun k hk => ?_⟩
      rw [hlen] at hk
      have := h (i + k) (by omega)
      have e : ((l.take j).drop i).getD k ([], []) = l.getD (i + k) ([], []) := by simp [show i + k < j by omega]
      rw [e, show o + i * 2 + k * 2 = o + (i + k) * 2 by omega]
      exact this
theorem pslice_h (a : Option Addr) (cap : Nat) (l : PL) (n : Nat) (hn : n ≤ l.length) (hc : l.length ≤ cap) : ∃ a1 c1, (∀ W, (Instr.slice 31 (.slice a l.length cap) none (some (.int .i64 (n : Int))) none).run Tryd.prog W = .ok (.slice a1 n c1) W) ∧ ∀ W, PairsIs W (.slice a l.length cap) l → PairsIs W (.slice a1 n c1) (l.take n) := by
  refine ⟨if cap = 0 then a else a.map (·.add (0 * 2)), cap - 0, fun W => ?_, fun W h => ?_⟩
  · rw [run_slice_h _ _ _ _ _ (by kernel_rfl) _ _ (by omega) (by omega), sizePair]
    simp only [Result.andThen, Go.sliced, Int.toNat_natCast, Nat.sub_zero]
  · have := h.sliced 0 n (by omega) hn
    simpa only [Go.sliced, List.drop_zero, Nat.sub_zero] using this
theorem pslice_l (a : Option Addr) (cap : Nat) (l : PL) (n : Nat) (hn : n ≤ l.length) : ∃ a1 c1, (∀ W, (Instr.slice 31 (.slice a l.length cap) (some (.int .i64 (n : Int))) none none).run Tryd.prog W = .ok (.slice a1 (l.length - n) c1) W) ∧ ∀ W, PairsIs W (.slice a l.length cap) l → PairsIs W (.slice a1 (l.length - n) c1) (l.drop n) := by
  refine ⟨if cap = n then a else a.map (·.add (n * 2)), cap - n, fun W => ?_, fun W h => ?_⟩
  · rw [run_slice_l _ _ _ _ _ (by kernel_rfl) _ _ (by omega) (by omega), sizePair]
    simp only [Result.andThen, Go.sliced, Int.toNat_natCast]
  · have := h.sliced n l.length hn (Nat.le_refl _)
    simpa only [Go.sliced, List.take_length] using this
theorem pslice_lh (a : Option Addr) (cap : Nat) (l : PL) (i j : Nat) (hij : i ≤ j) (hj : j ≤ l.length) (hc : l.length ≤ cap) : ∃ a1 c1, (∀ W, (Instr.slice 31 (.slice a l.length cap) (some (.int .i64 (i : Int))) (some (.int .i64 (j : Int))) none).run Tryd.prog W = .ok (.slice a1 (j - i) c1) W) ∧ ∀ W, PairsIs W (.slice a l.length cap) l → PairsIs W (.slice a1 (j - i) c1) ((l.take j).drop i) := by
  refine ⟨if cap = i then a else a.map (·.add (i * 2)), cap - i, fun W => ?_, fun W h => ?_⟩
  · rw [run_slice_lh _ _ _ _ _ (by kernel_rfl) _ _ _ _ (by omega) (by omega) (by omega), sizePair]
    simp only [Result.andThen, Go.sliced, Int.toNat_natCast]
  · have := h.sliced i j hij hj
    simpa only [Go.sliced] using this
theorem PairsIs.cap {w : World} {a : Option Addr} {n cap : Nat} {l : PL} (h : PairsIs w (.slice a n cap) l) : l.length ≤ cap := by
  obtain ⟨a', cap', e, hc, _⟩ := h
  simp only [Value.slice.injEq] at e
  obtain ⟨_, _, rfl⟩ := e
  exact hc
end Go.Proofs.YtdpoickggdgddacDoor

/-
  Slices of bytes that the call itself has made: what append leaves; a prefix of a slice.
-/
namespace Go.Proofs.YtdpoickggdgddacDoor
open Go.RowKit

end Go.Proofs.YtdpoickggdgddacDoor
