import Derived.WalkKit
namespace Go.Proofs.YtpefggkhjocanaaDoor
/-- A bit of a key. -/
def kbit (k : List UInt8) (i : Nat) : Bool := if i / 9 < k.length then (if i % 9 = 0 then true else (k.getD (i / 9) 0).toNat.testBit (8 - i % 9)) else false
theorem kbit_head (k : List UInt8) (p : Nat) : kbit k (9 * p) = decide (p < k.length) := by
  unfold kbit
  rw [show 9 * p / 9 = p by omega, show 9 * p % 9 = 0 by omega]
  by_cases h : p < k.length <;> simp [h]
theorem kbit_byte (k : List UInt8) (p r : Nat) (hp : p < k.length) (hr : 1 ≤ r) (hr8 : r ≤ 8) : kbit k (9 * p + r) = (k.getD p 0).toNat.testBit (8 - r) := by
  unfold kbit
  rw [show (9 * p + r) / 9 = p by omega, show (9 * p + r) % 9 = r by omega, if_pos hp, if_neg (by omega)]
theorem kbit_past (k : List UInt8) (i : Nat) (h : k.length ≤ i / 9) : kbit k i = false := by
  unfold kbit
  rw [if_neg (by omega)]
theorem byte_ext (x y : UInt8) (h : ∀ j, j < 8 → x.toNat.testBit j = y.toNat.testBit j) : x = y := by
  apply UInt8.toNat_inj.1
  apply Nat.eq_of_testBit_eq
  intro j
  by_cases hj : j < 8
  · exact h j hj
  · rw [Nat.testBit_lt_two_pow (Nat.lt_of_lt_of_le x.toNat_lt (Nat.pow_le_pow_right (by decide) (by omega : 8 ≤ j))), Nat.testBit_lt_two_pow (Nat.lt_of_lt_of_le y.toNat_lt (Nat.pow_le_pow_right (by decide) (by omega : 8 ≤ j)))]
/-- A key's bits tell the key. -/
theorem bits_tell (a b : List UInt8) (ha : a.length ≤ 16) (hb : b.length ≤ 16) (h : ∀ i, i < 145 → kbit a i = kbit b i) : a = b := by
  have hl : a.length = b.length := by
    have h1 := h (9 * a.length) (by omega)
    have h2 := h (9 * b.length) (by omega)
    rw [kbit_head, kbit_head] at h1 h2
    simp at h1 h2
    omega
  apply List.ext_getElem hl
  intro p h1 h2
  have e : a.getD p 0 = b.getD p 0 := by
    apply byte_ext
    intro j hj
    have := h (9 * p + (8 - j)) (by omega)
    rw [kbit_byte a p _ h1 (by omega) (by omega), kbit_byte b p _ h2 (by omega) (by omega), show 8 - (8 - j) = j by omega] at this
    exact this
  simpa [h1, h2] using e
/-- The first bit at which two keys differ, from i on. -/
def partFrom (a b : List UInt8) : Nat → Nat → Int
  | 0, _ => -1
  | n + 1, i => if kbit a i = kbit b i then partFrom a b n (i + 1) else (i : Int)
def partK (a b : List UInt8) : Int := partFrom a b 145 0
theorem partFrom_spec (a b : List UInt8) (n i : Nat) : (partFrom a b n i = -1 ∧ ∀ j, i ≤ j → j < i + n → kbit a j = kbit b j) ∨ ∃ m : Nat, partFrom a b n i = (m : Int) ∧ i ≤ m ∧ m < i + n ∧ (∀ j, i ≤ j → j < m → kbit a j = kbit b j) ∧ kbit a m ≠ kbit b m := by
  induction n generalizing i with
  | zero => exact .inl ⟨rfl, fun j _ h => by omega⟩
  | succ n ih =>
    unfold partFrom
    by_cases he : kbit a i = kbit b i
    · rw [if_pos he]
      rcases ih (i + 1) with ⟨h1, h2⟩ | ⟨m, h1, h2, h3, h4, h5⟩
      · refine .inl ⟨h1, fun j hj hj2 => ?_⟩
        by_cases hji : j = i
        · subst hji; exact he
        · exact h2 j (by omega) (by omega)
      · refine .inr ⟨m, h1, by omega, by omega, fun j hj hj2 => ?_, h5⟩
        by_cases hji : j = i
        · subst hji; exact he
        · exact h4 j (by omega) hj2
    · rw [if_neg he]
      exact .inr ⟨i, rfl, Nat.le_refl _, by omega, fun j h1 h2 => by omega, he⟩
theorem partK_spec (a b : List UInt8) : (partK a b = -1 ∧ ∀ j, j < 145 → kbit a j = kbit b j) ∨ ∃ m : Nat, partK a b = (m : Int) ∧ m < 145 ∧ (∀ j, j < m → kbit a j = kbit b j) ∧ kbit a m ≠ kbit b m := by
  rcases partFrom_spec a b 145 0 with ⟨h1, h2⟩ | ⟨m, h1, _, h3, h4, h5⟩
  · exact .inl ⟨h1, fun j hj => h2 j (by omega) (by omega)⟩
  · exact .inr ⟨m, h1, by omega, fun j hj => h4 j (by omega) hj, h5⟩
theorem partK_of (a b : List UInt8) (m : Nat) (hm : m < 145) (h : ∀ j, j < m → kbit a j = kbit b j) (hd : kbit a m ≠ kbit b m) : partK a b = (m : Int) := by
  rcases partK_spec a b with ⟨_, h2⟩ | ⟨m', h1, h2, h3, h4⟩
  · exact absurd (h2 m hm) hd
  · by_cases hlt : m' < m
    · exact absurd (h m' hlt) h4
    · by_cases hgt : m < m'
      · exact absurd (h3 m hgt) hd
      · rw [h1]; omega
theorem partK_none (a b : List UInt8) (h : ∀ j, j < 145 → kbit a j = kbit b j) : partK a b = -1 := by
  rcases partK_spec a b with ⟨h1, _⟩ | ⟨m', _, h2, _, h4⟩
  · exact h1
  · exact absurd (h m' h2) h4
theorem partK_range (a b : List UInt8) : -1 ≤ partK a b ∧ partK a b ≤ 144 := by
  rcases partK_spec a b with ⟨h, _⟩ | ⟨m, h, hm, _⟩ <;> omega
theorem partK_comm (a b : List UInt8) : partK a b = partK b a := by
  rcases partK_spec a b with ⟨h1, h2⟩ | ⟨m, h1, h2, h3, h4⟩
  · rw [h1, partK_none b a fun j hj => (h2 j hj).symm]
  · rw [h1, partK_of b a m h2 (fun j hj => (h3 j hj).symm) (fun e => h4 e.symm)]
theorem partK_same (a b : List UInt8) (ha : a.length ≤ 16) (hb : b.length ≤ 16) : partK a b < 0 ↔ a = b := by
  constructor
  · intro h
    rcases partK_spec a b with ⟨_, h2⟩ | ⟨m, h1, _⟩
    · exact bits_tell a b ha hb h2
    · omega
  · rintro rfl
    rw [partK_none a a fun _ _ => rfl]; decide
/-- Of three keys two part first, or no sooner than the others. -/
theorem part_three (a b c : List UInt8) (x y z : Nat) (hx : partK a b = (x : Int)) (hy : partK b c = (y : Int)) (hz : partK a c = (z : Int)) : min x y ≤ z ∧ (x = y ∨ z = min x y) := by
  rcases partK_spec a b with ⟨e, _⟩ | ⟨x', e, hx1, hx2, hx3⟩
  · omega
  obtain rfl : x' = x := by omega
  rcases partK_spec b c with ⟨e2, _⟩ | ⟨y', e2, hy1, hy2, hy3⟩
  · omega
  obtain rfl : y' = y := by omega
  rcases partK_spec a c with ⟨e3, _⟩ | ⟨z', e3, hz1, hz2, hz3⟩
  · omega
  obtain rfl : z' = z := by omega
  constructor
  · by_cases h : min x' y' ≤ z'
    · exact h
    · exact absurd ((hx2 z' (by omega)).trans (hy2 z' (by omega))) hz3
  · by_cases he : x' = y'
    · exact .inl he
    · right
      by_cases hlt : x' < y'
      · have hd : kbit a x' ≠ kbit c x' := fun e => hx3 (e.trans (hy2 x' hlt).symm)
        have : ¬ x' < z' := fun h => hd (hz2 x' h)
        have : ¬ z' < x' := fun h => hz3 ((hx2 z' h).trans (hy2 z' (by omega)))
        omega
      · have hd : kbit a y' ≠ kbit c y' := fun e => hy3 ((hx2 y' (by omega)).symm.trans e)
        have : ¬ y' < z' := fun h => hd (hz2 y' h)
        have : ¬ z' < y' := fun h => hz3 ((hx2 z' (by omega)).trans (hy2 z' h))
        omega
theorem less_cons (x y : UInt8) (a b : List UInt8) : Op.bytesLess (x :: a) (y :: b) = (decide (x < y) || (x == y && Op.bytesLess a b)) := by
  simp [Op.bytesLess]
theorem less_drop : ∀ (p : Nat) (a b : List UInt8), (∀ i, i < p → i < a.length ∧ i < b.length ∧ a.getD i 0 = b.getD i 0) → Op.bytesLess a b = Op.bytesLess (a.drop p) (b.drop p)
  | 0, a, b, _ => by simp
  | p + 1, [], b, h => by have := (h 0 (by omega)).1; simp at this
  | p + 1, x :: a, [], h => by have := (h 0 (by omega)).2.1; simp at this
  | p + 1, x :: a, y :: b, h => by
    have h0 := (h 0 (by omega)).2.2
    simp at h0
    subst h0
    rw [less_cons, List.drop_succ_cons, List.drop_succ_cons, ← less_drop p a b fun i hi => by
      have := h (i + 1) (by omega)
      simp at this
      simpa using this]
    simp
theorem less_nil (a : List UInt8) : Op.bytesLess a [] = false := by cases a <;> rfl
theorem drop_head (a : List UInt8) (p : Nat) (h : p < a.length) : a.drop p = a.getD p 0 :: a.drop (p + 1) := by
  rw [List.drop_eq_getElem_cons h]; simp [h]
theorem lt_of_bit (x y j : Nat) (hx : x.testBit j = false) (hy : y.testBit j = true) (h : ∀ i, j < i → x.testBit i = y.testBit i) : x < y := by
  have hq : x / 2 ^ (j + 1) = y / 2 ^ (j + 1) := by
    apply Nat.eq_of_testBit_eq
    intro i
    rw [Nat.testBit_div_two_pow, Nat.testBit_div_two_pow]
    exact h _ (by omega)
  rw [Nat.testBit_eq_decide_div_mod_eq] at hx hy
  simp at hx hy
  rw [Nat.pow_succ, ← Nat.div_div_eq_div_mul, ← Nat.div_div_eq_div_mul] at hq
  exact Nat.lt_of_div_lt_div (c := 2 ^ j) (by omega)
theorem byte_less (x y : UInt8) (j : Nat) (hd : x.toNat.testBit j ≠ y.toNat.testBit j) (h : ∀ i, j < i → x.toNat.testBit i = y.toNat.testBit i) : (decide (x < y) || (x == y && false)) = y.toNat.testBit j := by
  cases hy : y.toNat.testBit j with
  | true =>
    have hx : x.toNat.testBit j = false := by
      cases hx : x.toNat.testBit j with
      | true => exact absurd (hx.trans hy.symm) hd
      | false => rfl
    have := lt_of_bit _ _ j hx hy h
    simp [UInt8.lt_iff_toNat_lt, this]
  | false =>
    have hx : x.toNat.testBit j = true := by
      cases hx : x.toNat.testBit j with
      | true => rfl
      | false => exact absurd (hx.trans hy.symm) hd
    have := lt_of_bit _ _ j hy hx (fun i hi => (h i hi).symm)
    simp [UInt8.lt_iff_toNat_lt]
    omega
/-- Of two keys that part the one with 0 there stands first. -/
theorem part_order (a b : List UInt8) (m : Nat) (h : ∀ j, j < m → kbit a j = kbit b j) (hd : kbit a m ≠ kbit b m) : kbit b m = Op.bytesLess a b := by
  have hone : m / 9 < a.length ∨ m / 9 < b.length := by
    by_cases h1 : m / 9 < a.length
    · exact .inl h1
    · by_cases h2 : m / 9 < b.length
      · exact .inr h2
      · rw [kbit_past a m (by omega), kbit_past b m (by omega)] at hd
        exact absurd rfl hd
  have hpre : ∀ i, i < m / 9 → i < a.length ∧ i < b.length ∧ a.getD i 0 = b.getD i 0 := by
    intro i hi
    have hh := h (9 * i) (by omega)
    rw [kbit_head, kbit_head] at hh
    have hl : i < a.length ∧ i < b.length := by simp at hh; omega
    refine ⟨hl.1, hl.2, byte_ext _ _ fun j hj => ?_⟩
    have := h (9 * i + (8 - j)) (by omega)
    rw [kbit_byte a i _ hl.1 (by omega) (by omega), kbit_byte b i _ hl.2 (by omega) (by omega), show 8 - (8 - j) = j by omega] at this
    exact this
  rw [less_drop (m / 9) a b hpre]
  by_cases hr : m % 9 = 0
  · have em : m = 9 * (m / 9) := by omega
    have ha := kbit_head a (m / 9)
    have hb := kbit_head b (m / 9)
    rw [← em] at ha hb
    by_cases hlb : m / 9 < b.length
    · have hla : ¬ m / 9 < a.length := fun hla => hd (by rw [ha, hb]; simp [hla, hlb])
      rw [hb, List.drop_eq_nil_of_le (by omega), drop_head b _ hlb]
      simp [hlb, Op.bytesLess]
    · rw [hb, List.drop_eq_nil_of_le (show b.length ≤ m / 9 by omega), less_nil]
      simp [hlb]
  · have hh := h (9 * (m / 9)) (by omega)
    rw [kbit_head, kbit_head] at hh
    have hl : m / 9 < a.length ∧ m / 9 < b.length := by simp at hh; omega
    have em : m = 9 * (m / 9) + m % 9 := by omega
    have ha := kbit_byte a (m / 9) (m % 9) hl.1 (by omega) (by omega)
    have hb := kbit_byte b (m / 9) (m % 9) hl.2 (by omega) (by omega)
    rw [← em] at ha hb
    rw [drop_head a _ hl.1, drop_head b _ hl.2, less_cons, hb]
    rw [ha, hb] at hd
    have hne : (a.getD (m / 9) 0 == b.getD (m / 9) 0) = false := by
      rw [beq_eq_false_iff_ne]
      intro e
      rw [e] at hd
      exact hd rfl
    rw [hne, Bool.false_and]
    have := byte_less (a.getD (m / 9) 0) (b.getD (m / 9) 0) (8 - m % 9) hd (fun i hi => by
      by_cases hi8 : i < 8
      · have := h (9 * (m / 9) + (8 - i)) (by omega)
        rw [kbit_byte a _ _ hl.1 (by omega) (by omega), kbit_byte b _ _ hl.2 (by omega) (by omega), show 8 - (8 - i) = i by omega] at this
        exact this
      · rw [Nat.testBit_lt_two_pow (Nat.lt_of_lt_of_le (a.getD (m / 9) 0).toNat_lt (Nat.pow_le_pow_right (by decide) (by omega : 8 ≤ i))), Nat.testBit_lt_two_pow (Nat.lt_of_lt_of_le (b.getD (m / 9) 0).toNat_lt (Nat.pow_le_pow_right (by decide) (by omega : 8 ≤ i)))])
    rw [Bool.and_false] at this
    exact this.symm
/-- What is wrong with a key. -/
def keyFaultF (n : Nat) : Int := if 1 ≤ n ∧ n ≤ 16 then 0 else 1
/-- The document's bit of a key. -/
def bitF (k : List UInt8) (i : Int) : Bool × Int := if 1 ≤ k.length ∧ k.length ≤ 16 then (if 0 ≤ i ∧ i ≤ 144 then (kbit k i.toNat, 0) else (false, 2)) else (false, 1)
/-- Where two keys part. -/
def partF (a b : List UInt8) : Int × Int := if 1 ≤ a.length ∧ a.length ≤ 16 then (if 1 ≤ b.length ∧ b.length ≤ 16 then (partK a b, 0) else (0, 1)) else (0, 1)

theorem partFrom_split (a b : List UInt8) (i : Nat) (hi : i ≤ 145) (h : ∀ j, j < i → kbit a j = kbit b j) : partK a b = partFrom a b (145 - i) i := by
  induction i with
  | zero => rfl
  | succ i ih =>
    rw [ih (by omega) (fun j hj => h j (by omega)), show 145 - i = (145 - (i + 1)) + 1 by omega, partFrom, if_pos (h i (by omega))]
/-- A key made of bytes. -/
def keyF (bs : List UInt8) : List UInt8 := if bs.length = 0 then [0] else bs.take 16
theorem keyF_len (bs : List UInt8) : 1 ≤ (keyF bs).length ∧ (keyF bs).length ≤ 16 := by
  unfold keyF
  by_cases h : bs.length = 0
  · rw [if_pos h]; simp
  · rw [if_neg h, List.length_take]; omega
theorem bitF_ok (k : List UInt8) (i : Nat) (hk : 1 ≤ k.length ∧ k.length ≤ 16) (hi : i < 145) : bitF k (i : Int) = (kbit k i, 0) := by
  rw [bitF, if_pos hk, if_pos (by omega)]; rfl
theorem partF_ok (a b : List UInt8) (ha : 1 ≤ a.length ∧ a.length ≤ 16) (hb : 1 ≤ b.length ∧ b.length ≤ 16) : partF a b = (partK a b, 0) := by
  rw [partF, if_pos ha, if_pos hb]
end Go.Proofs.YtpefggkhjocanaaDoor
