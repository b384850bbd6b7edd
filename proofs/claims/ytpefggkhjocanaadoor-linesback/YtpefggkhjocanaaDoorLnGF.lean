/-
  Which act a line seems to tell, as the code goes; with no program.
-/
import Derived.Test.YtpefggkhjocanaaDoorLineG
import Derived.Test.YtpefggkhjocanaaDoorLnTab
import Derived.Lib.IndexMore
import Derived.Lib.AtoiAll
namespace Go.Proofs.YtpefggkhjocanaaDoor
open Go.RowKit
theorem index_none32 : ∀ (x : List UInt8), (∀ c ∈ x, c ≠ 32) → Lib.index x [32] = -1
  | [], _ => rfl
  | c :: x, h => by
    have h1 : ([32] : List UInt8).isPrefixOf (c :: x) = false := by
      have := h c (by simp)
      simp [List.isPrefixOf]
      exact fun e => this e.symm
    unfold Lib.index
    rw [h1, index_none32 x fun y hy => h y (by simp [hy])]
    rfl
theorem index_at32 : ∀ (x r : List UInt8), (∀ c ∈ x, c ≠ 32) → Lib.index (x ++ 32 :: r) [32] = (x.length : Int)
  | [], r, _ => by
    show Lib.index (32 :: r) [32] = 0
    unfold Lib.index
    simp [List.isPrefixOf]
  | c :: x, r, h => by
    have h1 : ([32] : List UInt8).isPrefixOf (c :: (x ++ 32 :: r)) = false := by
      have := h c (by simp)
      simp [List.isPrefixOf]
      exact fun e => this e.symm
    show Lib.index (c :: (x ++ 32 :: r)) [32] = _
    unfold Lib.index
    rw [h1, index_at32 x r fun y hy => h y (by simp [hy])]
    have : ((x.length : Int) == -1) = false := by rw [beq_eq_false_iff_ne]; omega
    simp [this]
theorem cut_spn {x : List UInt8} (h : ∀ c ∈ x, c ≠ 32) : Lib.cut x [32] = (x, [], false) := by
  rw [Lib.cut, index_none32 x h, if_neg (by decide)]
theorem cut_sp {x r : List UInt8} (h : ∀ c ∈ x, c ≠ 32) : Lib.cut (x ++ 32 :: r) [32] = (x, r, true) := by
  rw [Lib.cut, index_at32 x r h, if_pos (by omega), Int.toNat_natCast]
  have e1 : (x ++ 32 :: r).take x.length = x := List.take_left
  have e2 : (x ++ 32 :: r).drop (x.length + ([32] : List UInt8).length) = r := by
    show (x ++ 32 :: r).drop (x.length + 1) = r
    rw [← List.drop_drop, List.drop_left]
    rfl
  rw [e1, e2]
theorem trim_at (l : List UInt8) : Lib.trimSuffix (l ++ [10]) [10] = l := by
  have h : Lib.hasSuffix (l ++ [10]) [10] = true := by
    unfold Lib.hasSuffix
    exact List.isSuffixOf_iff_suffix.2 ⟨l, rfl⟩
  rw [Lib.trimSuffix, if_pos h]
  simp
def numF (x : List UInt8) : Int := match Lib.atoiAll x with | .ok v => v | _ => -1
theorem parse_dec : ∀ (l : List UInt8) (acc k : Nat), l.all isDig = true → acc < 10 ^ k → k + l.length ≤ 18 → Lib.parseUint10 acc l = .ok (l.foldl (fun n c => 10 * n + digV c) acc)
  | [], acc, k, _, _, _ => rfl
  | c :: l, acc, k, hd, ha, hk => by
    simp only [List.all_cons, Bool.and_eq_true] at hd
    have hc := hd.1
    simp [isDig] at hc
    rw [List.length_cons] at hk
    have hp : 10 ^ k ≤ 10 ^ 17 := Nat.pow_le_pow_right (by omega) (by omega)
    have hv : digV c = c.toNat - 48 := rfl
    have h17 : (10 : Nat) ^ 17 = 100000000000000000 := by decide
    rw [Lib.parseUint10, if_pos hc, if_neg (by omega), if_neg (by omega)]
    have e : acc * 10 + (c.toNat - 48) = 10 * acc + digV c := by rw [hv]; omega
    rw [e, parse_dec l (10 * acc + digV c) (k + 1) hd.2 (by rw [Nat.pow_succ]; omega) (by omega)]
    rfl
theorem num_dec (n : Nat) (h : n < 1000000) : numF (decD n) = (n : Int) := by
  have hl := decD_len 5 n (by simpa using h)
  have hp := decD_pos n
  have hd := decD_dig n
  have hpar := parse_dec (decD n) 0 0 hd (by simp) (by omega)
  have hval : (decD n).foldl (fun n c => 10 * n + digV c) 0 = n := decD_val n
  rw [hval] at hpar
  have hne : decD n ≠ [] := List.length_pos_iff.1 hp
  have hmag : Lib.parseMag (decD n) = .ok n := by rw [Lib.parseMag, if_neg hne, hpar]
  have hat : Lib.atoiAll (decD n) = .ok (n : Int) := by
    revert hmag hd hne
    match decD n with
    | [] => intro _ hne; exact absurd rfl hne
    | c :: r =>
      intro hd _ hmag
      simp only [List.all_cons, Bool.and_eq_true] at hd
      have hc := hd.1
      simp [isDig] at hc
      have h1 : ¬ (c.toNat = 43 ∨ c.toNat = 45) := by omega
      have h2 : ¬ c.toNat = 45 := by omega
      simp only [Lib.atoiAll, if_neg h1, hmag]
      rw [if_neg (by omega), if_neg (by omega), if_neg h2]
  rw [numF, hat]
def kindF (x : List UInt8) : Nat := if x = wAsk then 1 else if x = wSync then 2 else if x = wCrash then 3 else if x = wStart then 4 else 0
def ixH (c : UInt8) : Int := Lib.indexByte [48, 49, 50, 51, 52, 53, 54, 55, 56, 57, 97, 98, 99, 100, 101, 102] c
/-- A byte of two digits, or of anything. -/
def hexZ (a b : UInt8) : UInt8 := UInt8.ofNat (IntKind.u8.wrap (bits .or .i64 (IntKind.i64.wrap (ixH a * 16)) (ixH b))).toNat
def bytesF (d : List UInt8) (m : Nat) : List UInt8 := (List.range m).map fun i => hexZ (d.getD (2 * i) 0) (d.getD (2 * i + 1) 0)
theorem hexZ_hex (c : UInt8) : hexZ (hexC (c.toNat / 16)) (hexC (c.toNat % 16)) = c := by
  have key : ∀ k : Fin 256, hexZ (hexC (k.1 / 16)) (hexC (k.1 % 16)) = UInt8.ofNat k.1 := by decide +kernel
  have := key ⟨c.toNat, c.toNat_lt⟩
  simpa using this
theorem hexL_at : ∀ (d : List UInt8) (i : Nat), i < d.length → (hexL d).getD (2 * i) 0 = hexC ((d.getD i 0).toNat / 16) ∧ (hexL d).getD (2 * i + 1) 0 = hexC ((d.getD i 0).toNat % 16)
  | [], i, h => by simp at h
  | c :: d, 0, _ => ⟨rfl, rfl⟩
  | c :: d, i + 1, h => by
    have := hexL_at d i (by simpa using h)
    rw [hexL_cons, show 2 * (i + 1) = 2 * i + 1 + 1 by omega]
    exact this
theorem bytes_hex (d : List UInt8) : bytesF (hexL d) ((hexL d).length / 2) = d := by
  rw [hexL_len, show 2 * d.length / 2 = d.length by omega]
  apply List.ext_getElem
  · simp [bytesF]
  · intro i h1 h2
    obtain ⟨e1, e2⟩ := hexL_at d i h2
    simp only [bytesF, List.getElem_map, List.getElem_range]
    rw [e1, e2, hexZ_hex]
    simp [h2]
def guessK (k : Nat) (rest : List UInt8) : Ac :=
  if k = 1 then ⟨1, numF (Lib.cut rest [32]).1, 0, bytesF (Lib.cut rest [32]).2.1 ((Lib.cut rest [32]).2.1.length / 2)⟩ else if k = 3 then ⟨3, 0, numF rest, []⟩ else ⟨(k : Int), 0, 0, []⟩
def guessA (L : List UInt8) : Ac := guessK (kindF (Lib.cut (Lib.trimSuffix L [10]) [32]).1) (Lib.cut (Lib.trimSuffix L [10]) [32]).2.1
theorem guess_line {a : Ac} (h : ActOK a) : guessA (lineF a ++ [10]) = a := by
  unfold guessA
  rw [trim_at]
  have hk := h.kind
  obtain ⟨k, s, q, d⟩ := a
  have hk' : k = 1 ∨ k = 2 ∨ k = 3 ∨ k = 4 := by
    have : 1 ≤ k ∧ k ≤ 4 := hk
    omega
  rcases hk' with rfl | rfl | rfl | rfl
  · have hs := h.sess rfl
    have hq : q = 0 := h.noKeep (by show (1 : Int) ≠ 3; decide)
    subst hq
    replace hs : 0 ≤ s ∧ s ≤ 7 := hs
    show guessK (kindF (Lib.cut (wAsk ++ 32 :: (decD s.toNat ++ 32 :: hexL d)) [32]).1) (Lib.cut (wAsk ++ 32 :: (decD s.toNat ++ 32 :: hexL d)) [32]).2.1 = _
    rw [cut_sp (by decide)]
    show guessK 1 (decD s.toNat ++ 32 :: hexL d) = _
    rw [guessK, if_pos rfl, cut_sp (fun c hc => (dig_no (decD_dig _) c hc).1)]
    show (⟨1, numF (decD s.toNat), 0, bytesF (hexL d) ((hexL d).length / 2)⟩ : Ac) = _
    rw [num_dec _ (by omega), bytes_hex, show ((s.toNat : Nat) : Int) = s by omega]
  · have h1 : s = 0 := h.noSess (by show (2 : Int) ≠ 1; decide)
    have h2 : q = 0 := h.noKeep (by show (2 : Int) ≠ 3; decide)
    have h3 : d = [] := h.noData (by show (2 : Int) ≠ 1; decide)
    subst h1 h2 h3
    show guessK (kindF (Lib.cut wSync [32]).1) (Lib.cut wSync [32]).2.1 = _
    rw [cut_spn (by decide)]
    rfl
  · have h1 : s = 0 := h.noSess (by show (3 : Int) ≠ 1; decide)
    have h3 : d = [] := h.noData (by show (3 : Int) ≠ 1; decide)
    have hq := h.keep rfl
    replace hq : 0 ≤ q ∧ q ≤ 200000 := hq
    subst h1 h3
    show guessK (kindF (Lib.cut (wCrash ++ 32 :: decD q.toNat) [32]).1) (Lib.cut (wCrash ++ 32 :: decD q.toNat) [32]).2.1 = _
    rw [cut_sp (by decide)]
    show guessK 3 (decD q.toNat) = _
    rw [guessK, if_neg (by decide), if_pos rfl, num_dec _ (by omega), show ((q.toNat : Nat) : Int) = q by omega]
  · have h1 : s = 0 := h.noSess (by show (4 : Int) ≠ 1; decide)
    have h2 : q = 0 := h.noKeep (by show (4 : Int) ≠ 3; decide)
    have h3 : d = [] := h.noData (by show (4 : Int) ≠ 1; decide)
    subst h1 h2 h3
    show guessK (kindF (Lib.cut wStart [32]).1) (Lib.cut wStart [32]).2.1 = _
    rw [cut_spn (by decide)]
    rfl
end Go.Proofs.YtpefggkhjocanaaDoor
