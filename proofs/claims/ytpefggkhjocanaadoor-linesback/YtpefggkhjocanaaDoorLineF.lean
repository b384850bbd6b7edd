/-
  Acts as lines, with no program: what chapter 10 says.
-/
import Derived.Test.YtpefggkhjocanaaDoorBase
namespace Go.Proofs.YtpefggkhjocanaaDoor
open Go.RowKit
theorem no_ask : ∀ c ∈ ([97, 115, 107] : List UInt8), c ≠ 10 := by decide
theorem no_crash : ∀ c ∈ ([99, 114, 97, 115, 104] : List UInt8), c ≠ 10 := by decide
structure Ac where
  kind : Int
  sess : Int
  keep : Int
  data : List UInt8
def noAc : Ac := ⟨0, 0, 0, []⟩
/-- What P10.1 refuses. -/
def actE (a : Ac) : Int :=
  if 1 ≤ a.kind ∧ a.kind ≤ 4 then
    (if (a.kind = 1 ∧ ¬ (0 ≤ a.sess ∧ a.sess ≤ 7)) ∨ (a.kind = 3 ∧ ¬ (0 ≤ a.keep ∧ a.keep ≤ 200000)) then 2
     else if 4000 < a.data.length then 1
     else if (a.kind ≠ 1 ∧ a.sess ≠ 0) ∨ (a.kind ≠ 3 ∧ a.keep ≠ 0) ∨ (a.kind ≠ 1 ∧ 0 < a.data.length) then 4 else 0)
  else 5
structure ActOK (a : Ac) : Prop where
  kind : 1 ≤ a.kind ∧ a.kind ≤ 4
  sess : a.kind = 1 → 0 ≤ a.sess ∧ a.sess ≤ 7
  keep : a.kind = 3 → 0 ≤ a.keep ∧ a.keep ≤ 200000
  data : a.data.length ≤ 4000
  noSess : a.kind ≠ 1 → a.sess = 0
  noKeep : a.kind ≠ 3 → a.keep = 0
  noData : a.kind ≠ 1 → a.data = []
theorem act_iff (a : Ac) : actE a = 0 ↔ ActOK a := by
  unfold actE
  by_cases h0 : 1 ≤ a.kind ∧ a.kind ≤ 4
  · rw [if_pos h0]
    by_cases h1 : (a.kind = 1 ∧ ¬ (0 ≤ a.sess ∧ a.sess ≤ 7)) ∨ (a.kind = 3 ∧ ¬ (0 ≤ a.keep ∧ a.keep ≤ 200000))
    · rw [if_pos h1]
      refine ⟨fun e => (by cases e), fun h => ?_⟩
      rcases h1 with ⟨h1, h2⟩ | ⟨h1, h2⟩
      · exact absurd (h.sess h1) h2
      · exact absurd (h.keep h1) h2
    · rw [if_neg h1]
      by_cases h2 : 4000 < a.data.length
      · rw [if_pos h2]
        exact ⟨fun e => (by cases e), fun h => by have := h.data; omega⟩
      · rw [if_neg h2]
        by_cases h3 : (a.kind ≠ 1 ∧ a.sess ≠ 0) ∨ (a.kind ≠ 3 ∧ a.keep ≠ 0) ∨ (a.kind ≠ 1 ∧ 0 < a.data.length)
        · rw [if_pos h3]
          refine ⟨fun e => (by cases e), fun h => ?_⟩
          rcases h3 with ⟨h3, h4⟩ | ⟨h3, h4⟩ | ⟨h3, h4⟩
          · exact absurd (h.noSess h3) h4
          · exact absurd (h.noKeep h3) h4
          · rw [h.noData h3] at h4; simp at h4
        · rw [if_neg h3]
          refine ⟨fun _ => ⟨h0, fun h => ?_, fun h => ?_, by omega, fun h => ?_, fun h => ?_, fun h => ?_⟩, fun _ => rfl⟩
          · exact Classical.byContradiction fun e => h1 (.inl ⟨h, e⟩)
          · exact Classical.byContradiction fun e => h1 (.inr ⟨h, e⟩)
          · exact Classical.byContradiction fun e => h3 (.inl ⟨h, e⟩)
          · exact Classical.byContradiction fun e => h3 (.inr (.inl ⟨h, e⟩))
          · refine List.eq_nil_of_length_eq_zero ?_
            have : ¬ 0 < a.data.length := fun e => h3 (.inr (.inr ⟨h, e⟩))
            omega
  · rw [if_neg h0]
    exact ⟨fun e => (by cases e), fun h => absurd h.kind h0⟩
/-- Digits. -/
def digC (n : Nat) : UInt8 := UInt8.ofNat (48 + n)
def decD (n : Nat) : List UInt8 := if n < 10 then [digC n] else decD (n / 10) ++ [digC (n % 10)]
termination_by n
decreasing_by omega
theorem decD_small {n : Nat} (h : n < 10) : decD n = [digC n] := by rw [decD, if_pos h]
theorem decD_big {n : Nat} (h : ¬ n < 10) : decD n = decD (n / 10) ++ [digC (n % 10)] := by rw [decD, if_neg h]
def isDig (c : UInt8) : Bool := decide (48 ≤ c.toNat) && decide (c.toNat ≤ 57)
def digV (c : UInt8) : Nat := c.toNat - 48
def valD (l : List UInt8) : Nat := l.foldl (fun n c => 10 * n + digV c) 0
theorem valD_snoc (l : List UInt8) (c : UInt8) : valD (l ++ [c]) = 10 * valD l + digV c := by simp [valD, List.foldl_append]
theorem digC_nat {n : Nat} (h : n < 10) : (digC n).toNat = 48 + n := by simp [digC]; omega
theorem digC_dig {n : Nat} (h : n < 10) : isDig (digC n) = true := by simp [isDig, digC_nat h]; omega
theorem digV_digC {n : Nat} (h : n < 10) : digV (digC n) = n := by simp [digV, digC_nat h]
theorem digC_digV {c : UInt8} (h : isDig c = true) : digC (digV c) = c ∧ digV c < 10 := by
  simp [isDig] at h
  have hl := c.toNat_lt
  refine ⟨?_, by unfold digV; omega⟩
  apply UInt8.toNat_inj.1
  rw [digC_nat (by unfold digV; omega)]
  unfold digV; omega
theorem decD_val : ∀ n : Nat, valD (decD n) = n := by
  intro n
  induction n using Nat.strongRecOn with
  | _ n ih =>
    by_cases h : n < 10
    · rw [decD_small h]; simp [valD, digV_digC h]
    · rw [decD_big h, valD_snoc, ih (n / 10) (by omega), digV_digC (by omega)]; omega
theorem decD_dig : ∀ n : Nat, (decD n).all isDig = true := by
  intro n
  induction n using Nat.strongRecOn with
  | _ n ih =>
    by_cases h : n < 10
    · rw [decD_small h]; simp [digC_dig h]
    · rw [decD_big h, List.all_append, ih (n / 10) (by omega)]
      simp [digC_dig (show n % 10 < 10 by omega)]
theorem decD_pos (n : Nat) : 0 < (decD n).length := by
  by_cases h : n < 10
  · rw [decD_small h]; simp
  · rw [decD_big h]; simp
theorem decD_len : ∀ (k n : Nat), n < 10 ^ (k + 1) → (decD n).length ≤ k + 1 := by
  intro k
  induction k with
  | zero => intro n h; rw [decD_small (by simpa using h)]; simp
  | succ k ih =>
    intro n h
    by_cases h1 : n < 10
    · rw [decD_small h1]; simp
    · rw [decD_big h1, List.length_append]
      have := ih (n / 10) (by rw [Nat.pow_succ] at h; omega)
      simp; omega
theorem getD_app {t u : List UInt8} (h : 0 < t.length) : (t ++ u).getD 0 0 = t.getD 0 0 := by
  match t, h with
  | c :: t, _ => rfl
theorem decD_head : ∀ n : Nat, (decD n).getD 0 0 = 48 → n = 0 := by
  intro n
  induction n using Nat.strongRecOn with
  | _ n ih =>
    intro h0
    by_cases h : n < 10
    · rw [decD_small h] at h0
      have := congrArg UInt8.toNat h0
      simp [digC_nat h] at this
      exact this
    · rw [decD_big h] at h0
      have hp := decD_pos (n / 10)
      rw [getD_app hp] at h0
      have := ih (n / 10) (by omega) h0
      omega
/-- A number's digits: none (-1), or the number. -/
def wholeF (s : List UInt8) : Int := if s.length = 0 ∨ 6 < s.length ∨ (s.getD 0 0 = 48 ∧ 1 < s.length) then -1 else if s.all isDig = true then (valD s : Int) else -1
theorem whole_dec {n : Nat} (h : n < 1000000) : wholeF (decD n) = (n : Int) := by
  have h1 := decD_pos n
  have h2 := decD_len 5 n (by simpa using h)
  rw [wholeF, if_neg, if_pos (decD_dig n), decD_val]
  rintro (e | e | ⟨e, e2⟩)
  · omega
  · omega
  · have := decD_head n e
    subst this
    rw [decD_small (by omega)] at e2
    simp at e2
theorem snoc_or : ∀ (l : List UInt8), l = [] ∨ ∃ t c, l = t ++ [c] := by
  intro l
  by_cases h : l = []
  · exact .inl h
  · exact .inr ⟨l.dropLast, l.getLast h, (List.dropLast_concat_getLast h).symm⟩
theorem val_pos : ∀ (n : Nat) (l : List UInt8), l.length = n → l.all isDig = true → l ≠ [] → l.getD 0 0 ≠ 48 → 0 < valD l := by
  intro n
  induction n with
  | zero => intro l hl _ hn; exact absurd (List.eq_nil_of_length_eq_zero hl) hn
  | succ n ih =>
    intro l hl hd hn h0
    rcases snoc_or l with rfl | ⟨t, c, rfl⟩
    · exact absurd rfl hn
    · rw [List.all_append] at hd
      simp at hd
      rw [valD_snoc]
      by_cases ht : t = []
      · subst ht
        simp at h0
        have hc := digC_digV hd.2
        have : digV c ≠ 0 := fun e => h0 (by rw [← hc.1, e]; rfl)
        omega
      · have hp : 0 < t.length := List.length_pos_iff.2 ht
        rw [getD_app hp] at h0
        have := ih t (by simpa using hl) (by simpa using hd.1) ht h0
        omega
theorem dec_val : ∀ (n : Nat) (l : List UInt8), l.length = n → l.all isDig = true → l ≠ [] → (l.getD 0 0 = 48 → l.length = 1) → decD (valD l) = l := by
  intro n
  induction n with
  | zero => intro l hl _ hn; exact absurd (List.eq_nil_of_length_eq_zero hl) hn
  | succ n ih =>
    intro l hl hd hn h0
    rcases snoc_or l with rfl | ⟨t, c, rfl⟩
    · exact absurd rfl hn
    · rw [List.all_append] at hd
      simp only [List.all_cons, List.all_nil, Bool.and_true, Bool.and_eq_true] at hd
      have hc := digC_digV hd.2
      rw [valD_snoc]
      by_cases ht : t = []
      · subst ht
        show decD (10 * 0 + digV c) = [c]
        rw [Nat.mul_zero, Nat.zero_add, decD_small hc.2, hc.1]
      · have hp : 0 < t.length := List.length_pos_iff.2 ht
        have hg : (t ++ [c]).getD 0 0 = t.getD 0 0 := getD_app hp
        have h48 : t.getD 0 0 ≠ 48 := fun e => by
          have := h0 (by rw [hg, e])
          rw [List.length_append, List.length_singleton] at this; omega
        have hv := val_pos t.length t rfl hd.1 ht h48
        rw [decD_big (by omega), show (10 * valD t + digV c) / 10 = valD t by omega, show (10 * valD t + digV c) % 10 = digV c by omega, hc.1, ih t (by simpa using hl) hd.1 ht (fun e => absurd e h48)]
theorem dec_whole {s : List UInt8} (h : 0 ≤ wholeF s) : wholeF s = (valD s : Int) ∧ decD (valD s) = s := by
  unfold wholeF at h ⊢
  by_cases h1 : s.length = 0 ∨ 6 < s.length ∨ (s.getD 0 0 = 48 ∧ 1 < s.length)
  · rw [if_pos h1] at h; omega
  · rw [if_neg h1] at h ⊢
    by_cases h2 : s.all isDig = true
    · rw [if_pos h2]
      refine ⟨rfl, dec_val s.length s rfl h2 (fun e => h1 (.inl (by rw [e]; rfl))) fun e => ?_⟩
      have a1 : ¬ s.length = 0 := fun e => h1 (.inl e)
      have a2 : ¬ 1 < s.length := fun e2 => h1 (.inr (.inr ⟨e, e2⟩))
      omega
    · rw [if_neg h2] at h; omega
/-- Digits of the base 16. -/
def hexC (n : Nat) : UInt8 := if n < 10 then UInt8.ofNat (48 + n) else UInt8.ofNat (87 + n)
def hexV (c : UInt8) : Int := if 48 ≤ c.toNat ∧ c.toNat ≤ 57 then (c.toNat : Int) - 48 else if 97 ≤ c.toNat ∧ c.toNat ≤ 102 then (c.toNat : Int) - 97 + 10 else -1
theorem hexV_hexC (n : Nat) (h : n < 16) : hexV (hexC n) = (n : Int) := (by decide +kernel : ∀ n : Fin 16, hexV (hexC n.1) = (n.1 : Int)) ⟨n, h⟩
theorem hexC_hexV (c : UInt8) (h : 0 ≤ hexV c) : hexC (hexV c).toNat = c ∧ hexV c < 16 := by
  have key : ∀ k : Fin 256, 0 ≤ hexV (UInt8.ofNat k.1) → hexC (hexV (UInt8.ofNat k.1)).toNat = UInt8.ofNat k.1 ∧ hexV (UInt8.ofNat k.1) < 16 := by decide +kernel
  have := key ⟨c.toNat, c.toNat_lt⟩
  simp only [UInt8.ofNat_toNat] at this
  exact this h
def hexL (bs : List UInt8) : List UInt8 := bs.flatMap fun c => [hexC (c.toNat / 16), hexC (c.toNat % 16)]
def hexB (a b : UInt8) : UInt8 := UInt8.ofNat (16 * hexV a + hexV b).toNat
def unhex : List UInt8 → Option (List UInt8)
  | [] => some []
  | [_] => none
  | a :: b :: r => if hexV a < 0 ∨ hexV b < 0 then none else match unhex r with | some bs => some (hexB a b :: bs) | none => none
theorem hexL_cons (c : UInt8) (bs : List UInt8) : hexL (c :: bs) = hexC (c.toNat / 16) :: hexC (c.toNat % 16) :: hexL bs := rfl
theorem hexL_len (bs : List UInt8) : (hexL bs).length = 2 * bs.length := by
  induction bs with
  | nil => rfl
  | cons c bs ih => rw [hexL_cons, List.length_cons, List.length_cons, ih, List.length_cons]; omega
theorem unhex_hexL : ∀ bs : List UInt8, unhex (hexL bs) = some bs
  | [] => rfl
  | c :: bs => by
    have hl := c.toNat_lt
    have h1 := hexV_hexC (c.toNat / 16) (by omega)
    have h2 := hexV_hexC (c.toNat % 16) (by omega)
    rw [hexL_cons, unhex, if_neg (by omega), unhex_hexL bs]
    show some (hexB _ _ :: bs) = _
    rw [hexB, h1, h2]
    congr 2
    apply UInt8.toNat_inj.1
    simp; omega
theorem hexL_unhex : ∀ (s bs : List UInt8), unhex s = some bs → hexL bs = s
  | [], bs, h => by cases h; rfl
  | [_], bs, h => by cases h
  | a :: b :: r, bs, h => by
    rw [unhex] at h
    by_cases hn : hexV a < 0 ∨ hexV b < 0
    · rw [if_pos hn] at h; cases h
    · rw [if_neg hn] at h
      match hr : unhex r with
      | none => rw [hr] at h; cases h
      | some cs =>
        rw [hr] at h
        obtain rfl : hexB a b :: cs = bs := by simpa using h
        obtain ⟨a1, a2⟩ := hexC_hexV a (by omega)
        obtain ⟨b1, b2⟩ := hexC_hexV b (by omega)
        have hB : (hexB a b).toNat = (hexV a).toNat * 16 + (hexV b).toNat := by
          unfold hexB; simp; omega
        rw [hexL_cons, hexL_unhex r cs hr, hB, show ((hexV a).toNat * 16 + (hexV b).toNat) / 16 = (hexV a).toNat by omega, show ((hexV a).toNat * 16 + (hexV b).toNat) % 16 = (hexV b).toNat by omega, a1, b1]
/-- Words, parted by single blanks. -/
def wordsF : List UInt8 → List (List UInt8)
  | [] => [[]]
  | c :: r => if c = 32 then [] :: wordsF r else match wordsF r with | w :: ws => (c :: w) :: ws | [] => [[c]]
theorem wordsF_ne : ∀ s, wordsF s ≠ []
  | [] => by simp [wordsF]
  | c :: r => by
    rw [wordsF]
    by_cases h : c = 32
    · rw [if_pos h]; simp
    · rw [if_neg h]
      split <;> simp
def joinW : List (List UInt8) → List UInt8
  | [] => []
  | [w] => w
  | w :: x :: ws => w ++ 32 :: joinW (x :: ws)
theorem join_words : ∀ s, joinW (wordsF s) = s
  | [] => rfl
  | c :: r => by
    have ih := join_words r
    have hne := wordsF_ne r
    rw [wordsF]
    by_cases h : c = 32
    · rw [if_pos h]
      match hw : wordsF r, hne with
      | w :: ws, _ =>
        rw [hw] at ih
        show [] ++ 32 :: joinW (w :: ws) = c :: r
        rw [ih, h]; rfl
    · rw [if_neg h]
      match hw : wordsF r, hne with
      | [w], _ => rw [hw] at ih; show c :: w = c :: r; rw [← ih]; rfl
      | w :: x :: ws, _ => rw [hw] at ih; show (c :: w) ++ 32 :: joinW (x :: ws) = c :: r; rw [← ih]; rfl
theorem words_one : ∀ (w : List UInt8), (∀ c ∈ w, c ≠ 32) → wordsF w = [w]
  | [], _ => rfl
  | c :: r, h => by
    rw [wordsF, if_neg (h c (by simp)), words_one r fun x hx => h x (by simp [hx])]
theorem words_cons : ∀ (w r : List UInt8), (∀ c ∈ w, c ≠ 32) → wordsF (w ++ 32 :: r) = w :: wordsF r
  | [], r, _ => by show wordsF (32 :: r) = _; rw [wordsF, if_pos rfl]
  | c :: w, r, h => by
    show wordsF (c :: (w ++ 32 :: r)) = _
    rw [wordsF, if_neg (h c (by simp)), words_cons w r fun x hx => h x (by simp [hx])]
/-- A line, and the act of a line. -/
def wAsk : List UInt8 := [97, 115, 107]
def wSync : List UInt8 := [115, 121, 110, 99]
def wCrash : List UInt8 := [99, 114, 97, 115, 104]
def wStart : List UInt8 := [115, 116, 97, 114, 116]
def lineF (a : Ac) : List UInt8 :=
  if a.kind = 1 then wAsk ++ 32 :: (decD a.sess.toNat ++ 32 :: hexL a.data) else if a.kind = 2 then wSync else if a.kind = 3 then wCrash ++ 32 :: decD a.keep.toNat else if a.kind = 4 then wStart else []
def rawA (ws : List (List UInt8)) : Ac :=
  match ws with
  | [w] => if w = wSync then ⟨2, 0, 0, []⟩ else if w = wStart then ⟨4, 0, 0, []⟩ else noAc
  | [w, x] => if w = wCrash then ⟨3, 0, wholeF x, []⟩ else noAc
  | [w, x, d] => if w = wAsk then (match unhex d with | some bs => ⟨1, wholeF x, 0, bs⟩ | none => noAc) else noAc
  | _ => noAc
def lineA (s : List UInt8) : Ac := if (rawA (wordsF s)).kind = 0 ∨ actE (rawA (wordsF s)) ≠ 0 then noAc else rawA (wordsF s)
theorem dig_no {l : List UInt8} (h : l.all isDig = true) : ∀ c ∈ l, c ≠ 32 ∧ c ≠ 10 := by
  intro c hc
  have := List.all_eq_true.1 h c hc
  simp [isDig] at this
  constructor <;> (intro e; subst e; revert this; decide)
theorem hex_no (bs : List UInt8) : ∀ c ∈ hexL bs, c ≠ 32 ∧ c ≠ 10 := by
  have key : ∀ n : Fin 16, hexC n.1 ≠ 32 ∧ hexC n.1 ≠ 10 := by decide +kernel
  intro c hc
  obtain ⟨b, _, hb⟩ := List.mem_flatMap.1 hc
  have hl := b.toNat_lt
  simp only [List.mem_cons, List.not_mem_nil, or_false] at hb
  rcases hb with rfl | rfl
  · exact key ⟨b.toNat / 16, by omega⟩
  · exact key ⟨b.toNat % 16, by omega⟩
theorem lineA_lineF {a : Ac} (h : ActOK a) : lineA (lineF a) = a := by
  have key : ∀ a' : Ac, rawA (wordsF (lineF a)) = a' → a'.kind ≠ 0 → actE a' = 0 → lineA (lineF a) = a' := fun a' h1 h2 h3 => by
    unfold lineA; rw [h1, if_neg]
    rintro (e | e)
    · exact h2 e
    · exact e h3
  have hk := h.kind
  have hz := (act_iff a).2 h
  refine key a ?_ (by omega) hz
  obtain ⟨k, s, q, d⟩ := a
  have hk' : k = 1 ∨ k = 2 ∨ k = 3 ∨ k = 4 := by
    have : 1 ≤ k ∧ k ≤ 4 := hk
    omega
  rcases hk' with rfl | rfl | rfl | rfl
  · have hs := h.sess rfl
    have hq : q = 0 := h.noKeep (by show (1 : Int) ≠ 3; decide)
    subst hq
    replace hs : 0 ≤ s ∧ s ≤ 7 := hs
    show rawA (wordsF (wAsk ++ 32 :: (decD s.toNat ++ 32 :: hexL d))) = _
    rw [words_cons _ _ (by decide), words_cons _ _ (fun c hc => (dig_no (decD_dig _) c hc).1), words_one _ (fun c hc => (hex_no d c hc).1)]
    show (if wAsk = wAsk then (match unhex (hexL d) with | some bs => (⟨1, wholeF (decD s.toNat), 0, bs⟩ : Ac) | none => noAc) else noAc) = _
    rw [if_pos rfl, unhex_hexL, whole_dec (by omega)]
    show (⟨1, (s.toNat : Int), 0, d⟩ : Ac) = _
    rw [show ((s.toNat : Nat) : Int) = s by omega]
  · have h1 : s = 0 := h.noSess (by show (2 : Int) ≠ 1; decide)
    have h2 : q = 0 := h.noKeep (by show (2 : Int) ≠ 3; decide)
    have h3 : d = [] := h.noData (by show (2 : Int) ≠ 1; decide)
    subst h1 h2 h3
    rfl
  · have h1 : s = 0 := h.noSess (by show (3 : Int) ≠ 1; decide)
    have h3 : d = [] := h.noData (by show (3 : Int) ≠ 1; decide)
    have hq := h.keep rfl
    replace hq : 0 ≤ q ∧ q ≤ 200000 := hq
    subst h1 h3
    show rawA (wordsF (wCrash ++ 32 :: decD q.toNat)) = _
    rw [words_cons _ _ (by decide), words_one _ (fun c hc => (dig_no (decD_dig _) c hc).1)]
    show (if wCrash = wCrash then (⟨3, 0, wholeF (decD q.toNat), []⟩ : Ac) else noAc) = _
    rw [if_pos rfl, whole_dec (by omega), show ((q.toNat : Nat) : Int) = q by omega]
  · have h1 : s = 0 := h.noSess (by show (4 : Int) ≠ 1; decide)
    have h2 : q = 0 := h.noKeep (by show (4 : Int) ≠ 3; decide)
    have h3 : d = [] := h.noData (by show (4 : Int) ≠ 1; decide)
    subst h1 h2 h3
    rfl
theorem lineF_no {a : Ac} : ∀ c ∈ lineF a, c ≠ 10 := by
  intro c hc
  unfold lineF at hc
  by_cases h1 : a.kind = 1
  · rw [if_pos h1] at hc
    rcases List.mem_append.1 hc with hc | hc
    · exact no_ask c hc
    · rcases List.mem_cons.1 hc with rfl | hc
      · decide
      · rcases List.mem_append.1 hc with hc | hc
        · exact (dig_no (decD_dig _) c hc).2
        · rcases List.mem_cons.1 hc with rfl | hc
          · decide
          · exact (hex_no _ c hc).2
  · rw [if_neg h1] at hc
    by_cases h2 : a.kind = 2
    · rw [if_pos h2] at hc; revert c; decide
    · rw [if_neg h2] at hc
      by_cases h3 : a.kind = 3
      · rw [if_pos h3] at hc
        rcases List.mem_append.1 hc with hc | hc
        · exact no_crash c hc
        · rcases List.mem_cons.1 hc with rfl | hc
          · decide
          · exact (dig_no (decD_dig _) c hc).2
      · rw [if_neg h3] at hc
        by_cases h4 : a.kind = 4
        · rw [if_pos h4] at hc; revert c; decide
        · rw [if_neg h4] at hc; simp at hc
/-- A line that is one is shown as it was. -/
theorem lineF_lineA {s : List UInt8} (h : (lineA s).kind ≠ 0) : ActOK (lineA s) ∧ lineF (lineA s) = s := by
  unfold lineA at h ⊢
  by_cases h1 : (rawA (wordsF s)).kind = 0 ∨ actE (rawA (wordsF s)) ≠ 0
  · rw [if_pos h1] at h; exact absurd rfl h
  · rw [if_neg h1] at h ⊢
    have hz : actE (rawA (wordsF s)) = 0 := Classical.byContradiction fun e => h1 (.inr e)
    have ho := (act_iff _).1 hz
    refine ⟨ho, ?_⟩
    have hj := join_words s
    revert hj h ho
    clear hz h1
    match wordsF s with
    | [] => intro h; exact absurd rfl h
    | [w] =>
      intro h ho hj
      show lineF (if w = wSync then ⟨2, 0, 0, []⟩ else if w = wStart then ⟨4, 0, 0, []⟩ else noAc) = s
      replace h : (if w = wSync then (⟨2, 0, 0, []⟩ : Ac) else if w = wStart then ⟨4, 0, 0, []⟩ else noAc).kind ≠ 0 := h
      by_cases e1 : w = wSync
      · rw [if_pos e1, ← hj, e1]; rfl
      · rw [if_neg e1] at h ⊢
        by_cases e2 : w = wStart
        · rw [if_pos e2, ← hj, e2]; rfl
        · rw [if_neg e2] at h; exact absurd rfl h
    | [w, x] =>
      intro h ho hj
      replace h : (if w = wCrash then (⟨3, 0, wholeF x, []⟩ : Ac) else noAc).kind ≠ 0 := h
      replace ho : ActOK (if w = wCrash then (⟨3, 0, wholeF x, []⟩ : Ac) else noAc) := ho
      show lineF (if w = wCrash then (⟨3, 0, wholeF x, []⟩ : Ac) else noAc) = s
      by_cases e1 : w = wCrash
      · rw [if_pos e1] at ho ⊢
        have hq := ho.keep rfl
        replace hq : 0 ≤ wholeF x ∧ wholeF x ≤ 200000 := hq
        obtain ⟨d1, d2⟩ := dec_whole hq.1
        show wCrash ++ 32 :: decD (wholeF x).toNat = s
        rw [d1, Int.toNat_natCast, d2, ← hj, e1]; rfl
      · rw [if_neg e1] at h; exact absurd rfl h
    | [w, x, d] =>
      intro h ho hj
      replace h : (if w = wAsk then (match unhex d with | some bs => (⟨1, wholeF x, 0, bs⟩ : Ac) | none => noAc) else noAc).kind ≠ 0 := h
      replace ho : ActOK (if w = wAsk then (match unhex d with | some bs => (⟨1, wholeF x, 0, bs⟩ : Ac) | none => noAc) else noAc) := ho
      show lineF (if w = wAsk then (match unhex d with | some bs => (⟨1, wholeF x, 0, bs⟩ : Ac) | none => noAc) else noAc) = s
      by_cases e1 : w = wAsk
      · rw [if_pos e1] at h ho ⊢
        match hu : unhex d with
        | none => rw [hu] at h; exact absurd rfl h
        | some bs =>
          rw [hu] at ho
          have hs := ho.sess rfl
          replace hs : 0 ≤ wholeF x ∧ wholeF x ≤ 7 := hs
          obtain ⟨d1, d2⟩ := dec_whole hs.1
          show wAsk ++ 32 :: (decD (wholeF x).toNat ++ 32 :: hexL bs) = s
          rw [d1, Int.toNat_natCast, d2, hexL_unhex d bs hu, ← hj, e1]; rfl
      · rw [if_neg e1] at h; exact absurd rfl h
    | w :: x :: y :: z :: ws => intro h; exact absurd rfl h
end Go.Proofs.YtpefggkhjocanaaDoor
