/-
  Texts of this proof, joined: LineF, SlM, LineG, PartM, LineH, StepB, BSlice.
-/
import Derived.Test.YtpefggkhjocanaaDoorBase
/-
  Acts as lines, with no program: what chapter 10 says.
-/
namespace Go.Proofs.YtpefggkhjocanaaDoor
open Go.RowKit
theorem no_ask : ∀ c ∈ ([97, 115, 107] : List UInt8), c ≠ 10 := by decide
theorem no_crash : ∀ c ∈ ([99, 114, 97, 115, 104] : List UInt8), c ≠ 10 := by decide
structure Ac where
  kind : Int
  sess : Int
  keep : Int
  data : List UInt8
def noAc : Ac := ⟨0, 0, 0, []⟩
/-- What P10.1 refuses. -/
def actE (a : Ac) : Int :=
  if 1 ≤ a.kind ∧ a.kind ≤ 4 then
    (if (a.kind = 1 ∧ ¬ (0 ≤ a.sess ∧ a.sess ≤ 7)) ∨ (a.kind = 3 ∧ ¬ (0 ≤ a.keep ∧ a.keep ≤ 200000)) then 2
     else if 4000 < a.data.length then 1
     else if (a.kind ≠ 1 ∧ a.sess ≠ 0) ∨ (a.kind ≠ 3 ∧ a.keep ≠ 0) ∨ (a.kind ≠ 1 ∧ 0 < a.data.length) then 4 else 0)
  else 5
structure ActOK (a : Ac) : Prop where
  kind : 1 ≤ a.kind ∧ a.kind ≤ 4
  sess : a.kind = 1 → 0 ≤ a.sess ∧ a.sess ≤ 7
  keep : a.kind = 3 → 0 ≤ a.keep ∧ a.keep ≤ 200000
  data : a.data.length ≤ 4000
  noSess : a.kind ≠ 1 → a.sess = 0
  noKeep : a.kind ≠ 3 → a.keep = 0
  noData : a.kind ≠ 1 → a.data = []
theorem act_iff (a : Ac) : actE a = 0 ↔ ActOK a := by
  unfold actE
  by_cases h0 : 1 ≤ a.kind ∧ a.kind ≤ 4
  · rw [if_pos h0]
    by_cases h1 : (a.kind = 1 ∧ ¬ (0 ≤ a.sess ∧ a.sess ≤ 7)) ∨ (a.kind = 3 ∧ ¬ (0 ≤ a.keep ∧ a.keep ≤ 200000))
    · rw [if_pos h1]
      refine ⟨fun e => (by cases e), fun h => ?_⟩
      rcases h1 with ⟨h1, h2⟩ | ⟨h1, h2⟩
      · exact absurd (h.sess h1) h2
      · exact absurd (h.keep h1) h2
    · rw [if_neg h1]
      by_cases h2 : 4000 < a.data.length
      · rw [if_pos h2]
        exact ⟨fun e => (by cases e), fun h => by have := h.data; omega⟩
      · rw [if_neg h2]
        by_cases h3 : (a.kind ≠ 1 ∧ a.sess ≠ 0) ∨ (a.kind ≠ 3 ∧ a.keep ≠ 0) ∨ (a.kind ≠ 1 ∧ 0 < a.data.length)
        · rw [if_pos h3]
          refine ⟨fun e => (by cases e), fun h => ?_⟩
          rcases h3 with ⟨h3, h4⟩ | ⟨h3, h4⟩ | ⟨h3, h4⟩
          · exact absurd (h.noSess h3) h4
          · exact absurd (h.noKeep h3) h4
          · rw [h.noData h3] at h4; simp at h4
        · rw [if_neg h3]
          refine ⟨fun _ => ⟨h0, fun h => ?_, fun h => ?_, by omega, fun h => ?_, fun h => ?_, fun h => ?_⟩, fun _ => rfl⟩
          · exact Classical.byContradiction fun e => h1 (.inl ⟨h, e⟩)
          · exact Classical.byContradiction fun e => h1 (.inr ⟨h, e⟩)
          · exact Classical.byContradiction fun e => h3 (.inl ⟨h, e⟩)
          · exact Classical.byContradiction fun e => h3 (.inr (.inl ⟨h, e⟩))
          · refine List.eq_nil_of_length_eq_zero ?_
            have : ¬ 0 < a.data.length := fun e => h3 (.inr (.inr ⟨h, e⟩))
            omega
  · rw [if_neg h0]
    exact ⟨fun e => (by cases e), fun h => absurd h.kind h0⟩
/-- Digits. -/
def digC (n : Nat) : UInt8 := UInt8.ofNat (48 + n)
def decD (n : Nat) : List UInt8 := if n < 10 then [digC n] else decD (n / 10) ++ [digC (n % 10)]
termination_by n
decreasing_by omega
theorem decD_small {n : Nat} (h : n < 10) : decD n = [digC n] := by rw [decD, if_pos h]
theorem decD_big {n : Nat} (h : ¬ n < 10) : decD n = decD (n / 10) ++ [digC (n % 10)] := by rw [decD, if_neg h]
def isDig (c : UInt8) : Bool := decide (48 ≤ c.toNat) && decide (c.toNat ≤ 57)
def digV (c : UInt8) : Nat := c.toNat - 48
def valD (l : List UInt8) : Nat := l.foldl (fun n c => 10 * n + digV c) 0
theorem valD_snoc (l : List UInt8) (c : UInt8) : valD (l ++ [c]) = 10 * valD l + digV c := by simp [valD, List.foldl_append]
theorem digC_nat {n : Nat} (h : n < 10) : (digC n).toNat = 48 + n := by simp [digC]; omega
theorem digC_dig {n : Nat} (h : n < 10) : isDig (digC n) = true := by simp [isDig, digC_nat h]; omega
theorem digV_digC {n : Nat} (h : n < 10) : digV (digC n) = n := by simp [digV, digC_nat h]
theorem digC_digV {c : UInt8} (h : isDig c = true) : digC (digV c) = c ∧ digV c < 10 := by
  simp [isDig] at h
  have hl := c.toNat_lt
  refine ⟨?_, by unfold digV; omega⟩
  apply UInt8.toNat_inj.1
  rw [digC_nat (by unfold digV; omega)]
  unfold digV; omega
theorem decD_val : ∀ n : Nat, valD (decD n) = n := by
  intro n
  induction n using Nat.strongRecOn with
  | _ n ih =>
    by_cases h : n < 10
    · rw [decD_small h]; simp [valD, digV_digC h]
    · rw [decD_big h, valD_snoc, ih (n / 10) (by omega), digV_digC (by omega)]; omega
theorem decD_dig : ∀ n : Nat, (decD n).all isDig = true := by
  intro n
  induction n using Nat.strongRecOn with
  | _ n ih =>
    by_cases h : n < 10
    · rw [decD_small h]; simp [digC_dig h]
    · rw [decD_big h, List.all_append, ih (n / 10) (by omega)]
      simp [digC_dig (show n % 10 < 10 by omega)]
theorem decD_pos (n : Nat) : 0 < (decD n).length := by
  by_cases h : n < 10
  · rw [decD_small h]; simp
  · rw [decD_big h]; simp
theorem decD_len : ∀ (k n : Nat), n < 10 ^ (k + 1) → (decD n).length ≤ k + 1 := by
  intro k
  induction k with
  | zero => intro n h; rw [decD_small (by simpa using h)]; simp
  | succ k ih =>
    intro n h
    by_cases h1 : n < 10
    · rw [decD_small h1]; simp
    · rw [decD_big h1, List.length_append]
      have := ih (n / 10) (by rw [Nat.pow_succ] at h; omega)
      simp; omega
theorem getD_app {t u : List UInt8} (h : 0 < t.length) : (t ++ u).getD 0 0 = t.getD 0 0 := by
  match t, h with
  | c :: t, _ => rfl
theorem decD_head : ∀ n : Nat, (decD n).getD 0 0 = 48 → n = 0 := by
  intro n
  induction n using Nat.strongRecOn with
  | _ n ih =>
    intro h0
    by_cases h : n < 10
    · rw [decD_small h] at h0
      have := congrArg UInt8.toNat h0
      simp [digC_nat h] at this
      exact this
    · rw [decD_big h] at h0
      have hp := decD_pos (n / 10)
      rw [getD_app hp] at h0
      have := ih (n / 10) (by omega) h0
      omega
/-- A number's digits: none (-1), or the number. -/
def wholeF (s : List UInt8) : Int := if s.length = 0 ∨ 6 < s.length ∨ (s.getD 0 0 = 48 ∧ 1 < s.length) then -1 else if s.all isDig = true then (valD s : Int) else -1
theorem whole_dec {n : Nat} (h : n < 1000000) : wholeF (decD n) = (n : Int) := by
  have h1 := decD_pos n
  have h2 := decD_len 5 n (by simpa using h)
  rw [wholeF, if_neg, if_pos (decD_dig n), decD_val]
  rintro (e | e | ⟨e, e2⟩)
  · omega
  · omega
  · have := decD_head n e
    subst this
    rw [decD_small (by omega)] at e2
    simp at e2
theorem snoc_or : ∀ (l : List UInt8), l = [] ∨ ∃ t c, l = t ++ [c] := by
  intro l
  by_cases h : l = []
  · exact .inl h
  · exact .inr ⟨l.dropLast, l.getLast h, (List.dropLast_concat_getLast h).symm⟩
theorem val_pos : ∀ (n : Nat) (l : List UInt8), l.length = n → l.all isDig = true → l ≠ [] → l.getD 0 0 ≠ 48 → 0 < valD l := by
  intro n
  induction n with
  | zero => intro l hl _ hn; exact absurd (List.eq_nil_of_length_eq_zero hl) hn
  | succ n ih =>
    intro l hl hd hn h0
    rcases snoc_or l with rfl | ⟨t, c, rfl⟩
    · exact absurd rfl hn
    · rw [List.all_append] at hd
      simp at hd
      rw [valD_snoc]
      by_cases ht : t = []
      · subst ht
        simp at h0
        have hc := digC_digV hd.2
        have : digV c ≠ 0 := fun e => h0 (by rw [← hc.1, e]; rfl)
        omega
      · have hp : 0 < t.length := List.length_pos_iff.2 ht
        rw [getD_app hp] at h0
        have := ih t (by simpa using hl) (by simpa using hd.1) ht h0
        omega
theorem dec_val : ∀ (n : Nat) (l : List UInt8), l.length = n → l.all isDig = true → l ≠ [] → (l.getD 0 0 = 48 → l.length = 1) → decD (valD l) = l := by
  intro n
  induction n with
  | zero => intro l hl _ hn; exact absurd (List.eq_nil_of_length_eq_zero hl) hn
  | succ n ih =>
    intro l hl hd hn h0
    rcases snoc_or l with rfl | ⟨t, c, rfl⟩
    · exact absurd rfl hn
    · rw [List.all_append] at hd
      simp only [List.all_cons, List.all_nil, Bool.and_true, Bool.and_eq_true] at hd
      have hc := digC_digV hd.2
      rw [valD_snoc]
      by_cases ht : t = []
      · subst ht
        show decD (10 * 0 + digV c) = [c]
        rw [Nat.mul_zero, Nat.zero_add, decD_small hc.2, hc.1]
      · have hp : 0 < t.length := List.length_pos_iff.2 ht
        have hg : (t ++ [c]).getD 0 0 = t.getD 0 0 := getD_app hp
        have h48 : t.getD 0 0 ≠ 48 := fun e => by
          have := h0 (by rw [hg, e])
          rw [List.length_append, List.length_singleton] at this; omega
        have hv := val_pos t.length t rfl hd.1 ht h48
        rw [decD_big (by omega), show (10 * valD t + digV c) / 10 = valD t by omega, show (10 * valD t + digV c) % 10 = digV c by omega, hc.1, ih t (by simpa using hl) hd.1 ht (fun e => absurd e h48)]
theorem dec_whole {s : List UInt8} (h : 0 ≤ wholeF s) : wholeF s = (valD s : Int) ∧ decD (valD s) = s := by
  unfold wholeF at h ⊢
  by_cases h1 : s.length = 0 ∨ 6 < s.length ∨ (s.getD 0 0 = 48 ∧ 1 < s.length)
  · rw [if_pos h1] at h; omega
  · rw [if_neg h1] at h ⊢
    by_cases h2 : s.all isDig = true
    · rw [if_pos h2]
      refine ⟨rfl, dec_val s.length s rfl h2 (fun e => h1 (.inl (by rw [e]; rfl))) fun e => ?_⟩
      have a1 : ¬ s.length = 0 := fun e => h1 (.inl e)
      have a2 : ¬ 1 < s.length := fun e2 => h1 (.inr (.inr ⟨e, e2⟩))
      omega
    · rw [if_neg h2] at h; omega
/-- Digits of the base 16. -/
def hexC (n : Nat) : UInt8 := if n < 10 then UInt8.ofNat (48 + n) else UInt8.ofNat (87 + n)
def hexV (c : UInt8) : Int := if 48 ≤ c.toNat ∧ c.toNat ≤ 57 then (c.toNat : Int) - 48 else if 97 ≤ c.toNat ∧ c.toNat ≤ 102 then (c.toNat : Int) - 97 + 10 else -1
theorem hexV_hexC (n : Nat) (h : n < 16) : hexV (hexC n) = (n : Int) := (by decide +kernel : ∀ n : Fin 16, hexV (hexC n.1) = (n.1 : Int)) ⟨n, h⟩
theorem hexC_hexV (c : UInt8) (h : 0 ≤ hexV c) : hexC (hexV c).toNat = c ∧ hexV c < 16 := by
  have key : ∀ k : Fin 256, 0 ≤ hexV (UInt8.ofNat k.1) → hexC (hexV (UInt8.ofNat k.1)).toNat = UInt8.ofNat k.1 ∧ hexV (UInt8.ofNat k.1) < 16 := by decide +kernel
  have := key ⟨c.toNat, c.toNat_lt⟩
  simp only [UInt8.ofNat_toNat] at this
  exact this h
def hexL (bs : List UInt8) : List UInt8 := bs.flatMap fun c => [hexC (c.toNat / 16), hexC (c.toNat % 16)]
def hexB (a b : UInt8) : UInt8 := UInt8.ofNat (16 * hexV a + hexV b).toNat
def unhex : List UInt8 → Option (List UInt8)
  | [] => some []
  | [_] => none
  | a :: b :: r => if hexV a < 0 ∨ hexV b < 0 then none else match unhex r with | some bs => some (hexB a b :: bs) | none => none
theorem hexL_cons (c : UInt8) (bs : List UInt8) : hexL (c :: bs) = hexC (c.toNat / 16) :: hexC (c.toNat % 16) :: hexL bs := rfl
theorem hexL_len (bs : List UInt8) : (hexL bs).length = 2 * bs.length := by
  induction bs with
  | nil => rfl
  | cons c bs ih => rw [hexL_cons, List.length_cons, List.length_cons, ih, List.length_cons]; omega
theorem unhex_hexL : ∀ bs : List UInt8, unhex (hexL bs) = some bs
  | [] => rfl
  | c :: bs => by
    have hl := c.toNat_lt
    have h1 := hexV_hexC (c.toNat / 16) (by omega)
    have h2 := hexV_hexC (c.toNat % 16) (by omega)
    rw [hexL_cons, unhex, if_neg (by omega), unhex_hexL bs]
    show some (hexB _ _ :: bs) = _
    rw [hexB, h1, h2]
    congr 2
    apply UInt8.toNat_inj.1
    simp; omega
theorem hexL_unhex : ∀ (s bs : List UInt8), unhex s = some bs → hexL bs = s
  | [], bs, h => by cases h; rfl
  | [_], bs, h => by cases h
  | a :: b :: r, bs, h => by
    rw [unhex] at h
    by_cases hn : hexV a < 0 ∨ hexV b < 0
    · rw [if_pos hn] at h; cases h
    · rw [if_neg hn] at h
      match hr : unhex r with
      | none => rw [hr] at h; cases h
      | some cs =>
        rw [hr] at h
        obtain rfl : hexB a b :: cs = bs := by simpa using h
        obtain ⟨a1, a2⟩ := hexC_hexV a (by omega)
        obtain ⟨b1, b2⟩ := hexC_hexV b (by omega)
        have hB : (hexB a b).toNat = (hexV a).toNat * 16 + (hexV b).toNat := by
          unfold hexB; simp; omega
        rw [hexL_cons, hexL_unhex r cs hr, hB, show ((hexV a).toNat * 16 + (hexV b).toNat) / 16 = (hexV a).toNat by omega, show ((hexV a).toNat * 16 + (hexV b).toNat) % 16 = (hexV b).toNat by omega, a1, b1]
/-- Words, parted by single blanks. -/
def wordsF : List UInt8 → List (List UInt8)
  | [] => [[]]
  | c :: r => if c = 32 then [] :: wordsF r else match wordsF r with | w :: ws => (c :: w) :: ws | [] => [[c]]
theorem wordsF_ne : ∀ s, wordsF s ≠ []
  | [] => by simp [wordsF]
  | c :: r => by
    rw [wordsF]
    by_cases h : c = 32
    · rw [if_pos h]; simp
    · rw [if_neg h]
      split <;> simp
def joinW : List (List UInt8) → List UInt8
  | [] => []
  | [w] => w
  | w :: x :: ws => w ++ 32 :: joinW (x :: ws)
theorem join_words : ∀ s, joinW (wordsF s) = s
  | [] => rfl
  | c :: r => by
    have ih := join_words r
    have hne := wordsF_ne r
    rw [wordsF]
    by_cases h : c = 32
    · rw [if_pos h]
      match hw : wordsF r, hne with
      | w :: ws, _ =>
        rw [hw] at ih
        show [] ++ 32 :: joinW (w :: ws) = c :: r
        rw [ih, h]; rfl
    · rw [if_neg h]
      match hw : wordsF r, hne with
      | [w], _ => rw [hw] at ih; show c :: w = c :: r; rw [← ih]; rfl
      | w :: x :: ws, _ => rw [hw] at ih; show (c :: w) ++ 32 :: joinW (x :: ws) = c :: r; rw [← ih]; rfl
theorem words_one : ∀ (w : List UInt8), (∀ c ∈ w, c ≠ 32) → wordsF w = [w]
  | [], _ => rfl
  | c :: r, h => by
    rw [wordsF, if_neg (h c (by simp)), words_one r fun x hx => h x (by simp [hx])]
theorem words_cons : ∀ (w r : List UInt8), (∀ c ∈ w, c ≠ 32) → wordsF (w ++ 32 :: r) = w :: wordsF r
  | [], r, _ => by show wordsF (32 :: r) = _; rw [wordsF, if_pos rfl]
  | c :: w, r, h => by
    show wordsF (c :: (w ++ 32 :: r)) = _
    rw [wordsF, if_neg (h c (by simp)), words_cons w r fun x hx => h x (by simp [hx])]
/-- A line, and the act of a line. -/
def wAsk : List UInt8 := [97, 115, 107]
def wSync : List UInt8 := [115, 121, 110, 99]
def wCrash : List UInt8 := [99, 114, 97, 115, 104]
def wStart : List UInt8 := [115, 116, 97, 114, 116]
def lineF (a : Ac) : List UInt8 :=
  if a.kind = 1 then wAsk ++ 32 :: (decD a.sess.toNat ++ 32 :: hexL a.data) else if a.kind = 2 then wSync else if a.kind = 3 then wCrash ++ 32 :: decD a.keep.toNat else if a.kind = 4 then wStart else []
def rawA (ws : List (List UInt8)) : Ac :=
  match ws with
  | [w] => if w = wSync then ⟨2, 0, 0, []⟩ else if w = wStart then ⟨4, 0, 0, []⟩ else noAc
  | [w, x] => if w = wCrash then ⟨3, 0, wholeF x, []⟩ else noAc
  | [w, x, d] => if w = wAsk then (match unhex d with | some bs => ⟨1, wholeF x, 0, bs⟩ | none => noAc) else noAc
  | _ => noAc
def lineA (s : List UInt8) : Ac := if (rawA (wordsF s)).kind = 0 ∨ actE (rawA (wordsF s)) ≠ 0 then noAc else rawA (wordsF s)
theorem dig_no {l : List UInt8} (h : l.all isDig = true) : ∀ c ∈ l, c ≠ 32 ∧ c ≠ 10 := by
  intro c hc
  have := List.all_eq_true.1 h c hc
  simp [isDig] at this
  constructor <;> (intro e; subst e; revert this; decide)
theorem hex_no (bs : List UInt8) : ∀ c ∈ hexL bs, c ≠ 32 ∧ c ≠ 10 := by
  have key : ∀ n : Fin 16, hexC n.1 ≠ 32 ∧ hexC n.1 ≠ 10 := by decide +kernel
  intro c hc
  obtain ⟨b, _, hb⟩ := List.mem_flatMap.1 hc
  have hl := b.toNat_lt
  simp only [List.mem_cons, List.not_mem_nil, or_false] at hb
  rcases hb with rfl | rfl
  · exact key ⟨b.toNat / 16, by omega⟩
  · exact key ⟨b.toNat % 16, by omega⟩
theorem lineA_lineF {a : Ac} (h : ActOK a) : lineA (lineF a) = a := by
  have key : ∀ a' : Ac, rawA (wordsF (lineF a)) = a' → a'.kind ≠ 0 → actE a' = 0 → lineA (lineF a) = a' := fun a' h1 h2 h3 => by
    unfold lineA; rw [h1, if_neg]
    rintro (e | e)
    · exact h2 e
    · exact e h3
  have hk := h.kind
  have hz := (act_iff a).2 h
  refine key a ?_ (by omega) hz
  obtain ⟨k, s, q, d⟩ := a
  have hk' : k = 1 ∨ k = 2 ∨ k = 3 ∨ k = 4 := by
    have : 1 ≤ k ∧ k ≤ 4 := hk
    omega
  rcases hk' with rfl | rfl | rfl | rfl
  · have hs := h.sess rfl
    have hq : q = 0 := h.noKeep (by show (1 : Int) ≠ 3; decide)
    subst hq
    replace hs : 0 ≤ s ∧ s ≤ 7 := hs
    show rawA (wordsF (wAsk ++ 32 :: (decD s.toNat ++ 32 :: hexL d))) = _
    rw [words_cons _ _ (by decide), words_cons _ _ (fun c hc => (dig_no (decD_dig _) c hc).1), words_one _ (fun c hc => (hex_no d c hc).1)]
    show (if wAsk = wAsk then (match unhex (hexL d) with | some bs => (⟨1, wholeF (decD s.toNat), 0, bs⟩ : Ac) | none => noAc) else noAc) = _
    rw [if_pos rfl, unhex_hexL, whole_dec (by omega)]
    show (⟨1, (s.toNat : Int), 0, d⟩ : Ac) = _
    rw [show ((s.toNat : Nat) : Int) = s by omega]
  · have h1 : s = 0 := h.noSess (by show (2 : Int) ≠ 1; decide)
    have h2 : q = 0 := h.noKeep (by show (2 : Int) ≠ 3; decide)
    have h3 : d = [] := h.noData (by show (2 : Int) ≠ 1; decide)
    subst h1 h2 h3
    rfl
  · have h1 : s = 0 := h.noSess (by show (3 : Int) ≠ 1; decide)
    have h3 : d = [] := h.noData (by show (3 : Int) ≠ 1; decide)
    have hq := h.keep rfl
    replace hq : 0 ≤ q ∧ q ≤ 200000 := hq
    subst h1 h3
    show rawA (wordsF (wCrash ++ 32 :: decD q.toNat)) = _
    rw [words_cons _ _ (by decide), words_one _ (fun c hc => (dig_no (decD_dig _) c hc).1)]
    show (if wCrash = wCrash then (⟨3, 0, wholeF (decD q.toNat), []⟩ : Ac) else noAc) = _
    rw [if_pos rfl, whole_dec (by omega), show ((q.toNat : Nat) : Int) = q by omega]
  · have h1 : s = 0 := h.noSess (by show (4 : Int) ≠ 1; decide)
    have h2 : q = 0 := h.noKeep (by show (4 : Int) ≠ 3; decide)
    have h3 : d = [] := h.noData (by show (4 : Int) ≠ 1; decide)
    subst h1 h2 h3
    rfl
theorem lineF_no {a : Ac} : ∀ c ∈ lineF a, c ≠ 10 := by
  intro c hc
  unfold lineF at hc
  by_cases h1 : a.kind = 1
  · rw [if_pos h1] at hc
    rcases List.mem_append.1 hc with hc | hc
    · exact no_ask c hc
    · rcases List.mem_cons.1 hc with rfl | hc
      · decide
      · rcases List.mem_append.1 hc with hc | hc
        · exact (dig_no (decD_dig _) c hc).2
        · rcases List.mem_cons.1 hc with rfl | hc
          · decide
          · exact (hex_no _ c hc).2
  · rw [if_neg h1] at hc
    by_cases h2 : a.kind = 2
    · rw [if_pos h2] at hc; revert c; decide
    · rw [if_neg h2] at hc
      by_cases h3 : a.kind = 3
      · rw [if_pos h3] at hc
        rcases List.mem_append.1 hc with hc | hc
        · exact no_crash c hc
        · rcases List.mem_cons.1 hc with rfl | hc
          · decide
          · exact (dig_no (decD_dig _) c hc).2
      · rw [if_neg h3] at hc
        by_cases h4 : a.kind = 4
        · rw [if_pos h4] at hc; revert c; decide
        · rw [if_neg h4] at hc; simp at hc
/-- A line that is one is shown as it was. -/
theorem lineF_lineA {s : List UInt8} (h : (lineA s).kind ≠ 0) : ActOK (lineA s) ∧ lineF (lineA s) = s := by
  unfold lineA at h ⊢
  by_cases h1 : (rawA (wordsF s)).kind = 0 ∨ actE (rawA (wordsF s)) ≠ 0
  · rw [if_pos h1] at h; exact absurd rfl h
  · rw [if_neg h1] at h ⊢
    have hz : actE (rawA (wordsF s)) = 0 := Classical.byContradiction fun e => h1 (.inr e)
    have ho := (act_iff _).1 hz
    refine ⟨ho, ?_⟩
    have hj := join_words s
    revert hj h ho
    clear hz h1
    match wordsF s with
    | [] => intro h; exact absurd rfl h
    | [w] =>
      intro h ho hj
      show lineF (if w = wSync then ⟨2, 0, 0, []⟩ else if w = wStart then ⟨4, 0, 0, []⟩ else noAc) = s
      replace h : (if w = wSync then (⟨2, 0, 0, []⟩ : Ac) else if w = wStart then ⟨4, 0, 0, []⟩ else noAc).kind ≠ 0 := h
      by_cases e1 : w = wSync
      · rw [if_pos e1, ← hj, e1]; rfl
      · rw [if_neg e1] at h ⊢
        by_cases e2 : w = wStart
        · rw [if_pos e2, ← hj, e2]; rfl
        · rw [if_neg e2] at h; exact absurd rfl h
    | [w, x] =>
      intro h ho hj
      replace h : (if w = wCrash then (⟨3, 0, wholeF x, []⟩ : Ac) else noAc).kind ≠ 0 := h
      replace ho : ActOK (if w = wCrash then (⟨3, 0, wholeF x, []⟩ : Ac) else noAc) := ho
      show lineF (if w = wCrash then (⟨3, 0, wholeF x, []⟩ : Ac) else noAc) = s
      by_cases e1 : w = wCrash
      · rw [if_pos e1] at ho ⊢
        have hq := ho.keep rfl
        replace hq : 0 ≤ wholeF x ∧ wholeF x ≤ 200000 := hq
        obtain ⟨d1, d2⟩ := dec_whole hq.1
        show wCrash ++ 32 :: decD (wholeF x).toNat = s
        rw [d1, Int.toNat_natCast, d2, ← hj, e1]; rfl
      · rw [if_neg e1] at h; exact absurd rfl h
    | [w, x, d] =>
      intro h ho hj
      replace h : (if w = wAsk then (match unhex d with | some bs => (⟨1, wholeF x, 0, bs⟩ : Ac) | none => noAc) else noAc).kind ≠ 0 := h
      replace ho : ActOK (if w = wAsk then (match unhex d with | some bs => (⟨1, wholeF x, 0, bs⟩ : Ac) | none => noAc) else noAc) := ho
      show lineF (if w = wAsk then (match unhex d with | some bs => (⟨1, wholeF x, 0, bs⟩ : Ac) | none => noAc) else noAc) = s
      by_cases e1 : w = wAsk
      · rw [if_pos e1] at h ho ⊢
        match hu : unhex d with
        | none => rw [hu] at h; exact absurd rfl h
        | some bs =>
          rw [hu] at ho
          have hs := ho.sess rfl
          replace hs : 0 ≤ wholeF x ∧ wholeF x ≤ 7 := hs
          obtain ⟨d1, d2⟩ := dec_whole hs.1
          show wAsk ++ 32 :: (decD (wholeF x).toNat ++ 32 :: hexL bs) = s
          rw [d1, Int.toNat_natCast, d2, hexL_unhex d bs hu, ← hj, e1]; rfl
      · rw [if_neg e1] at h; exact absurd rfl h
    | w :: x :: y :: z :: ws => intro h; exact absurd rfl h
end Go.Proofs.YtpefggkhjocanaaDoor

/-
  A slice's shape, a block of two cells, a block that was named: no type named.
-/
namespace Go.Proofs.YtpefggkhjocanaaDoor
open Go.RowKit
theorem alloc_namedR (w : World) (o : Obj) : ∃ W : World, Hid (W = w.alloc o) ∧ w.grownBy W none ∧ Hid (W.heap[w.heap.size]? = some o) := ⟨w.alloc o, rfl, World.grownBy_alloc _ _ _, heap_alloc_new w o⟩
theorem SliceIs.shape {w : World} {v : Value} {bs : List UInt8} (h : SliceIs w v bs) : ∃ a cap, v = .slice a bs.length cap := by
  obtain ⟨a, cap, rfl, _⟩ := h
  exact ⟨a, cap, rfl⟩
theorem pair_room {W w : World} {b : Nat} {x y : Value} {t : TypeId} (hg : W.grownBy w none) (h : W.heap[b]? = some (.cells #[x, y] t)) :
    w.cell? ⟨b, 0, none⟩ = some x ∧ w.cell? ⟨b, 1, none⟩ = some y ∧ w.frozen? ⟨b, 0, none⟩ = false ∧ w.frozen? ⟨b, 1, none⟩ = false := by
  have hb : w.heap[b]? = some (.cells #[x, y] t) := by rw [hg.block b (Array.getElem?_eq_some_iff.1 h).1 (by simp)]; exact h
  refine ⟨by simp [World.cell?, hb], by simp [World.cell?, hb], by simp [World.frozen?, hb], by simp [World.frozen?, hb]⟩
theorem pair_room_elim {W w : World} {b : Nat} {x y : Value} {t : TypeId} (hg : W.grownBy w none) (h : W.heap[b]? = some (.cells #[x, y] t)) {G : Prop}
    (k : w.heap[b]? = some (.cells #[x, y] t) → w.cell? ⟨b, 0, none⟩ = some x → w.cell? ⟨b, 1, none⟩ = some y → w.frozen? ⟨b, 0, none⟩ = false → w.frozen? ⟨b, 1, none⟩ = false → G) : G := by
  obtain ⟨h1, h2, h3, h4⟩ := pair_room hg h
  exact k (by rw [hg.block b (Array.getElem?_eq_some_iff.1 h).1 (by simp)]; exact h) h1 h2 h3 h4
theorem pair_old {W w : World} {b : Nat} {o : Obj} (hg : W.grownBy w none) (h : W.heap[b]? = some o) : w.heap[b]? = some o := by
  rw [hg.block b (Array.getElem?_eq_some_iff.1 h).1 (by simp)]; exact h
end Go.Proofs.YtpefggkhjocanaaDoor

/-
  Texts of lines, with no program: what P10.3 and P10.4 say, and what comes of it.
-/
namespace Go.Proofs.YtpefggkhjocanaaDoor
open Go.RowKit
def showB (l : List Ac) : List UInt8 := l.flatMap fun a => lineF a ++ [10]
theorem showB_cons (a : Ac) (l : List Ac) : showB (a :: l) = lineF a ++ 10 :: showB l := by simp [showB]
theorem showB_append (l k : List Ac) : showB (l ++ k) = showB l ++ showB k := by simp [showB]
/-- The first act that may not be: its place and what is wrong. -/
def badA : Nat → List Ac → Option (Nat × Int)
  | _, [] => none
  | n, a :: l => if actE a = 0 then badA (n + 1) l else some (n, actE a)
def showE (l : List Ac) : Int := if 100000 < l.length then 1 else match badA 0 l with | none => 0 | some (_, e) => e
def showI (l : List Ac) : Nat := if 100000 < l.length then 0 else match badA 0 l with | none => 0 | some (i, _) => i
def showT (l : List Ac) : List UInt8 := if showE l = 0 then showB l else []
theorem badA_bad : ∀ (l : List Ac) (n i : Nat) (e : Int), badA n l = some (i, e) → e ≠ 0
  | [], _, _, _, h => by cases h
  | a :: l, n, i, e, h => by
    rw [badA] at h
    by_cases ha : actE a = 0
    · rw [if_pos ha] at h; exact badA_bad l _ _ _ h
    · rw [if_neg ha] at h
      simp at h
      rw [← h.2]; exact ha
theorem badA_none : ∀ (l : List Ac) (n : Nat), badA n l = none ↔ ∀ a ∈ l, ActOK a
  | [], _ => by simp [badA]
  | a :: l, n => by
    rw [badA]
    by_cases ha : actE a = 0
    · rw [if_pos ha, badA_none l (n + 1)]
      simp only [List.mem_cons, forall_eq_or_imp]
      exact ⟨fun h => ⟨(act_iff a).1 ha, h⟩, fun h => h.2⟩
    · rw [if_neg ha]
      exact ⟨fun h => (by cases h), fun h => absurd ((act_iff a).2 (h a (by simp))) ha⟩
/-- As the loop goes. -/
theorem badA_step (l : List Ac) (m : Nat) (hm : m < l.length) : badA m (l.drop m) = if actE (l.getD m noAc) = 0 then badA (m + 1) (l.drop (m + 1)) else some (m, actE (l.getD m noAc)) := by
  rw [List.drop_eq_getElem_cons hm, badA, show l[m] = l.getD m noAc by simp [hm]]
theorem showB_step (l : List Ac) (m : Nat) (hm : m < l.length) : showB (l.take (m + 1)) = showB (l.take m) ++ lineF (l.getD m noAc) ++ [10] := by
  rw [List.take_succ_eq_append_getElem hm, showB_append, show l[m] = l.getD m noAc by simp [hm], List.append_assoc]
  congr 1
  simp [showB]
theorem show_ok {l : List Ac} (h : ∀ a ∈ l, ActOK a) (hl : l.length ≤ 100000) : showE l = 0 ∧ showI l = 0 ∧ showT l = showB l := by
  have hb := (badA_none l 0).2 h
  have he : showE l = 0 := by rw [showE, if_neg (by omega), hb]
  exact ⟨he, by rw [showI, if_neg (by omega), hb], by rw [showT, if_pos he]⟩
/-- Reading: acts so far, the line so far, what is left; an error, its place, the acts. -/
def rdA : List Ac → List UInt8 → List UInt8 → Int × Nat × List Ac
  | acc, cur, [] => if cur.length = 0 then (0, 0, acc) else if acc.length = 100000 then (11, 100000, []) else (4, acc.length, [])
  | acc, cur, c :: r => if c = 10 then (if acc.length = 100000 then (11, 100000, []) else if (lineA cur).kind = 0 then (4, acc.length, []) else rdA (acc ++ [lineA cur]) [] r) else rdA acc (cur ++ [c]) r
def readE (t : List UInt8) : Int := if 2000000 < t.length then 1 else (rdA [] [] t).1
def readI (t : List UInt8) : Nat := if 2000000 < t.length then 0 else (rdA [] [] t).2.1
def readL (t : List UInt8) : List Ac := if 2000000 < t.length then [] else (rdA [] [] t).2.2
theorem rdA_run : ∀ (s : List UInt8) (acc : List Ac) (cur r : List UInt8), (∀ c ∈ s, c ≠ 10) → rdA acc cur (s ++ r) = rdA acc (cur ++ s) r
  | [], acc, cur, r, _ => by rw [List.nil_append, List.append_nil]
  | c :: s, acc, cur, r, h => by
    rw [List.cons_append, rdA, if_neg (h c (by simp)), rdA_run s acc (cur ++ [c]) r fun x hx => h x (by simp [hx])]
    rw [List.append_assoc]; rfl
theorem rdA_line {a : Ac} (h : ActOK a) (acc : List Ac) (r : List UInt8) (hl : acc.length < 100000) : rdA acc [] (lineF a ++ 10 :: r) = rdA (acc ++ [a]) [] r := by
  rw [rdA_run _ _ _ _ lineF_no, List.nil_append, rdA, if_pos rfl, if_neg (by omega), lineA_lineF h, if_neg (by have := h.kind; omega)]
theorem rdA_show : ∀ (l : List Ac) (acc : List Ac) (r : List UInt8), (∀ a ∈ l, ActOK a) → acc.length + l.length ≤ 100000 → rdA acc [] (showB l ++ r) = rdA (acc ++ l) [] r
  | [], acc, r, _, _ => by rw [List.append_nil]; rfl
  | a :: l, acc, r, h, hl => by
    rw [List.length_cons] at hl
    rw [showB_cons, List.append_assoc, List.cons_append, rdA_line (h a (by simp)) acc _ (by omega), rdA_show l (acc ++ [a]) r (fun x hx => h x (by simp [hx])) (by rw [List.length_append, List.length_singleton]; omega), List.append_assoc]
    rfl
theorem rdA_bad {w : List UInt8} (hw : ∀ c ∈ w, c ≠ 10) (hb : (lineA w).kind = 0) (acc : List Ac) (r : List UInt8) (hl : acc.length < 100000) : rdA acc [] (w ++ 10 :: r) = (4, acc.length, []) := by
  rw [rdA_run _ _ _ _ hw, List.nil_append, rdA, if_pos rfl, if_neg (by omega), if_pos hb]
theorem rdA_err : ∀ (r : List UInt8) (acc : List Ac) (cur : List UInt8), (rdA acc cur r).1 ≠ 0 → (rdA acc cur r).2.2 = []
  | [], acc, cur, h => by
    rw [rdA] at h ⊢
    by_cases h1 : cur.length = 0
    · rw [if_pos h1] at h; exact absurd rfl h
    · rw [if_neg h1]
      by_cases h2 : acc.length = 100000
      · rw [if_pos h2]
      · rw [if_neg h2]
  | c :: r, acc, cur, h => by
    rw [rdA] at h ⊢
    by_cases h1 : c = 10
    · rw [if_pos h1] at h ⊢
      by_cases h2 : acc.length = 100000
      · rw [if_pos h2]
      · rw [if_neg h2] at h ⊢
        by_cases h3 : (lineA cur).kind = 0
        · rw [if_pos h3]
        · rw [if_neg h3] at h ⊢
          exact rdA_err r _ _ h
    · rw [if_neg h1] at h ⊢
      exact rdA_err r _ _ h
theorem rdA_fixed : ∀ (r : List UInt8) (acc : List Ac) (cur : List UInt8), (rdA acc cur r).1 = 0 → acc.length ≤ 100000 → (rdA acc cur r).2.1 = 0 ∧ ∃ cs, (rdA acc cur r).2.2 = acc ++ cs ∧ (∀ a ∈ cs, ActOK a) ∧ cur ++ r = showB cs ∧ (acc ++ cs).length ≤ 100000
  | [], acc, cur, h, hl => by
    rw [rdA] at h ⊢
    by_cases h1 : cur.length = 0
    · rw [if_pos h1]
      exact ⟨rfl, [], by rw [List.append_nil], fun a ha => (by simp at ha), by rw [List.eq_nil_of_length_eq_zero h1]; rfl, by rw [List.append_nil]; exact hl⟩
    · rw [if_neg h1] at h
      by_cases h2 : acc.length = 100000
      · rw [if_pos h2] at h; cases h
      · rw [if_neg h2] at h; cases h
  | c :: r, acc, cur, h, hl => by
    rw [rdA] at h ⊢
    by_cases h1 : c = 10
    · rw [if_pos h1] at h ⊢
      by_cases h2 : acc.length = 100000
      · rw [if_pos h2] at h; cases h
      · rw [if_neg h2] at h ⊢
        by_cases h3 : (lineA cur).kind = 0
        · rw [if_pos h3] at h; cases h
        · rw [if_neg h3] at h ⊢
          obtain ⟨a1, a2⟩ := lineF_lineA h3
          obtain ⟨k1, cs, k2, k3, k4, k5⟩ := rdA_fixed r (acc ++ [lineA cur]) [] h (by rw [List.length_append, List.length_singleton]; omega)
          refine ⟨k1, lineA cur :: cs, by rw [k2, List.append_assoc]; rfl, fun a ha => ?_, ?_, by rw [List.append_assoc] at k5; exact k5⟩
          · rcases List.mem_cons.1 ha with rfl | ha
            · exact a1
            · exact k3 a ha
          · rw [showB_cons, a2, ← k4, h1]; rfl
    · rw [if_neg h1] at h ⊢
      obtain ⟨k1, cs, k2, k3, k4, k5⟩ := rdA_fixed r acc (cur ++ [c]) h hl
      exact ⟨k1, cs, k2, k3, by rw [← k4, List.append_assoc]; rfl, k5⟩
/-- ACTS ARE READ AS THEY WERE SHOWN. -/
theorem read_show {l : List Ac} (h : ∀ a ∈ l, ActOK a) (hl : l.length ≤ 100000) (ht : (showB l).length ≤ 2000000) : readE (showB l) = 0 ∧ readI (showB l) = 0 ∧ readL (showB l) = l := by
  have e : rdA [] [] (showB l) = (0, 0, l) := by
    have := rdA_show l [] [] h (by simpa using hl)
    rw [List.append_nil, List.nil_append] at this
    rw [this, rdA, if_pos (by rfl)]
  exact ⟨by rw [readE, if_neg (by omega), e], by rw [readI, if_neg (by omega), e], by rw [readL, if_neg (by omega), e]⟩
/-- AND SHOWN AS THEY WERE READ. -/
theorem show_read {t : List UInt8} (h : readE t = 0) : readI t = 0 ∧ (∀ a ∈ readL t, ActOK a) ∧ (readL t).length ≤ 100000 ∧ showB (readL t) = t := by
  unfold readE at h
  by_cases hl : 2000000 < t.length
  · rw [if_pos hl] at h; cases h
  · rw [if_neg hl] at h
    obtain ⟨k1, cs, k2, k3, k4, k5⟩ := rdA_fixed t [] [] h (by simp)
    rw [List.nil_append] at k2 k4 k5
    have e : readL t = cs := by rw [readL, if_neg hl, k2]
    rw [e]
    exact ⟨by rw [readI, if_neg hl, k1], k3, k5, k4.symm⟩
theorem read_err {t : List UInt8} (h : readE t ≠ 0) : readL t = [] := by
  unfold readE at h
  unfold readL
  by_cases hl : 2000000 < t.length
  · rw [if_pos hl]
  · rw [if_neg hl] at h ⊢
    exact rdA_err t [] [] h
/-- A LINE THAT IS NONE IS TOLD BY ITS PLACE. -/
theorem read_bad {l : List Ac} (h : ∀ a ∈ l, ActOK a) (hl : l.length < 100000) {w : List UInt8} (hw : ∀ c ∈ w, c ≠ 10) (hb : (lineA w).kind = 0) (r : List UInt8) (ht : (showB l ++ (w ++ 10 :: r)).length ≤ 2000000) : readE (showB l ++ (w ++ 10 :: r)) = 4 ∧ readI (showB l ++ (w ++ 10 :: r)) = l.length ∧ readL (showB l ++ (w ++ 10 :: r)) = [] := by
  have e : rdA [] [] (showB l ++ (w ++ 10 :: r)) = (4, l.length, []) := by
    rw [rdA_show l [] _ h (by simp; omega), List.nil_append, rdA_bad hw hb l r hl]
  exact ⟨by rw [readE, if_neg (by omega), e], by rw [readI, if_neg (by omega), e], by rw [readL, if_neg (by omega), e]⟩
/-- How long lines are. -/
theorem lineF_len {a : Ac} (h : ActOK a) : (lineF a).length ≤ 12 + 2 * a.data.length := by
  have hk := h.kind
  unfold lineF
  by_cases h1 : a.kind = 1
  · rw [if_pos h1]
    have hs := h.sess h1
    have := decD_len 5 a.sess.toNat (by have : a.sess.toNat ≤ 7 := (by omega); show _ < 1000000; omega)
    have hx := hexL_len a.data
    simp only [List.length_append, List.length_cons, wAsk, List.length_nil]
    omega
  · rw [if_neg h1]
    by_cases h2 : a.kind = 2
    · rw [if_pos h2]; simp [wSync]; omega
    · rw [if_neg h2]
      by_cases h3 : a.kind = 3
      · rw [if_pos h3]
        have hs := h.keep h3
        have := decD_len 5 a.keep.toNat (by have : a.keep.toNat ≤ 200000 := (by omega); show _ < 1000000; omega)
        simp only [List.length_append, List.length_cons, wCrash, List.length_nil]
        omega
      · rw [if_neg h3]
        by_cases h4 : a.kind = 4
        · rw [if_pos h4]; simp [wStart]; omega
        · rw [if_neg h4]; simp
theorem showB_len : ∀ (l : List Ac) (m : Nat), (∀ a ∈ l, ActOK a ∧ a.data.length ≤ m) → (showB l).length ≤ (13 + 2 * m) * l.length
  | [], m, _ => by simp [showB]
  | a :: l, m, h => by
    have h1 := h a (by simp)
    have h2 := lineF_len h1.1
    have ih := showB_len l m fun x hx => h x (by simp [hx])
    rw [showB_cons, List.length_append, List.length_cons, List.length_cons, Nat.mul_succ]
    omega
/-- What canopykeep.Act makes: of a kind (0 to 3), a number for each word, bytes. -/
def acOf (k s q : Nat) (d : List UInt8) : Ac := if k = 0 then ⟨1, (s : Int), 0, d.take 80⟩ else if k = 2 then ⟨3, 0, (q : Int), []⟩ else ⟨(k : Int) + 1, 0, 0, []⟩
theorem acOf_ok {k s q : Nat} (hk : k < 4) (hs : s < 8) (hq : q < 1000) (d : List UInt8) : ActOK (acOf k s q d) ∧ (acOf k s q d).data.length ≤ 80 := by
  unfold acOf
  by_cases h0 : k = 0
  · rw [if_pos h0]
    refine ⟨⟨(by show (1 : Int) ≤ 1 ∧ (1 : Int) ≤ 4; omega), fun _ => (by show 0 ≤ (s : Int) ∧ (s : Int) ≤ 7; omega), fun h => (by cases h), by show (d.take 80).length ≤ 4000; rw [List.length_take]; omega, fun h => absurd rfl h, fun _ => rfl, fun h => absurd rfl h⟩, by show (d.take 80).length ≤ 80; rw [List.length_take]; omega⟩
  · rw [if_neg h0]
    by_cases h2 : k = 2
    · rw [if_pos h2]
      refine ⟨⟨(by show (1 : Int) ≤ 3 ∧ (3 : Int) ≤ 4; omega), fun h => (by cases h), fun _ => (by show 0 ≤ (q : Int) ∧ (q : Int) ≤ 200000; omega), (by simp), fun _ => rfl, fun h => absurd rfl h, fun _ => rfl⟩, by simp⟩
    · rw [if_neg h2]
      refine ⟨⟨by show (1 : Int) ≤ (k : Int) + 1 ∧ (k : Int) + 1 ≤ 4; omega, fun h => ?_, fun h => ?_, by simp, fun _ => rfl, fun _ => rfl, fun _ => rfl⟩, by simp⟩
      · replace h : (k : Int) + 1 = 1 := h; omega
      · replace h : (k : Int) + 1 = 3 := h; omega
/-- ActBare. -/
theorem bare_sess {a : Ac} (h : ActOK a) : decide (actE ⟨a.kind, 3, a.keep, a.data⟩ = 0) = decide (a.kind = 1) := by
  by_cases h1 : a.kind = 1
  · rw [decide_eq_true h1, decide_eq_true]
    exact (act_iff _).2 ⟨h.kind, fun _ => by show (0 : Int) ≤ 3 ∧ (3 : Int) ≤ 7; omega, h.keep, h.data, fun e => absurd h1 e, h.noKeep, h.noData⟩
  · rw [decide_eq_false h1, decide_eq_false]
    intro e
    have := ((act_iff _).1 e).noSess h1
    replace this : (3 : Int) = 0 := this
    omega
theorem bare_keep {a : Ac} (h : ActOK a) : decide (actE ⟨a.kind, a.sess, 9, a.data⟩ = 0) = decide (a.kind = 3) := by
  by_cases h1 : a.kind = 3
  · rw [decide_eq_true h1, decide_eq_true]
    exact (act_iff _).2 ⟨h.kind, h.sess, fun _ => by show (0 : Int) ≤ 9 ∧ (9 : Int) ≤ 200000; omega, h.data, h.noSess, fun e => absurd h1 e, h.noData⟩
  · rw [decide_eq_false h1, decide_eq_false]
    intro e
    have := ((act_iff _).1 e).noKeep h1
    replace this : (9 : Int) = 0 := this
    omega
theorem bare_data {a : Ac} (h : ActOK a) (x : UInt8) : decide (actE ⟨a.kind, a.sess, a.keep, [x]⟩ = 0) = decide (a.kind = 1) := by
  by_cases h1 : a.kind = 1
  · rw [decide_eq_true h1, decide_eq_true]
    exact (act_iff _).2 ⟨h.kind, h.sess, h.keep, by simp, fun e => absurd h1 e, h.noKeep, fun e => absurd h1 e⟩
  · rw [decide_eq_false h1, decide_eq_false]
    intro e
    have := ((act_iff _).1 e).noData h1
    replace this : [x] = [] := this
    cases this
theorem show_long {l : List Ac} (h : 100000 < l.length) : showE l = 1 ∧ showI l = 0 ∧ showT l = [] := by
  have e : showE l = 1 := by rw [showE, if_pos h]
  exact ⟨e, by rw [showI, if_pos h], by rw [showT, e, if_neg (by decide)]⟩
theorem show_end {l : List Ac} (h : l.length ≤ 100000) (hb : badA 0 l = none) : showE l = 0 ∧ showI l = 0 ∧ showT l = showB l := by
  have e : showE l = 0 := by rw [showE, if_neg (by omega), hb]
  exact ⟨e, by rw [showI, if_neg (by omega), hb], by rw [showT, if_pos e]⟩
theorem show_bad {l : List Ac} (h : l.length ≤ 100000) {i : Nat} {e : Int} (hb : badA 0 l = some (i, e)) (he : e ≠ 0) : showE l = e ∧ showI l = i ∧ showT l = [] := by
  have h1 : showE l = e := by rw [showE, if_neg (by omega), hb]
  exact ⟨h1, by rw [showI, if_neg (by omega), hb], by rw [showT, h1, if_neg he]⟩
theorem show_go {l : List Ac} {m : Nat} (hm : m < l.length) (hb : badA 0 l = badA m (l.drop m)) :
    (actE (l.getD m noAc) = 0 → badA 0 l = badA (m + 1) (l.drop (m + 1))) ∧ (actE (l.getD m noAc) ≠ 0 → badA 0 l = some (m, actE (l.getD m noAc))) := by
  rw [hb, badA_step l m hm]
  exact ⟨fun h => by rw [if_pos h], fun h => by rw [if_neg h]⟩
end Go.Proofs.YtpefggkhjocanaaDoor

/-
  Bytes that a list of structs of the call's own may hold.
-/
namespace Go.Proofs.YtpefggkhjocanaaDoor
open Go.RowKit
/-- Bytes that a list of pairs of the call's own may hold: they lie ahead of it, or in a block of bytes. -/
def PartIs (base : Nat) (w : World) (v : Value) (bs : List UInt8) : Prop :=
  SliceIs w v bs ∧ (bs = [] ∨ ∃ b, v.ownBlock = some b ∧ b < w.heap.size ∧ (b < base ∨ ∃ cur fz, w.heap[b]? = some (.cells cur 5 fz)))
theorem PartIs.slice {base : Nat} {w : World} {v : Value} {bs : List UInt8} (h : PartIs base w v bs) : SliceIs w v bs := h.1
theorem Own.part {base base' : Nat} {w : World} {v : Value} {bs : List UInt8} (h : Own base' w v bs) : PartIs base w v bs := by
  refine ⟨h.slice, ?_⟩
  rcases h.2 with ⟨rfl, h0⟩ | ⟨g, cap, cur, rfl, hb, hg, _⟩
  · exact .inl (List.eq_nil_of_length_eq_zero h0)
  · exact .inr ⟨g, rfl, (Array.getElem?_eq_some_iff.1 hg).1, .inr ⟨cur, _, hg⟩⟩
theorem cell_lt {w : World} {b o : Nat} {v : Value} (h : w.cell? ⟨b, o, none⟩ = some v) : b < w.heap.size := by
  by_cases hb : b < w.heap.size
  · exact hb
  · simp [World.cell?, Array.getElem?_eq_none (Nat.le_of_not_lt hb)] at h
theorem SliceIs.part {w w' : World} {v : Value} {bs : List UInt8} (h : SliceIs w v bs) (hg : w.grownBy w' none) (base : Nat) (hb : w.heap.size ≤ base) : PartIs base w' v bs := by
  refine ⟨h.grown hg, ?_⟩
  obtain ⟨a, cap, rfl, hc, h⟩ := h
  rcases h with ⟨rfl, _⟩ | ⟨b, o, rfl, h⟩
  · exact .inl rfl
  · by_cases h0 : bs = []
    · exact .inl h0
    · have hl : 0 < bs.length := List.length_pos_iff.2 h0
      have := cell_lt (h 0 hl)
      exact .inr ⟨b, rfl, Nat.lt_of_lt_of_le this hg.size, .inl (by omega)⟩
theorem PartIs.mono {base base' : Nat} {w : World} {v : Value} {bs : List UInt8} (h : PartIs base w v bs) (hb : base ≤ base') : PartIs base' w v bs := by
  refine ⟨h.1, ?_⟩
  rcases h.2 with h | ⟨b, h1, h2, h3⟩
  · exact .inl h
  · refine .inr ⟨b, h1, h2, ?_⟩
    rcases h3 with h3 | h3
    · exact .inl (by omega)
    · exact .inr h3
theorem part_oneCell {base : Nat} {w : World} {v : Value} {bs : List UInt8} (h : PartIs base w v bs) : v.oneCell' = true := by
  obtain ⟨⟨a, cap, rfl, _⟩, _⟩ := h
  rfl
/-- A block of the call's own turns that holds no bytes: bytes stay. -/
theorem PartIs.keptT {base : Nat} {w w' : World} {v : Value} {bs : List UInt8} (h : PartIs base w v bs) {row : Option Nat} (hg : w.grownBy w' row) (hrow : row = none ∨ ∃ g cur t fz, row = some g ∧ base ≤ g ∧ w.heap[g]? = some (.cells cur t fz) ∧ t ≠ 5) : PartIs base w' v bs := by
  obtain ⟨hs, ho⟩ := h
  rcases ho with rfl | ⟨b, hb, hlt, hc⟩
  · obtain ⟨a, cap, rfl, hc, h⟩ := hs
    refine ⟨⟨a, cap, rfl, hc, ?_⟩, .inl rfl⟩
    rcases h with h | ⟨b, o, rfl, h⟩
    · exact .inl h
    · exact .inr ⟨b, o, rfl, fun i hi => by simp at hi⟩
  · have hne : some b ≠ row := by
      intro e
      rcases hrow with rfl | ⟨g, cur, t, fz, rfl, hbg, hgc, ht⟩
      · cases e
      · cases e
        rcases hc with hc | ⟨cur2, fz2, hc⟩
        · omega
        · rw [hc] at hgc
          simp only [Option.some.injEq, Obj.cells.injEq] at hgc
          exact ht hgc.2.1.symm
    have hblk := hg.block b hlt hne
    refine ⟨?_, .inr ⟨b, hb, Nat.lt_of_lt_of_le hlt hg.size, ?_⟩⟩
    · obtain ⟨a, cap, rfl, hcp, h⟩ := hs
      refine ⟨a, cap, rfl, hcp, ?_⟩
      rcases h with h | ⟨b', o, rfl, h⟩
      · exact .inl h
      · refine .inr ⟨b', o, rfl, fun i hi => ?_⟩
        simp [Value.ownBlock] at hb
        subst hb
        exact hg.cell (h i hi) (by simpa using hne)
    · rcases hc with hc | ⟨cur, fz, hc⟩
      · exact .inl hc
      · exact .inr ⟨cur, fz, by rw [hblk]; exact hc⟩
end Go.Proofs.YtpefggkhjocanaaDoor

/-
  What P10.1 refuses, kind by kind, with no program.
-/
namespace Go.Proofs.YtpefggkhjocanaaDoor
open Go.RowKit
theorem act_ask (s q : Int) (d : List UInt8) : actE ⟨1, s, q, d⟩ = if 0 ≤ s ∧ s ≤ 7 then (if 4000 < d.length then 1 else if q = 0 then 0 else 4) else 2 := by
  unfold actE
  rw [if_pos (by show (1 : Int) ≤ 1 ∧ (1 : Int) ≤ 4; omega)]
  by_cases h1 : 0 ≤ s ∧ s ≤ 7
  · rw [if_pos h1, if_neg (by rintro (⟨_, h⟩ | ⟨h, _⟩); exact h h1; cases h)]
    by_cases h2 : 4000 < d.length
    · rw [if_pos h2, if_pos h2]
    · rw [if_neg h2, if_neg h2]
      by_cases h3 : q = 0
      · rw [if_pos h3, if_neg]
        rintro (⟨h, _⟩ | ⟨_, h⟩ | ⟨h, _⟩)
        · exact h rfl
        · exact h h3
        · exact h rfl
      · rw [if_neg h3, if_pos (.inr (.inl ⟨by show (1 : Int) ≠ 3; decide, h3⟩))]
  · rw [if_neg h1, if_pos (.inl ⟨rfl, h1⟩)]
theorem act_crash (s q : Int) (d : List UInt8) : actE ⟨3, s, q, d⟩ = if 0 ≤ q ∧ q ≤ 200000 then (if 4000 < d.length then 1 else if s = 0 then (if 0 < d.length then 4 else 0) else 4) else 2 := by
  unfold actE
  rw [if_pos (by show (1 : Int) ≤ 3 ∧ (3 : Int) ≤ 4; omega)]
  by_cases h1 : 0 ≤ q ∧ q ≤ 200000
  · rw [if_pos h1, if_neg (by rintro (⟨h, _⟩ | ⟨_, h⟩); cases h; exact h h1)]
    by_cases h2 : 4000 < d.length
    · rw [if_pos h2, if_pos h2]
    · rw [if_neg h2, if_neg h2]
      by_cases h3 : s = 0
      · rw [if_pos h3]
        by_cases h4 : 0 < d.length
        · rw [if_pos h4, if_pos (.inr (.inr ⟨by show (3 : Int) ≠ 1; decide, h4⟩))]
        · rw [if_neg h4, if_neg]
          rintro (⟨_, h⟩ | ⟨h, _⟩ | ⟨_, h⟩)
          · exact h h3
          · exact h rfl
          · exact h4 h
      · rw [if_neg h3, if_pos (.inl ⟨by show (3 : Int) ≠ 1; decide, h3⟩)]
  · rw [if_neg h1, if_pos (.inr ⟨rfl, h1⟩)]
theorem act_bare (k s q : Int) (d : List UInt8) (hk : k = 2 ∨ k = 4) : actE ⟨k, s, q, d⟩ = if 4000 < d.length then 1 else if s = 0 then (if q = 0 then (if 0 < d.length then 4 else 0) else 4) else 4 := by
  unfold actE
  have k1 : ¬ k = 1 := by omega
  have k3 : ¬ k = 3 := by omega
  rw [if_pos (by show 1 ≤ k ∧ k ≤ 4; omega), if_neg (by rintro (⟨h, _⟩ | ⟨h, _⟩); exact k1 h; exact k3 h)]
  by_cases h2 : 4000 < d.length
  · rw [if_pos h2, if_pos h2]
  · rw [if_neg h2, if_neg h2]
    by_cases h3 : s = 0
    · rw [if_pos h3]
      by_cases h5 : q = 0
      · rw [if_pos h5]
        by_cases h4 : 0 < d.length
        · rw [if_pos h4, if_pos (.inr (.inr ⟨k1, h4⟩))]
        · rw [if_neg h4, if_neg]
          rintro (⟨_, h⟩ | ⟨_, h⟩ | ⟨_, h⟩)
          · exact h h3
          · exact h h5
          · exact h4 h
      · rw [if_neg h5, if_pos (.inr (.inl ⟨k3, h5⟩))]
    · rw [if_neg h3, if_pos (.inl ⟨k1, h3⟩)]
end Go.Proofs.YtpefggkhjocanaaDoor

/-
  append of bytes as a step of a region that draws its order.
-/
namespace Go.Proofs.YtpefggkhjocanaaDoor
open Go.RowKit
theorem step_append_bytes {w : World} {ops : Array Oper} {o : Oper} {a : Act} {K : Act → World → Prop} {Q : Exit → Act → World → Prop} {E : Prop} (hgd : o.guard = none) (s x : Operand)
    (ho : o.op = .call { callee := .builtin .append, args := #[s, x], argTypes := #[34, 34] }) (base : Nat) (v : Value) (bs : List UInt8) (hs : a.eval s = v) (hown : Own base w v bs)
    (xa : Option Addr) (m cap : Nat) (cs : List UInt8) (hx : a.eval x = .slice xa m cap) (hsl : SliceIs w (.slice xa m cap) cs) (hbytes : bs.length + m ≤ 140737488355328) (hbase : base ≤ w.heap.size)
    (h : ∀ v' w', Own base w' v' (bs ++ cs) → w.grownBy w' v.ownBlock → K (a.put o.dst v') w') : if Region.wanted o (yielded ops a.tmps) = true then Oper.wp Tryd.prog o a w K Q else E := by
  have hw : Region.wanted o (yielded ops a.tmps) = true := by simp [Region.wanted, hgd]
  rw [if_pos hw]
  obtain ⟨v', w', hrun, ho', hg⟩ := append_bytes w base o.type v bs hown xa m cap cs hsl hbytes hbase
  unfold Oper.wp
  simp [execOp, ho, resolve, invoke, builtin, hs, hx, hrun, Result.andThen]
  exact h v' w' ho' hg
end Go.Proofs.YtpefggkhjocanaaDoor

/-
  Pieces of a slice of bytes: b[:n], b[m:], b[i:j]; a byte at a place.
-/
namespace Go.Proofs.YtpefggkhjocanaaDoor
open Go.RowKit
theorem sizeByte (w : World) : (sizeOf (Tryd.prog.elem 34)).run Tryd.prog w = .ok 1 w := by kernel_rfl
theorem SliceIs.cap {w : World} {a : Option Addr} {n cap : Nat} {bs : List UInt8} (h : SliceIs w (.slice a n cap) bs) : bs.length ≤ cap ∧ n = bs.length := by
  obtain ⟨a', cap', e, hc, _⟩ := h
  simp only [Value.slice.injEq] at e
  obtain ⟨_, rfl, rfl⟩ := e
  exact ⟨hc, rfl⟩
theorem SliceIs.byte {w : World} {a : Option Addr} {n cap : Nat} {bs : List UInt8} (h : SliceIs w (.slice a n cap) bs) (i : Nat) (hi : i < bs.length) : ∃ b o, a = some ⟨b, o, none⟩ ∧ BytesAt w b o bs := by
  obtain ⟨a', cap', e, hc, h⟩ := h
  simp only [Value.slice.injEq] at e
  obtain ⟨rfl, rfl, rfl⟩ := e
  rcases h with ⟨rfl, _⟩ | ⟨b, o, rfl, h⟩
  · simp at hi
  · exact ⟨b, o, rfl, h⟩
theorem SliceIs.sliced {w : World} {a : Option Addr} {cap : Nat} {l : List UInt8} (h : SliceIs w (.slice a l.length cap) l) (i j : Nat) (hij : i ≤ j) (hj : j ≤ l.length) : SliceIs w (Go.sliced a i j cap 1) ((l.take j).drop i) := by
  obtain ⟨a', cap', e, hc, h⟩ := h
  simp only [Value.slice.injEq, true_and] at e
  obtain ⟨rfl, rfl⟩ := e
  have hlen : ((l.take j).drop i).length = j - i := by simp; omega
  refine ⟨if cap = i then a else a.map (·.add (i * 1)), cap - i, by rw [hlen]; rfl, by rw [hlen]; omega, ?_⟩
  by_cases hci : cap = i
  · left
    exact ⟨List.eq_nil_of_length_eq_zero (by rw [hlen]; omega), fun _ => by omega⟩
  · rw [if_neg hci]
    rcases h with ⟨rfl, h⟩ | ⟨b, o, rfl, h⟩
    · left
      refine ⟨by simp, fun e => ?_⟩
      cases a with
      | none => have := h rfl; simp at hj; omega
      | some x => cases e
    · right
      refine ⟨b, o + i, by simp [addr_add], fun k hk => ?_⟩
      rw [hlen] at hk
      have := h (i + k) (by omega)
      have e : ((l.take j).drop i).getD k 0 = l.getD (i + k) 0 := by simp [show i + k < j by omega]
      rw [e, show o + i + k = o + (i + k) by omega]
      exact this
theorem bslice_h (a : Option Addr) (cap : Nat) (l : List UInt8) (n : Nat) (hn : n ≤ l.length) (hc : l.length ≤ cap) : ∃ a1 c1, (∀ W, (Instr.slice 34 (.slice a l.length cap) none (some (.int .i64 (n : Int))) none).run Tryd.prog W = .ok (.slice a1 n c1) W) ∧ ∀ W, SliceIs W (.slice a l.length cap) l → SliceIs W (.slice a1 n c1) (l.take n) := by
  refine ⟨if cap = 0 then a else a.map (·.add (0 * 1)), cap - 0, fun W => ?_, fun W h => ?_⟩
  · rw [run_slice_h _ _ _ _ _ (by kernel_rfl) _ _ (by omega) (by omega), sizeByte]
    simp only [Result.andThen, Go.sliced, Int.toNat_natCast, Nat.sub_zero]
  · have := h.sliced 0 n (by omega) hn
    simpa only [Go.sliced, List.drop_zero, Nat.sub_zero] using this
theorem bslice_lh (a : Option Addr) (cap : Nat) (l : List UInt8) (i j : Nat) (hij : i ≤ j) (hj : j ≤ l.length) (hc : l.length ≤ cap) : ∃ a1 c1, (∀ W, (Instr.slice 34 (.slice a l.length cap) (some (.int .i64 (i : Int))) (some (.int .i64 (j : Int))) none).run Tryd.prog W = .ok (.slice a1 (j - i) c1) W) ∧ ∀ W, SliceIs W (.slice a l.length cap) l → SliceIs W (.slice a1 (j - i) c1) ((l.take j).drop i) := by
  refine ⟨if cap = i then a else a.map (·.add (i * 1)), cap - i, fun W => ?_, fun W h => ?_⟩
  · rw [run_slice_lh _ _ _ _ _ (by kernel_rfl) _ _ _ _ (by omega) (by omega) (by omega), sizeByte]
    simp only [Result.andThen, Go.sliced, Int.toNat_natCast]
  · have := h.sliced i j hij hj
    simpa only [Go.sliced] using this
theorem bslice_l (a : Option Addr) (cap : Nat) (l : List UInt8) (n : Nat) (hn : n ≤ l.length) : ∃ a1 c1, (∀ W, (Instr.slice 34 (.slice a l.length cap) (some (.int .i64 (n : Int))) none none).run Tryd.prog W = .ok (.slice a1 (l.length - n) c1) W) ∧ ∀ W, SliceIs W (.slice a l.length cap) l → SliceIs W (.slice a1 (l.length - n) c1) (l.drop n) := by
  refine ⟨if cap = n then a else a.map (·.add (n * 1)), cap - n, fun W => ?_, fun W h => ?_⟩
  · rw [run_slice_l _ _ _ _ _ (by kernel_rfl) _ _ (by omega) (by omega), sizeByte]
    simp only [Result.andThen, Go.sliced, Int.toNat_natCast]
  · have := h.sliced n l.length hn (Nat.le_refl _)
    simpa only [Go.sliced, List.take_length] using this
end Go.Proofs.YtpefggkhjocanaaDoor
