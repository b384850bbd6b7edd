/-
  A text's lines, with no program.
-/
import Derived.Test.YtpefggkhjocanaaDoorPart1
import Derived.Lib.Bytealg
namespace Go.Proofs.YtpefggkhjocanaaDoor
open Go.RowKit
/-- The lines, each with its line feed; the last one may be without. -/
def splitL : List UInt8 → List UInt8 → List (List UInt8)
  | cur, [] => if cur = [] then [] else [cur]
  | cur, c :: r => if c = 10 then (cur ++ [10]) :: splitL [] r else splitL (cur ++ [c]) r
theorem split_run : ∀ (x cur r : List UInt8), (∀ c ∈ x, c ≠ 10) → splitL cur (x ++ r) = splitL (cur ++ x) r
  | [], cur, r, _ => by rw [List.nil_append, List.append_nil]
  | c :: x, cur, r, h => by
    rw [List.cons_append, splitL, if_neg (h c (by simp)), split_run x (cur ++ [c]) r fun y hy => h y (by simp [hy]), List.append_assoc]
    rfl
theorem split_at {x : List UInt8} (r : List UInt8) (h : ∀ c ∈ x, c ≠ 10) : splitL [] (x ++ 10 :: r) = (x ++ [10]) :: splitL [] r := by
  rw [split_run x [] _ h, List.nil_append, splitL, if_pos rfl]
theorem split_end {x : List UInt8} (h : ∀ c ∈ x, c ≠ 10) (hn : x ≠ []) : splitL [] x = [x] := by
  have := split_run x [] [] h
  rw [List.append_nil, List.nil_append] at this
  rw [this, splitL, if_neg hn]
theorem split_nil : splitL [] [] = [] := rfl
/-- Where the first line ends. -/
def endL (t : List UInt8) : Nat := if Lib.indexByte t 10 = -1 then t.length else (Lib.indexByte t 10 + 1).toNat
theorem index_no : ∀ (t : List UInt8), (∀ c ∈ t, c ≠ 10) → Lib.indexByte t 10 = -1
  | [], _ => rfl
  | c :: t, h => by
    have h1 : (c == 10) = false := by rw [beq_eq_false_iff_ne]; exact h c (by simp)
    rw [Lib.indexByte, h1, index_no t fun y hy => h y (by simp [hy])]
    rfl
theorem index_yes : ∀ (x r : List UInt8), (∀ c ∈ x, c ≠ 10) → Lib.indexByte (x ++ 10 :: r) 10 = (x.length : Int)
  | [], r, _ => by
    show Lib.indexByte (10 :: r) 10 = 0
    rw [Lib.indexByte]; rfl
  | c :: x, r, h => by
    have h1 : (c == 10) = false := by rw [beq_eq_false_iff_ne]; exact h c (by simp)
    show Lib.indexByte (c :: (x ++ 10 :: r)) 10 = _
    rw [Lib.indexByte, h1, index_yes x r fun y hy => h y (by simp [hy])]
    have : ((x.length : Int) == -1) = false := by rw [beq_eq_false_iff_ne]; omega
    simp [this]
theorem feed_or : ∀ (t : List UInt8), (∀ c ∈ t, c ≠ 10) ∨ ∃ x r, t = x ++ 10 :: r ∧ ∀ c ∈ x, c ≠ 10
  | [] => .inl (by simp)
  | c :: t => by
    by_cases h : c = 10
    · exact .inr ⟨[], t, by rw [h]; rfl, by simp⟩
    · rcases feed_or t with h1 | ⟨x, r, h1, h2⟩
      · left
        intro y hy
        rcases List.mem_cons.1 hy with rfl | hy
        · exact h
        · exact h1 y hy
      · refine .inr ⟨c :: x, r, by rw [h1]; rfl, ?_⟩
        intro y hy
        rcases List.mem_cons.1 hy with rfl | hy
        · exact h
        · exact h2 y hy
/-- As the loop goes. -/
theorem split_step {t : List UInt8} (h : t ≠ []) : splitL [] t = t.take (endL t) :: splitL [] (t.drop (endL t)) ∧ 1 ≤ endL t ∧ endL t ≤ t.length := by
  rcases feed_or t with h1 | ⟨x, r, rfl, h2⟩
  · have e : endL t = t.length := by rw [endL, if_pos (index_no t h1)]
    have hp : 0 < t.length := List.length_pos_iff.2 h
    rw [e, List.take_length, List.drop_length, split_end h1 h]
    exact ⟨rfl, hp, Nat.le_refl _⟩
  · have e : endL (x ++ 10 :: r) = x.length + 1 := by
      rw [endL, index_yes x r h2, if_neg (by omega)]
      omega
    have e1 : (x ++ 10 :: r).take (x.length + 1) = x ++ [10] := by
      rw [List.take_append]
      simp [List.take_of_length_le]
    have e2 : (x ++ 10 :: r).drop (x.length + 1) = r := by
      rw [← List.drop_drop, List.drop_left]
      rfl
    rw [e, e1, e2, split_at r h2]
    exact ⟨rfl, by omega, by simp⟩
theorem feed_end {a b : List UInt8} (h : a ++ [10] = b ++ [10]) : a = b := by
  have := congrArg List.dropLast h
  simpa using this
/-- Reading, line by line. -/
theorem rd_step : ∀ (t cur : List UInt8) (acc : List Ac), (∀ c ∈ cur, c ≠ 10) →
    (splitL cur t = [] → rdA acc cur t = (0, 0, acc)) ∧
    (∀ L ls, splitL cur t = L :: ls → ∃ t', splitL [] t' = ls ∧ (acc.length = 100000 → rdA acc cur t = (11, 100000, [])) ∧
      (acc.length ≠ 100000 → ∀ a, ActOK a → L = lineF a ++ [10] → rdA acc cur t = rdA (acc ++ [a]) [] t') ∧
      (acc.length ≠ 100000 → (∀ a, ActOK a → L ≠ lineF a ++ [10]) → rdA acc cur t = (4, acc.length, [])))
  | [], cur, acc, hc => by
    constructor
    · intro h
      rw [splitL] at h
      by_cases h0 : cur = []
      · rw [rdA, if_pos (by rw [h0]; rfl)]
      · rw [if_neg h0] at h; cases h
    · intro L ls h
      rw [splitL] at h
      by_cases h0 : cur = []
      · rw [if_pos h0] at h; cases h
      · rw [if_neg h0] at h
        injection h with h1 h2
        subst h1 h2
        have hl : ¬ cur.length = 0 := fun e => h0 (List.eq_nil_of_length_eq_zero e)
        refine ⟨[], rfl, fun e => ?_, fun _ a _ e => ?_, fun e _ => ?_⟩
        · rw [rdA, if_neg hl, if_pos e]
        · exact absurd rfl (hc 10 (by rw [e]; simp))
        · rw [rdA, if_neg hl, if_neg e]
  | c :: r, cur, acc, hc => by
    by_cases h0 : c = 10
    · subst h0
      constructor
      · intro h; rw [splitL, if_pos rfl] at h; cases h
      · intro L ls h
        rw [splitL, if_pos rfl] at h
        injection h with h1 h2
        subst h1 h2
        refine ⟨r, rfl, fun e => ?_, fun e a ho hl => ?_, fun e hn => ?_⟩
        · rw [rdA, if_pos rfl, if_pos e]
        · have := feed_end hl
          rw [rdA, if_pos rfl, if_neg e, this, lineA_lineF ho, if_neg (by have := ho.kind; omega)]
        · have hk : (lineA cur).kind = 0 := Classical.byContradiction fun hk => by
            obtain ⟨h1, h2⟩ := lineF_lineA hk
            exact hn _ h1 (by rw [h2])
          rw [rdA, if_pos rfl, if_neg e, if_pos hk]
    · have hc' : ∀ y ∈ cur ++ [c], y ≠ 10 := by
        intro y hy
        rcases List.mem_append.1 hy with hy | hy
        · exact hc y hy
        · simp at hy; rw [hy]; exact h0
      have ih := rd_step r (cur ++ [c]) acc hc'
      have e1 : splitL cur (c :: r) = splitL (cur ++ [c]) r := by rw [splitL, if_neg h0]
      have e2 : rdA acc cur (c :: r) = rdA acc (cur ++ [c]) r := by rw [rdA, if_neg h0]
      rw [e1, e2]
      exact ih
/-- Lines that are acts' lines, one for one. -/
def Tell : List (List UInt8) → List Ac → Prop
  | [], [] => True
  | L :: ls, a :: ks => (ActOK a ∧ L = lineF a ++ [10]) ∧ Tell ls ks
  | _, _ => False
theorem Tell.len : ∀ {ls : List (List UInt8)} {ks : List Ac}, Tell ls ks → ks.length = ls.length
  | [], [], _ => rfl
  | L :: ls, a :: ks, h => by rw [List.length_cons, List.length_cons, h.2.len]
  | [], _ :: _, h => h.elim
  | _ :: _, [], h => h.elim
theorem Tell.snoc : ∀ {ls : List (List UInt8)} {ks : List Ac} {L : List UInt8} {a : Ac}, Tell ls ks → ActOK a → L = lineF a ++ [10] → Tell (ls ++ [L]) (ks ++ [a])
  | [], [], _, _, _, h1, h2 => ⟨⟨h1, h2⟩, trivial⟩
  | _ :: _, _ :: _, _, _, h, h1, h2 => ⟨h.1, h.2.snoc h1 h2⟩
  | [], _ :: _, _, _, h, _, _ => h.elim
  | _ :: _, [], _, _, h, _, _ => h.elim
theorem rd_all : ∀ (ks : List Ac) (ls : List (List UInt8)) (t : List UInt8) (acc : List Ac), splitL [] t = ls → Tell ls ks → acc.length + ls.length ≤ 100000 → rdA acc [] t = (0, 0, acc ++ ks)
  | [], [], t, acc, h, _, _ => by
    rw [(rd_step t [] acc (by simp)).1 h, List.append_nil]
  | a :: ks, L :: ls, t, acc, h, hT, hl => by
    rw [List.length_cons] at hl
    obtain ⟨t', h1, _, h3, _⟩ := (rd_step t [] acc (by simp)).2 L ls h
    rw [h3 (by omega) a hT.1.1 hT.1.2, rd_all ks ls t' (acc ++ [a]) h1 hT.2 (by rw [List.length_append, List.length_singleton]; omega), List.append_assoc]
    rfl
  | [], _ :: _, _, _, _, h, _ => h.elim
  | _ :: _, [], _, _, _, h, _ => h.elim
theorem rd_stop : ∀ (ks : List Ac) (ls : List (List UInt8)) (t : List UInt8) (acc : List Ac) (L : List UInt8) (rest : List (List UInt8)), splitL [] t = ls ++ L :: rest → Tell ls ks → acc.length + ls.length ≤ 100000 →
    (acc.length + ls.length = 100000 → rdA acc [] t = (11, 100000, [])) ∧ (acc.length + ls.length ≠ 100000 → (∀ a, ActOK a → L ≠ lineF a ++ [10]) → rdA acc [] t = (4, acc.length + ls.length, []))
  | [], [], t, acc, L, rest, h, _, _ => by
    obtain ⟨t', h1, h2, _, h4⟩ := (rd_step t [] acc (by simp)).2 L rest h
    exact ⟨fun e => h2 (by simpa using e), fun e hn => by rw [h4 (by simpa using e) hn]; rfl⟩
  | a :: ks, M :: ls, t, acc, L, rest, h, hT, hl => by
    rw [List.length_cons] at hl
    obtain ⟨t', h1, _, h3, _⟩ := (rd_step t [] acc (by simp)).2 M (ls ++ L :: rest) h
    have ih := rd_stop ks ls t' (acc ++ [a]) L rest h1 hT.2 (by rw [List.length_append, List.length_singleton]; omega)
    rw [List.length_append, List.length_singleton] at ih
    rw [h3 (by omega) a hT.1.1 hT.1.2, List.length_cons, show acc.length + (ls.length + 1) = acc.length + 1 + ls.length by omega]
    exact ih
  | [], _ :: _, _, _, _, _, _, h, _ => h.elim
  | _ :: _, [], _, _, _, _, _, h, _ => h.elim
theorem read_long {t : List UInt8} (h : 2000000 < t.length) : readE t = 1 ∧ readI t = 0 ∧ readL t = [] := by
  rw [readE, if_pos h, readI, if_pos h, readL, if_pos h]
  exact ⟨rfl, rfl, rfl⟩
theorem read_short {t : List UInt8} (h : t.length ≤ 2000000) {e : Int} {i : Nat} {l : List Ac} (hr : rdA [] [] t = (e, i, l)) : readE t = e ∧ readI t = i ∧ readL t = l := by
  have hn : ¬ 2000000 < t.length := by omega
  rw [readE, if_neg hn, readI, if_neg hn, readL, if_neg hn, hr]
  exact ⟨rfl, rfl, rfl⟩
end Go.Proofs.YtpefggkhjocanaaDoor
