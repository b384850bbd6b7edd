/-
  Ranges: of all, and two that meet. No program is named.
-/
import Derived.Test.YtdpoickggdgddabKPure
namespace Go.Proofs.Ytdpoickggdgddab
/-- The last key. -/
def lastKey : List UInt8 := List.replicate 16 255
theorem lastKey_len : lastKey.length = 16 := rfl
theorem klt_zero : ∀ k : List UInt8, 1 ≤ k.length → klt k [0] = false
  | [], h => by simp at h
  | c :: r, _ => by
    rw [klt_cons, klt_nil, Bool.and_false, Bool.or_false, decide_eq_false]
    intro h
    have := UInt8.lt_iff_toNat_lt.1 h
    simp at this
theorem klt_top : ∀ (n : Nat) (k : List UInt8), k.length ≤ n → klt (List.replicate n 255) k = false
  | 0, [], _ => rfl
  | 0, c :: r, h => by simp at h
  | n + 1, [], _ => klt_nil _
  | n + 1, c :: r, h => by
    rw [List.replicate_succ, klt_cons, klt_top n r (by simpa using h), Bool.and_false, Bool.or_false, decide_eq_false]
    intro h
    have h1 := UInt8.lt_iff_toNat_lt.1 h
    have h2 := c.toNat_lt
    simp at h1
    omega
theorem range_all (t : PL) (h : Tree t) : rangeL t [0] lastKey = t := by
  rw [rangeL, List.filter_eq_self]
  intro q hq
  have hk := (h.pairs q hq).1
  rw [klt_zero q.1 hk.1, lastKey, klt_top 16 q.1 hk.2]
  rfl
theorem rangeE_nil (t : PL) (u : List UInt8) (h : Tree t) : rangeE t [] u = 1 ∧ rangeF t [] u = [] := by
  have e1 : getE t [] = 1 := by rw [getE, if_pos ((tree_iff t).2 h)]; rfl
  have e2 : rangeE t [] u = 1 := by rw [rangeE, if_neg (by rw [e1]; decide), e1]
  exact ⟨e2, by rw [rangeF, if_neg (by rw [e2]; decide)]⟩
theorem rangeE_nil2 (t : PL) (u : List UInt8) (h : Tree t) (hu : 1 ≤ u.length ∧ u.length ≤ 16) : rangeE t u [] = 1 ∧ rangeF t u [] = [] := by
  have e2 : rangeE t u [] = 1 := by rw [rangeE, if_pos (getE_ok h hu)]; rfl
  exact ⟨e2, by rw [rangeF, if_neg (by rw [e2]; decide)]⟩
/-- x ranges up to a key that is there, without its last one. -/
def lessLast (t : PL) (a b : List UInt8) : PL := if (getF t b).isSome = true then (rangeL t a b).dropLast else rangeL t a b
theorem range_cut (t : PL) (h : Rises t) (a b c : List UInt8) (hab : klt b a = false) (hbc : klt c b = false) : (t.filter fun q => !klt q.1 a && klt q.1 b) ++ rangeL t b c = rangeL t a c := by
  induction t with
  | nil => rfl
  | cons q r ih =>
    have hr := List.pairwise_cons.1 h
    have ih := ih hr.2
    unfold rangeL at ih ⊢
    by_cases h1 : klt q.1 b = true
    · -- ahead of b
      have hcq : klt c q.1 = false := by
        cases hc : klt c q.1 with
        | false => rfl
        | true => have := klt_trans _ _ _ hc h1; rw [this] at hbc; cases hbc
      have e2 : (!klt q.1 b && !klt c q.1) = false := by rw [h1]; rfl
      cases h2 : klt q.1 a with
      | true =>
        rw [List.filter_cons_of_neg (by rw [h2]; simp), List.filter_cons_of_neg (by rw [e2]; simp), List.filter_cons_of_neg (by rw [h2]; simp)]
        exact ih
      | false =>
        rw [List.filter_cons_of_pos (by rw [h2, h1]; rfl), List.filter_cons_of_neg (by rw [e2]; simp), List.filter_cons_of_pos (by rw [h2, hcq]; rfl), List.cons_append, ih]
    · have h1' : klt q.1 b = false := by simpa using h1
      -- all that follow stand behind b
      have hall : (r.filter fun q => !klt q.1 a && klt q.1 b) = [] := by
        rw [List.filter_eq_nil_iff]
        intro x hx
        have hqx := hr.1 x hx
        have : klt x.1 b = false := by
          cases hb : klt x.1 b with
          | false => rfl
          | true => have := klt_trans _ _ _ hqx hb; rw [this] at h1'; cases h1'
        rw [this, Bool.and_false]; simp
      have hqa : klt q.1 a = false := by
        cases ha : klt q.1 a with
        | false => rfl
        | true =>
          by_cases e : b = a
          · rw [e] at h1'; rw [h1'] at ha; cases ha
          · have hba := klt_total _ _ hab e
            have := klt_trans _ _ _ ha hba; rw [this] at h1'; cases h1'
      rw [hall, List.nil_append] at ih
      rw [List.filter_cons_of_neg (p := fun q : Pr => !klt q.1 a && klt q.1 b) (by rw [h1', Bool.and_false]; simp), hall, List.nil_append]
      cases h3 : klt c q.1 with
      | true =>
        rw [List.filter_cons_of_neg (by rw [h3, Bool.not_true, Bool.and_false]; simp), List.filter_cons_of_neg (by rw [h3, Bool.not_true, Bool.and_false]; simp)]
        exact ih
      | false =>
        rw [List.filter_cons_of_pos (by rw [h1', h3]; rfl), List.filter_cons_of_pos (by rw [hqa, h3]; rfl), ih]
/-- A range up to a key is what stands ahead of it, and the one with it. -/
theorem range_upto (t : PL) (h : Rises t) (a b : List UInt8) (hab : klt b a = false) : rangeL t a b = (t.filter fun q => !klt q.1 a && klt q.1 b) ++ (t.filter fun q => q.1 == b) := by
  have := range_cut t h a b b hab (klt_irrefl b)
  rw [← this]
  congr 1
  unfold rangeL
  apply List.filter_congr
  intro q _
  by_cases e : q.1 = b
  · rw [e, klt_irrefl]; simp
  · cases h1 : klt q.1 b with
    | true => simp [e]
    | false => rw [klt_total _ _ h1 e]; simp [e]
theorem filter_key (t : PL) (h : Rises t) (b : List UInt8) : (t.filter fun q => q.1 == b) = match t.find? fun q => q.1 == b with | some q => [q] | none => [] := by
  induction t with
  | nil => rfl
  | cons q r ih =>
    have hr := List.pairwise_cons.1 h
    by_cases e : q.1 = b
    · have hn : (r.filter fun q => q.1 == b) = [] := by
        rw [List.filter_eq_nil_iff]
        intro x hx
        have := klt_ne (hr.1 x hx)
        rw [e] at this
        simpa using fun h => this h.symm
      rw [List.filter_cons_of_pos (by simp [e]), hn, List.find?_cons_of_pos (by simp [e])]
    · rw [List.filter_cons_of_neg (by simp [e]), List.find?_cons_of_neg (by simp [e]), ih hr.2]
theorem less_last (t : PL) (h : Rises t) (a b : List UInt8) (hab : klt b a = false) : lessLast t a b = t.filter fun q => !klt q.1 a && klt q.1 b := by
  have e := range_upto t h a b hab
  have f := filter_key t h b
  unfold lessLast getF
  cases hf : t.find? fun q => q.1 == b with
  | none =>
    rw [hf] at f
    rw [if_neg (by simp), e, f, List.append_nil]
  | some q =>
    rw [hf] at f
    rw [if_pos (by simp), e, f, List.dropLast_concat]
theorem range_some (t : PL) (h : Rises t) (a b : List UInt8) (hab : klt b a = false) (hf : (getF t b).isSome = true) : 0 < (rangeL t a b).length := by
  have e := range_upto t h a b hab
  have f := filter_key t h b
  unfold getF at hf
  cases hg : t.find? fun q => q.1 == b with
  | none => rw [hg] at hf; simp at hf
  | some q => rw [hg] at f; rw [e, f]; simp
/-- Two ranges that meet are one. -/
theorem range_meet (t : PL) (h : Rises t) (a b c : List UInt8) (hab : klt b a = false) (hbc : klt c b = false) : lessLast t a b ++ rangeL t b c = rangeL t a c := by
  rw [less_last t h a b hab]
  exact range_cut t h a b c hab hbc
end Go.Proofs.Ytdpoickggdgddab
