/-
  The place of a key among pairs that rise, and what Get, Put, Delete and Range are by it. No program is named.
-/
import Derived.Test.YtdpoickggdgddacKTree
namespace Go.Proofs.Ytdpoickggdgddac
/-- How many pairs stand ahead of a key. -/
def posF (l : PL) (k : List UInt8) : Nat := (l.takeWhile fun p => klt p.1 k).length
/-- Has a pair the key? -/
def hasF (l : PL) (k : List UInt8) : Bool := decide (posF l k < l.length ∧ (l.getD (posF l k) ([], [])).1 = k)
/-- How many do not stand behind it. -/
def nextF (l : PL) (k : List UInt8) : Nat := if hasF l k = true then posF l k + 1 else posF l k
theorem pos_le (l : PL) (k : List UInt8) : posF l k ≤ l.length := by
  induction l with
  | nil => simp [posF]
  | cons p r ih =>
    unfold posF at ih ⊢
    rw [List.takeWhile_cons]
    cases h : klt p.1 k with
    | true => simpa using ih
    | false => simp
theorem pos_at : ∀ (l : PL) (k : List UInt8) (i : Nat), i ≤ l.length → (∀ j, j < i → klt (l.getD j ([], [])).1 k = true) → (i < l.length → klt (l.getD i ([], [])).1 k = false) → posF l k = i
  | [], k, i, h, _, _ => by
    obtain rfl : i = 0 := by simpa using h
    rfl
  | p :: r, k, 0, _, _, h2 => by
    have := h2 (by simp)
    simp only [List.getD_cons_zero] at this
    simp [posF, this]
  | p :: r, k, i + 1, h, h1, h2 => by
    have h0 := h1 0 (by omega)
    simp only [List.getD_cons_zero] at h0
    have := pos_at r k i (by simpa using h) (fun j hj => by simpa using h1 (j + 1) (by omega)) (fun hi => by simpa using h2 (by simpa using hi))
    unfold posF at this ⊢
    rw [List.takeWhile_cons_of_pos (p := fun p : Pr => klt p.1 k) h0]
    simpa using this
theorem pos_lt : ∀ (l : PL) (k : List UInt8) (j : Nat), j < posF l k → klt (l.getD j ([], [])).1 k = true
  | [], k, j, h => by simp [posF] at h
  | p :: r, k, j, h => by
    cases hk : klt p.1 k with
    | false => simp [posF, hk] at h
    | true =>
      cases j with
      | zero => simpa using hk
      | succ j =>
        unfold posF at h
        rw [List.takeWhile_cons_of_pos (p := fun p : Pr => klt p.1 k) hk] at h
        have := pos_lt r k j (by unfold posF; simpa using h)
        simpa using this
theorem pos_not : ∀ (l : PL) (k : List UInt8), posF l k < l.length → klt (l.getD (posF l k) ([], [])).1 k = false
  | [], k, h => by simp at h
  | p :: r, k, h => by
    cases hk : klt p.1 k with
    | false => simp [posF, hk]
    | true =>
      have e : posF (p :: r) k = posF r k + 1 := by unfold posF; rw [List.takeWhile_cons_of_pos (p := fun p : Pr => klt p.1 k) hk]; simp
      rw [e] at h ⊢
      have := pos_not r k (by simpa using h)
      simpa using this
theorem klt_pos (l : PL) (k : List UInt8) (hr : Rises l) (j : Nat) (hj : j < l.length) : klt (l.getD j ([], [])).1 k = decide (j < posF l k) := by
  by_cases h : j < posF l k
  · rw [decide_eq_true h]; exact pos_lt l k j h
  · rw [decide_eq_false h]
    have h0 := pos_not l k (by omega)
    by_cases e : j = posF l k
    · rw [e]; exact h0
    · cases hk : klt (l.getD j ([], [])).1 k with
      | false => rfl
      | true =>
        have := klt_trans _ _ _ (rises_step l hr (posF l k) j (by omega) hj) hk
        rw [this] at h0; cases h0
theorem has_pos {l : PL} {k : List UInt8} (h : hasF l k = true) : posF l k < l.length ∧ (l.getD (posF l k) ([], [])).1 = k := by
  simpa only [hasF, decide_eq_true_eq] using h
theorem next_le (l : PL) (k : List UInt8) : posF l k ≤ nextF l k ∧ nextF l k ≤ l.length ∧ nextF l k ≤ posF l k + 1 := by
  have := pos_le l k
  unfold nextF
  by_cases h : hasF l k = true
  · rw [if_pos h]; have := (has_pos h).1; omega
  · rw [if_neg h]; omega
theorem key_pos (l : PL) (k : List UInt8) (hr : Rises l) (j : Nat) (hj : j < l.length) (he : (l.getD j ([], [])).1 = k) : hasF l k = true ∧ j = posF l k := by
  have hp : posF l k = j := by
    refine pos_at l k j (by omega) (fun i hi => ?_) (fun _ => ?_)
    · rw [← he]; exact rises_step l hr i j hi hj
    · rw [he]; exact klt_irrefl k
  refine ⟨?_, hp.symm⟩
  rw [hasF, hp]
  exact decide_eq_true ⟨hj, he⟩
theorem get_pos (l : PL) (k : List UInt8) (hr : Rises l) : getF l k = if hasF l k = true then some (l.getD (posF l k) ([], [])).2 else none := by
  by_cases h : hasF l k = true
  · rw [if_pos h]
    obtain ⟨h1, h2⟩ := has_pos h
    refine get_at l k _ h1 (fun j hj e => ?_) h2
    have := pos_lt l k j hj
    rw [e, klt_irrefl] at this; cases this
  · rw [if_neg h]
    exact get_none l k fun j hj e => h (key_pos l k hr j hj e).1
theorem put_next (l : PL) (p : Pr) : putL l p = l.take (posF l p.1) ++ ([p] ++ l.drop (nextF l p.1)) := by
  rw [put_pos l p (posF l p.1) (pos_le l p.1) (fun j hj => pos_lt l p.1 j hj) (pos_not l p.1)]
  by_cases h : posF l p.1 < l.length ∧ (l.getD (posF l p.1) ([], [])).1 = p.1
  · rw [if_pos h, nextF, if_pos (by rw [hasF]; exact decide_eq_true h), List.set_eq_take_append_cons_drop, if_pos h.1]
    rfl
  · rw [if_neg h, nextF, if_neg (by rw [hasF]; simpa using h)]
theorem put_many (l : PL) (p : Pr) : (putL l p).length = posF l p.1 + 1 + (l.length - nextF l p.1) := by
  rw [put_next]
  have h1 := pos_le l p.1
  simp
  omega
theorem put_room (l : PL) (p : Pr) (hl : l.length ≤ 60) : (60 < (putL l p).length) ↔ (posF l p.1 = nextF l p.1 ∧ l.length = 60) := by
  rw [put_many]
  have := next_le l p.1
  omega
theorem filter_drop (l : PL) (f : Pr → Bool) (n : Nat) (hn : n ≤ l.length) (h1 : ∀ j, j < n → f (l.getD j ([], [])) = false) (h2 : ∀ j, n ≤ j → j < l.length → f (l.getD j ([], [])) = true) : l.filter f = l.drop n := by
  have e : l = l.take n ++ l.drop n := (List.take_append_drop n l).symm
  have ha : (l.take n).filter f = [] := by
    rw [List.filter_eq_nil_iff]
    intro q hq
    obtain ⟨j, hj, rfl⟩ := List.mem_iff_getElem.1 hq
    have hjn : j < n := by simp at hj; omega
    have := h1 j hjn
    rw [List.getElem_take]
    rw [show l[j]'(by omega) = l.getD j ([], []) by simp [show j < l.length by omega], this]
    simp
  have hb : (l.drop n).filter f = l.drop n := by
    rw [List.filter_eq_self]
    intro q hq
    obtain ⟨j, hj, rfl⟩ := List.mem_iff_getElem.1 hq
    have hjn : n + j < l.length := by simp at hj; omega
    rw [List.getElem_drop, show l[n + j] = l.getD (n + j) ([], []) by simp [hjn]]
    exact h2 _ (by omega) hjn
  conv => lhs; rw [e]
  rw [List.filter_append, ha, hb, List.nil_append]
theorem filter_take (l : PL) (f : Pr → Bool) (n : Nat) (hn : n ≤ l.length) (h1 : ∀ j, j < n → f (l.getD j ([], [])) = true) (h2 : ∀ j, n ≤ j → j < l.length → f (l.getD j ([], [])) = false) : l.filter f = l.take n := by
  have e : l = l.take n ++ l.drop n := (List.take_append_drop n l).symm
  have hb : (l.drop n).filter f = [] := by
    rw [List.filter_eq_nil_iff]
    intro q hq
    obtain ⟨j, hj, rfl⟩ := List.mem_iff_getElem.1 hq
    have hjn : n + j < l.length := by simp at hj; omega
    rw [List.getElem_drop, show l[n + j] = l.getD (n + j) ([], []) by simp [hjn], h2 _ (by omega) hjn]
    simp
  have ha : (l.take n).filter f = l.take n := by
    rw [List.filter_eq_self]
    intro q hq
    obtain ⟨j, hj, rfl⟩ := List.mem_iff_getElem.1 hq
    have hjn : j < n := by simp at hj; omega
    rw [List.getElem_take, show l[j]'(by omega) = l.getD j ([], []) by simp [show j < l.length by omega]]
    exact h1 j hjn
  conv => lhs; rw [e]
  rw [List.filter_append, ha, hb, List.append_nil]
theorem del_next (l : PL) (k : List UInt8) (hr : Rises l) : delL l k = l.take (posF l k) ++ l.drop (nextF l k) := by
  by_cases h : hasF l k = true
  · obtain ⟨h1, h2⟩ := has_pos h
    have e : l = l.take (posF l k) ++ (l.getD (posF l k) ([], []) :: l.drop (posF l k + 1)) := by
      conv => lhs; rw [← List.take_append_drop (posF l k) l, List.drop_eq_getElem_cons h1]
      simp [h1]
    have hne : ∀ j, j < l.length → j ≠ posF l k → (l.getD j ([], [])).1 ≠ k := fun j hj hn e => hn (key_pos l k hr j hj e).2
    have ha : (l.take (posF l k)).filter (fun q => !(q.1 == k)) = l.take (posF l k) := by
      rw [List.filter_eq_self]
      intro q hq
      obtain ⟨j, hj, rfl⟩ := List.mem_iff_getElem.1 hq
      have hjn : j < posF l k := by simp at hj; omega
      rw [List.getElem_take, show l[j]'(by omega) = l.getD j ([], []) by simp [show j < l.length by omega]]
      simpa using hne j (by omega) (by omega)
    have hb : (l.drop (posF l k + 1)).filter (fun q => !(q.1 == k)) = l.drop (posF l k + 1) := by
      rw [List.filter_eq_self]
      intro q hq
      obtain ⟨j, hj, rfl⟩ := List.mem_iff_getElem.1 hq
      have hjn : posF l k + 1 + j < l.length := by simp at hj; omega
      rw [List.getElem_drop, show l[posF l k + 1 + j] = l.getD (posF l k + 1 + j) ([], []) by simp [hjn]]
      simpa using hne _ hjn (by omega)
    rw [nextF, if_pos h, delL]
    conv => lhs; rw [e]
    rw [List.filter_append, List.filter_cons_of_neg (by simpa using h2), ha, hb]
  · rw [nextF, if_neg h, List.take_append_drop, delL, List.filter_eq_self]
    intro q hq
    obtain ⟨j, hj, rfl⟩ := List.mem_iff_getElem.1 hq
    have := fun e => h (key_pos l k hr j hj e).1
    rw [show l.getD j ([], []) = l[j] by simp [hj]] at this
    simpa using this
theorem behind_next (l : PL) (k : List UInt8) (hr : Rises l) (j : Nat) (hj : j < l.length) : klt k (l.getD j ([], [])).1 = decide (nextF l k ≤ j) := by
  have hp := klt_pos l k hr j hj
  have hn := next_le l k
  by_cases h1 : j < posF l k
  · rw [decide_eq_true h1] at hp
    rw [klt_asymm _ _ hp, decide_eq_false (by omega)]
  · rw [decide_eq_false h1] at hp
    by_cases e : (l.getD j ([], [])).1 = k
    · obtain ⟨h2, h3⟩ := key_pos l k hr j hj e
      rw [e, klt_irrefl, nextF, if_pos h2, decide_eq_false (by omega)]
    · rw [klt_total _ _ hp e]
      by_cases h : hasF l k = true
      · rw [nextF, if_pos h, decide_eq_true (by
          by_cases hjp : j = posF l k
          · exact absurd (by rw [hjp]; exact (has_pos h).2) e
          · omega)]
      · rw [nextF, if_neg h, decide_eq_true (by omega)]
theorem range_next (l : PL) (f t : List UInt8) (hr : Rises l) : rangeL l f t = (l.take (max (posF l f) (nextF l t))).drop (posF l f) := by
  have h1 := pos_le l f
  have h2 := next_le l t
  have e : rangeL l f t = (l.filter fun q => !klt t q.1).filter fun q => !klt q.1 f := by
    rw [rangeL, List.filter_filter]
  rw [e, filter_take l _ (nextF l t) h2.2.1 (fun j hj => by rw [behind_next l t hr j (by omega), decide_eq_false (by omega)]; rfl) (fun j hj hjl => by rw [behind_next l t hr j hjl, decide_eq_true hj]; rfl)]
  have hd : ∀ (n : Nat), n ≤ l.length → (l.take n).filter (fun q => !klt q.1 f) = (l.take n).drop (posF l f) := by
    intro n hn
    by_cases hc : posF l f ≤ n
    · refine filter_drop _ _ _ (by simp; omega) (fun j hj => ?_) (fun j hj hjl => ?_)
      · have : (l.take n).getD j ([], []) = l.getD j ([], []) := by simp [show j < n by omega]
        rw [this, klt_pos l f hr j (by omega), decide_eq_true hj]; rfl
      · have hjn : j < n := by simp at hjl; omega
        have : (l.take n).getD j ([], []) = l.getD j ([], []) := by simp [hjn]
        rw [this, klt_pos l f hr j (by omega), decide_eq_false (by omega)]; rfl
    · rw [List.drop_eq_nil_of_le (by simp; omega), List.filter_eq_nil_iff]
      intro q hq
      obtain ⟨j, hj, rfl⟩ := List.mem_iff_getElem.1 hq
      have hjn : j < n := by simp at hj; omega
      rw [List.getElem_take, show l[j]'(by omega) = l.getD j ([], []) by simp [show j < l.length by omega], klt_pos l f hr j (by omega), decide_eq_true (by omega)]
      simp
  rw [hd _ h2.2.1]
  by_cases hc : posF l f ≤ nextF l t
  · rw [Nat.max_eq_right hc]
  · rw [Nat.max_eq_left (by omega), List.drop_eq_nil_of_le (by simp; omega), List.drop_eq_nil_of_le (by simp; omega)]
end Go.Proofs.Ytdpoickggdgddac
