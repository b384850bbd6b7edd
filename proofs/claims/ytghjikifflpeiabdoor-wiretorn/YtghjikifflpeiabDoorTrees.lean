/-
  Pairs, as the document has them: what is wrong with them, what is got, put, deleted, and what lies in a range. No program is named.
-/
import Derived.Test.YtghjikifflpeiabDoorKeys
namespace Go.Proofs.YtghjikifflpeiabDoor
abbrev Pr := List UInt8 × List UInt8
abbrev PL := List Pr
/-- A key stands ahead of another one. -/
abbrev klt (a b : List UInt8) : Bool := Op.bytesLess a b
theorem klt_nil (a : List UInt8) : klt a [] = false := less_nil a
theorem klt_cons (x y : UInt8) (a b : List UInt8) : klt (x :: a) (y :: b) = (decide (x < y) || (x == y && klt a b)) := less_cons x y a b
theorem klt_irrefl : ∀ a : List UInt8, klt a a = false
  | [] => rfl
  | x :: a => by rw [klt_cons, klt_irrefl a]; simp
theorem klt_trans : ∀ a b c : List UInt8, klt a b = true → klt b c = true → klt a c = true
  | _, [], _, h, _ => by rw [klt_nil] at h; cases h
  | _, _ :: _, [], _, h => by rw [klt_nil] at h; cases h
  | [], _ :: _, _ :: _, _, _ => rfl
  | x :: a, y :: b, z :: c, h1, h2 => by
    rw [klt_cons] at h1 h2 ⊢
    simp only [Bool.or_eq_true, decide_eq_true_eq, Bool.and_eq_true, beq_iff_eq, UInt8.lt_iff_toNat_lt] at h1 h2 ⊢
    rcases h1 with h1 | ⟨rfl, h1⟩
    · rcases h2 with h2 | ⟨rfl, h2⟩
      · left; omega
      · left; exact h1
    · rcases h2 with h2 | ⟨rfl, h2⟩
      · left; exact h2
      · right; exact ⟨rfl, klt_trans a b c h1 h2⟩
theorem klt_total : ∀ a b : List UInt8, klt a b = false → a ≠ b → klt b a = true
  | [], [], _, h => absurd rfl h
  | [], _ :: _, h, _ => by cases h
  | _ :: _, [], _, _ => rfl
  | x :: a, y :: b, h1, h2 => by
    rw [klt_cons] at h1 ⊢
    simp only [Bool.or_eq_false_iff, decide_eq_false_iff_not, Bool.and_eq_false_iff, beq_eq_false_iff_ne, UInt8.lt_iff_toNat_lt] at h1
    simp only [Bool.or_eq_true, decide_eq_true_eq, Bool.and_eq_true, beq_iff_eq, UInt8.lt_iff_toNat_lt]
    by_cases e : y = x
    · subst e
      right
      refine ⟨rfl, klt_total a b ?_ (fun e => h2 (by rw [e]))⟩
      rcases h1.2 with h | h
      · exact absurd rfl h
      · exact h
    · left
      have : x.toNat ≠ y.toNat := fun h => e (UInt8.toNat_inj.1 h.symm)
      omega
theorem klt_asymm (a b : List UInt8) (h : klt a b = true) : klt b a = false := by
  cases hb : klt b a with
  | false => rfl
  | true => have := klt_trans a b a h hb; rw [klt_irrefl] at this; cases this
theorem klt_ne {a b : List UInt8} (h : klt a b = true) : a ≠ b := by
  rintro rfl
  rw [klt_irrefl] at h; cases h

/-- What is wrong with a pair. -/
def pairFaultF (p : Pr) : Int := if 32 < p.2.length then 1 else keyFaultF p.1.length
/-- What is wrong with the pair at a place, and with its order. -/
def faultAt (l : PL) (i : Nat) : Int :=
  if pairFaultF (l.getD i ([], [])) = 0 then (if 0 < i ∧ klt (l.getD (i - 1) ([], [])).1 (l.getD i ([], [])).1 = false then 3 else 0) else pairFaultF (l.getD i ([], []))
def faultFrom (l : PL) : Nat → Nat → Int
  | 0, _ => 0
  | n + 1, i => if faultAt l i = 0 then faultFrom l n (i + 1) else faultAt l i
/-- What is wrong with pairs. -/
def pairsFaultF (l : PL) : Int := if 60 < l.length then 1 else faultFrom l l.length 0
theorem faultFrom_split (l : PL) (n i : Nat) (hi : i ≤ n) (h : ∀ j, j < i → faultAt l j = 0) : faultFrom l n 0 = faultFrom l (n - i) i := by
  induction i with
  | zero => rfl
  | succ i ih =>
    rw [ih (by omega) (fun j hj => h j (by omega)), show n - i = (n - (i + 1)) + 1 by omega, faultFrom, if_pos (h i (by omega))]
/-- The fault that is met first. -/
theorem pairsFault_at (l : PL) (i : Nat) (hi : i < l.length) (hl : l.length ≤ 60) (h : ∀ j, j < i → faultAt l j = 0) (hf : faultAt l i ≠ 0) : pairsFaultF l = faultAt l i := by
  rw [pairsFaultF, if_neg (by omega), faultFrom_split l _ i (by omega) h, show l.length - i = (l.length - (i + 1)) + 1 by omega, faultFrom, if_neg hf]
theorem pairsFault_none (l : PL) (hl : l.length ≤ 60) (h : ∀ j, j < l.length → faultAt l j = 0) : pairsFaultF l = 0 := by
  rw [pairsFaultF, if_neg (by omega), faultFrom_split l _ l.length (Nat.le_refl _) h, Nat.sub_self, faultFrom]
theorem pairsFault_long (l : PL) (hl : 60 < l.length) : pairsFaultF l = 1 := by rw [pairsFaultF, if_pos hl]
theorem faultFrom_zero (l : PL) : ∀ (n i : Nat), faultFrom l n i = 0 → ∀ j, i ≤ j → j < i + n → faultAt l j = 0
  | 0, i, _, j, h1, h2 => by omega
  | n + 1, i, h, j, h1, h2 => by
    rw [faultFrom] at h
    by_cases e : faultAt l i = 0
    · rw [if_pos e] at h
      by_cases hj : j = i
      · subst hj; exact e
      · exact faultFrom_zero l n (i + 1) h j (by omega) (by omega)
    · rw [if_neg e] at h; exact absurd h e
/-- Pairs that rise. -/
def Rises (l : PL) : Prop := l.Pairwise fun p q => klt p.1 q.1 = true
/-- A tree. -/
structure Tree (l : PL) : Prop where
  room : l.length ≤ 60
  pairs : ∀ p ∈ l, (1 ≤ p.1.length ∧ p.1.length ≤ 16) ∧ p.2.length ≤ 32
  rises : Rises l
theorem pairFault_iff (p : Pr) : pairFaultF p = 0 ↔ (1 ≤ p.1.length ∧ p.1.length ≤ 16) ∧ p.2.length ≤ 32 := by
  unfold pairFaultF keyFaultF
  by_cases h : 32 < p.2.length
  · rw [if_pos h]; constructor
    · intro h; cases h
    · intro h; omega
  · rw [if_neg h]
    by_cases h2 : 1 ≤ p.1.length ∧ p.1.length ≤ 16
    · rw [if_pos h2]; exact ⟨fun _ => ⟨h2, by omega⟩, fun _ => rfl⟩
    · rw [if_neg h2]; constructor
      · intro h; cases h
      · intro h; exact absurd h.1 h2
theorem faultAt_iff (l : PL) (i : Nat) : faultAt l i = 0 ↔ pairFaultF (l.getD i ([], [])) = 0 ∧ (0 < i → klt (l.getD (i - 1) ([], [])).1 (l.getD i ([], [])).1 = true) := by
  unfold faultAt
  by_cases h : pairFaultF (l.getD i ([], [])) = 0
  · rw [if_pos h]
    by_cases h2 : 0 < i ∧ klt (l.getD (i - 1) ([], [])).1 (l.getD i ([], [])).1 = false
    · rw [if_pos h2]; constructor
      · intro h; cases h
      · intro h3; have := h3.2 h2.1; rw [h2.2] at this; cases this
    · rw [if_neg h2]
      refine ⟨fun _ => ⟨h, fun hi => ?_⟩, fun _ => rfl⟩
      cases hk : klt (l.getD (i - 1) ([], [])).1 (l.getD i ([], [])).1 with
      | true => rfl
      | false => exact absurd ⟨hi, hk⟩ h2
  · rw [if_neg h]; constructor
    · intro h2; exact absurd h2 h
    · intro h2; exact absurd h2.1 h
theorem rises_of_steps : ∀ l : PL, (∀ i, 0 < i → i < l.length → klt (l.getD (i - 1) ([], [])).1 (l.getD i ([], [])).1 = true) → Rises l
  | [], _ => List.Pairwise.nil
  | [_], _ => List.pairwise_singleton _ _
  | p :: q :: r, h => by
    have ih : Rises (q :: r) := rises_of_steps (q :: r) fun i h0 hi => by
      have := h (i + 1) (by omega) (by simp at hi ⊢; omega)
      rw [show i + 1 - 1 = (i - 1) + 1 by omega] at this
      simpa using this
    have h01 : klt p.1 q.1 = true := by
      have := h 1 (by omega) (by simp)
      simpa using this
    refine List.Pairwise.cons (fun x hx => ?_) ih
    rcases List.mem_cons.1 hx with rfl | hx
    · exact h01
    · exact klt_trans _ _ _ h01 ((List.pairwise_cons.1 ih).1 x hx)
theorem rises_step (l : PL) (h : Rises l) (i j : Nat) (hij : i < j) (hj : j < l.length) : klt (l.getD i ([], [])).1 (l.getD j ([], [])).1 = true := by
  have := List.pairwise_iff_getElem.1 h i j (by omega) hj hij
  simpa [hj, show i < l.length by omega] using this
theorem tree_iff (l : PL) : pairsFaultF l = 0 ↔ Tree l := by
  constructor
  · intro h
    have hl : l.length ≤ 60 := by
      by_cases hl : 60 < l.length
      · rw [pairsFault_long l hl] at h; cases h
      · omega
    rw [pairsFaultF, if_neg (by omega)] at h
    have ha := fun j (hj : j < l.length) => (faultAt_iff l j).1 (faultFrom_zero l l.length 0 h j (by omega) (by omega))
    refine ⟨hl, fun p hp => ?_, rises_of_steps l fun i h0 hi => (ha i hi).2 h0⟩
    obtain ⟨i, hi, rfl⟩ := List.mem_iff_getElem.1 hp
    have := (pairFault_iff _).1 (ha i hi).1
    simpa [hi] using this
  · intro h
    refine pairsFault_none l h.room fun j hj => (faultAt_iff l j).2 ⟨(pairFault_iff _).2 ?_, fun h0 => rises_step l h.rises _ _ (by omega) hj⟩
    have := h.pairs l[j] (List.getElem_mem hj)
    simpa [hj] using this
theorem tree_nil : Tree [] := ⟨by simp, by simp, List.Pairwise.nil⟩

/-- What is got. -/
def getF (l : PL) (k : List UInt8) : Option (List UInt8) := (l.find? fun p => p.1 == k).map (·.2)
theorem get_nil (k : List UInt8) : getF [] k = none := rfl
theorem get_cons (p : Pr) (l : PL) (k : List UInt8) : getF (p :: l) k = if p.1 = k then some p.2 else getF l k := by
  unfold getF
  by_cases h : p.1 = k
  · rw [List.find?_cons_of_pos (by simpa using h), if_pos h]; rfl
  · rw [List.find?_cons_of_neg (by simpa using h), if_neg h]
theorem get_at : ∀ (l : PL) (k : List UInt8) (i : Nat), i < l.length → (∀ j, j < i → (l.getD j ([], [])).1 ≠ k) → (l.getD i ([], [])).1 = k → getF l k = some (l.getD i ([], [])).2
  | [], _, _, h, _, _ => by simp at h
  | p :: l, k, 0, _, _, h2 => by rw [get_cons, if_pos (by simpa using h2)]; simp
  | p :: l, k, i + 1, h, h1, h2 => by
    rw [get_cons, if_neg (by simpa using h1 0 (by omega))]
    have := get_at l k i (by simpa using h) (fun j hj => by simpa using h1 (j + 1) (by omega)) (by simpa using h2)
    simpa using this
theorem get_none : ∀ (l : PL) (k : List UInt8), (∀ j, j < l.length → (l.getD j ([], [])).1 ≠ k) → getF l k = none
  | [], _, _ => rfl
  | p :: l, k, h => by
    rw [get_cons, if_neg (by simpa using h 0 (by simp))]
    exact get_none l k fun j hj => by simpa using h (j + 1) (by simpa using hj)
/-- The pairs with a pair. -/
def putL : PL → Pr → PL
  | [], p => [p]
  | q :: r, p => if klt q.1 p.1 = true then q :: putL r p else if q.1 = p.1 then p :: r else p :: q :: r
/-- One pair more, as the document goes. -/
def putStep (p : Pr) (s : PL × Bool) (q : Pr) : PL × Bool :=
  let s1 : PL × Bool := if s.2 = false ∧ klt q.1 p.1 = false then (s.1 ++ [p], true) else s
  if q.1 = p.1 then s1 else (s1.1 ++ [q], s1.2)
def putEnd (p : Pr) (s : PL × Bool) : PL := if s.2 = false then s.1 ++ [p] else s.1
theorem put_done (p : Pr) (l : PL) : ∀ out : PL, (∀ q ∈ l, q.1 ≠ p.1) → l.foldl (putStep p) (out, true) = (out ++ l, true) := by
  induction l with
  | nil => intro out _; simp
  | cons q r ih =>
    intro out h
    rw [List.foldl_cons, show putStep p (out, true) q = (out ++ [q], true) from ?_, ih _ fun x hx => h x (List.mem_cons_of_mem _ hx)]
    · simp
    · simp [putStep, h q (by simp)]
theorem put_fold (p : Pr) (l : PL) (h : Rises l) : ∀ out : PL, putEnd p (l.foldl (putStep p) (out, false)) = out ++ putL l p := by
  induction l with
  | nil => intro out; simp [putEnd, putL]
  | cons q r ih =>
    intro out
    have hr := (List.pairwise_cons.1 h)
    rw [List.foldl_cons, putL]
    by_cases h1 : klt q.1 p.1 = true
    · rw [if_pos h1, show putStep p (out, false) q = (out ++ [q], false) from ?_, ih hr.2]
      · simp
      · have := klt_ne h1
        simp [putStep, this, h1]
    · have h1' : klt q.1 p.1 = false := by simpa using h1
      rw [if_neg h1]
      by_cases h2 : q.1 = p.1
      · have hne : ∀ x ∈ r, x.1 ≠ p.1 := fun x hx e => by have := hr.1 x hx; rw [h2, e, klt_irrefl] at this; cases this
        rw [if_pos h2, show putStep p (out, false) q = (out ++ [p], true) from ?_, put_done p r _ hne]
        · simp [putEnd]
        · simp [putStep, h2, klt_irrefl]
      · have hpq := klt_total _ _ h1' h2
        have hne : ∀ x ∈ r, x.1 ≠ p.1 := fun x hx e => by
          have := hr.1 x hx
          rw [e] at this
          rw [this] at h1'; cases h1'
        rw [if_neg h2, show putStep p (out, false) q = (out ++ [p] ++ [q], true) from ?_, put_done p r _ hne]
        · simp [putEnd]
        · simp only [putStep, h1', h2, and_self, if_true, if_false]
/-- The pairs without a key. -/
def delL (l : PL) (k : List UInt8) : PL := l.filter fun q => !(q.1 == k)
/-- The pairs in a range. -/
def rangeL (l : PL) (a b : List UInt8) : PL := l.filter fun q => !klt q.1 a && !klt b q.1

theorem mem_put (l : PL) (p x : Pr) : x ∈ putL l p → x = p ∨ x ∈ l := by
  induction l with
  | nil => intro h; simp [putL] at h; exact .inl h
  | cons q r ih =>
    intro h
    rw [putL] at h
    by_cases h1 : klt q.1 p.1 = true
    · rw [if_pos h1] at h
      rcases List.mem_cons.1 h with rfl | h
      · exact .inr (by simp)
      · rcases ih h with h | h
        · exact .inl h
        · exact .inr (List.mem_cons_of_mem _ h)
    · rw [if_neg h1] at h
      by_cases h2 : q.1 = p.1
      · rw [if_pos h2] at h
        rcases List.mem_cons.1 h with h | h
        · exact .inl h
        · exact .inr (List.mem_cons_of_mem _ h)
      · rw [if_neg h2] at h
        rcases List.mem_cons.1 h with h | h
        · exact .inl h
        · exact .inr h
theorem put_rises (l : PL) (p : Pr) (h : Rises l) : Rises (putL l p) := by
  induction l with
  | nil => exact List.pairwise_singleton _ _
  | cons q r ih =>
    have hr := List.pairwise_cons.1 h
    rw [putL]
    by_cases h1 : klt q.1 p.1 = true
    · rw [if_pos h1]
      refine List.Pairwise.cons (fun x hx => ?_) (ih hr.2)
      rcases mem_put r p x hx with rfl | hx
      · exact h1
      · exact hr.1 x hx
    · rw [if_neg h1]
      by_cases h2 : q.1 = p.1
      · rw [if_pos h2]
        exact List.Pairwise.cons (fun x hx => by rw [← h2]; exact hr.1 x hx) hr.2
      · rw [if_neg h2]
        have hpq := klt_total _ _ (by simpa using h1) h2
        refine List.Pairwise.cons (fun x hx => ?_) h
        rcases List.mem_cons.1 hx with rfl | hx
        · exact hpq
        · exact klt_trans _ _ _ hpq (hr.1 x hx)
theorem get_put (l : PL) (p : Pr) (k : List UInt8) (h : Rises l) : getF (putL l p) k = if p.1 = k then some p.2 else getF l k := by
  induction l with
  | nil => rw [putL, get_cons]
  | cons q r ih =>
    have hr := List.pairwise_cons.1 h
    rw [putL]
    by_cases h1 : klt q.1 p.1 = true
    · rw [if_pos h1, get_cons, get_cons, ih hr.2]
      by_cases e : p.1 = k
      · rw [if_pos e, if_pos e, if_neg (fun e2 => klt_ne h1 (e2.trans e.symm))]
      · rw [if_neg e, if_neg e]
    · rw [if_neg h1]
      by_cases h2 : q.1 = p.1
      · rw [if_pos h2, get_cons, get_cons]
        by_cases e : p.1 = k
        · rw [if_pos e, if_pos e]
        · rw [if_neg e, if_neg e, if_neg (by rw [h2]; exact e)]
      · rw [if_neg h2, get_cons]
theorem get_del (l : PL) (k x : List UInt8) : getF (delL l k) x = if k = x then none else getF l x := by
  induction l with
  | nil => simp [delL, getF]
  | cons q r ih =>
    unfold delL at ih ⊢
    by_cases e : q.1 = k
    · rw [List.filter_cons_of_neg (by simp [e]), ih, get_cons]
      by_cases e2 : k = x
      · rw [if_pos e2, if_pos e2]
      · rw [if_neg e2, if_neg e2, if_neg (by rw [e]; exact e2)]
    · rw [List.filter_cons_of_pos (by simp [e]), get_cons, ih, get_cons]
      by_cases e2 : k = x
      · rw [if_pos e2, if_pos e2, if_neg (by rw [← e2]; exact e)]
      · rw [if_neg e2, if_neg e2]
theorem del_rises (l : PL) (k : List UInt8) (h : Rises l) : Rises (delL l k) := List.Pairwise.filter _ h
theorem range_rises (l : PL) (a b : List UInt8) (h : Rises l) : Rises (rangeL l a b) := List.Pairwise.filter _ h
theorem get_head_none (l : PL) (k : List UInt8) (h : ∀ p ∈ l, klt k p.1 = true) : getF l k = none :=
  get_none l k fun j hj e => by
    have := h l[j] (List.getElem_mem hj)
    rw [show l[j] = l.getD j ([], []) by simp [hj], e, klt_irrefl] at this
    cases this
/-- Pairs that rise are told by what is got. -/
theorem rises_ext : ∀ (l m : PL), Rises l → Rises m → (∀ k, getF l k = getF m k) → l = m
  | [], [], _, _, _ => rfl
  | [], q :: r, _, _, h => by have := h q.1; rw [get_cons, if_pos rfl] at this; cases this
  | p :: l, [], _, _, h => by have := h p.1; rw [get_cons, if_pos rfl] at this; cases this
  | p :: l, q :: r, hl, hr, h => by
    have h1 := List.pairwise_cons.1 hl
    have h2 := List.pairwise_cons.1 hr
    have hk : p.1 = q.1 := by
      cases e : klt p.1 q.1 with
      | true =>
        have := h p.1
        rw [get_cons, if_pos rfl, get_head_none (q :: r) p.1 fun x hx => by
          rcases List.mem_cons.1 hx with rfl | hx
          · exact e
          · exact klt_trans _ _ _ e (h2.1 x hx)] at this
        cases this
      | false =>
        by_cases e2 : p.1 = q.1
        · exact e2
        · have e3 := klt_total _ _ e e2
          have := h q.1
          rw [get_cons (p := q), if_pos rfl, get_head_none (p :: l) q.1 fun x hx => by
            rcases List.mem_cons.1 hx with rfl | hx
            · exact e3
            · exact klt_trans _ _ _ e3 (h1.1 x hx)] at this
          cases this
    have hv : p.2 = q.2 := by
      have := h p.1
      rw [get_cons, if_pos rfl, get_cons, if_pos hk.symm] at this
      exact Option.some.inj this
    have hp : p = q := Prod.ext hk hv
    subst hp
    congr 1
    refine rises_ext l r h1.2 h2.2 fun k => ?_
    by_cases e : p.1 = k
    · subst e
      rw [get_head_none l p.1 h1.1, get_head_none r p.1 h2.1]
    · have := h k
      rw [get_cons, get_cons, if_neg e, if_neg e] at this
      exact this
end Go.Proofs.YtghjikifflpeiabDoor
