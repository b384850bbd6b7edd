/-
  Texts of this proof, joined: Trees, TreeF, FitsF, PlaceM, ForestF, TapeF, TapeG, KTree, KPure, ForestK, ForestE, ForestR, ApplyOne, CheckC, PosF, FPosF, FCName.
-/
import Derived.Test.YtpmfbfflacbmjacKeys
import Derived.Test.YtpmfbfflacbmjacBase
/-
  Pairs, as the document has them: what is wrong with them, what is got, put, deleted, and what lies in a range. No program is named.
-/
namespace Go.Proofs.Ytpmfbfflacbmjac
abbrev Pr := List UInt8 × List UInt8
abbrev PL := List Pr
/-- A key stands ahead of another one. -/
abbrev klt (a b : List UInt8) : Bool := Op.bytesLess a b
theorem klt_nil (a : List UInt8) : klt a [] = false := less_nil a
theorem klt_cons (x y : UInt8) (a b : List UInt8) : klt (x :: a) (y :: b) = (decide (x < y) || (x == y && klt a b)) := less_cons x y a b
theorem klt_irrefl : ∀ a : List UInt8, klt a a = false
  | [] => rfl
  | x :: a => by rw [klt_cons, klt_irrefl a]; simp
theorem klt_trans : ∀ a b c : List UInt8, klt a b = true → klt b c = true → klt a c = true
  | _, [], _, h, _ => by rw [klt_nil] at h; cases h
  | _, _ :: _, [], _, h => by rw [klt_nil] at h; cases h
  | [], _ :: _, _ :: _, _, _ => rfl
  | x :: a, y :: b, z :: c, h1, h2 => by
    rw [klt_cons] at h1 h2 ⊢
    simp only [Bool.or_eq_true, decide_eq_true_eq, Bool.and_eq_true, beq_iff_eq, UInt8.lt_iff_toNat_lt] at h1 h2 ⊢
    rcases h1 with h1 | ⟨rfl, h1⟩
    · rcases h2 with h2 | ⟨rfl, h2⟩
      · left; omega
      · left; exact h1
    · rcases h2 with h2 | ⟨rfl, h2⟩
      · left; exact h2
      · right; exact ⟨rfl, klt_trans a b c h1 h2⟩
theorem klt_total : ∀ a b : List UInt8, klt a b = false → a ≠ b → klt b a = true
  | [], [], _, h => absurd rfl h
  | [], _ :: _, h, _ => by cases h
  | _ :: _, [], _, _ => rfl
  | x :: a, y :: b, h1, h2 => by
    rw [klt_cons] at h1 ⊢
    simp only [Bool.or_eq_false_iff, decide_eq_false_iff_not, Bool.and_eq_false_iff, beq_eq_false_iff_ne, UInt8.lt_iff_toNat_lt] at h1
    simp only [Bool.or_eq_true, decide_eq_true_eq, Bool.and_eq_true, beq_iff_eq, UInt8.lt_iff_toNat_lt]
    by_cases e : y = x
    · subst e
      right
      refine ⟨rfl, klt_total a b ?_ (fun e => h2 (by rw [e]))⟩
      rcases h1.2 with h | h
      · exact absurd rfl h
      · exact h
    · left
      have : x.toNat ≠ y.toNat := fun h => e (UInt8.toNat_inj.1 h.symm)
      omega
theorem klt_asymm (a b : List UInt8) (h : klt a b = true) : klt b a = false := by
  cases hb : klt b a with
  | false => rfl
  | true => have := klt_trans a b a h hb; rw [klt_irrefl] at this; cases this
theorem klt_ne {a b : List UInt8} (h : klt a b = true) : a ≠ b := by
  rintro rfl
  rw [klt_irrefl] at h; cases h

/-- What is wrong with a pair. -/
def pairFaultF (p : Pr) : Int := if 32 < p.2.length then 1 else keyFaultF p.1.length
/-- What is wrong with the pair at a place, and with its order. -/
def faultAt (l : PL) (i : Nat) : Int :=
  if pairFaultF (l.getD i ([], [])) = 0 then (if 0 < i ∧ klt (l.getD (i - 1) ([], [])).1 (l.getD i ([], [])).1 = false then 3 else 0) else pairFaultF (l.getD i ([], []))
def faultFrom (l : PL) : Nat → Nat → Int
  | 0, _ => 0
  | n + 1, i => if faultAt l i = 0 then faultFrom l n (i + 1) else faultAt l i
/-- What is wrong with pairs. -/
def pairsFaultF (l : PL) : Int := if 60 < l.length then 1 else faultFrom l l.length 0
theorem faultFrom_split (l : PL) (n i : Nat) (hi : i ≤ n) (h : ∀ j, j < i → faultAt l j = 0) : faultFrom l n 0 = faultFrom l (n - i) i := by
  induction i with
  | zero => rfl
  | succ i ih =>
    rw [ih (by omega) (fun j hj => h j (by omega)), show n - i = (n - (i + 1)) + 1 by omega, faultFrom, if_pos (h i (by omega))]
/-- The fault that is met first. -/
theorem pairsFault_at (l : PL) (i : Nat) (hi : i < l.length) (hl : l.length ≤ 60) (h : ∀ j, j < i → faultAt l j = 0) (hf : faultAt l i ≠ 0) : pairsFaultF l = faultAt l i := by
  rw [pairsFaultF, if_neg (by omega), faultFrom_split l _ i (by omega) h, show l.length - i = (l.length - (i + 1)) + 1 by omega, faultFrom, if_neg hf]
theorem pairsFault_none (l : PL) (hl : l.length ≤ 60) (h : ∀ j, j < l.length → faultAt l j = 0) : pairsFaultF l = 0 := by
  rw [pairsFaultF, if_neg (by omega), faultFrom_split l _ l.length (Nat.le_refl _) h, Nat.sub_self, faultFrom]
theorem pairsFault_long (l : PL) (hl : 60 < l.length) : pairsFaultF l = 1 := by rw [pairsFaultF, if_pos hl]
theorem faultFrom_zero (l : PL) : ∀ (n i : Nat), faultFrom l n i = 0 → ∀ j, i ≤ j → j < i + n → faultAt l j = 0
  | 0, i, _, j, h1, h2 => by omega
  | n + 1, i, h, j, h1, h2 => by
    rw [faultFrom] at h
    by_cases e : faultAt l i = 0
    · rw [if_pos e] at h
      by_cases hj : j = i
      · subst hj; exact e
      · exact faultFrom_zero l n (i + 1) h j (by omega) (by omega)
    · rw [if_neg e] at h; exact absurd h e
/-- Pairs that rise. -/
def Rises (l : PL) : Prop := l.Pairwise fun p q => klt p.1 q.1 = true
/-- A tree. -/
structure Tree (l : PL) : Prop where
  room : l.length ≤ 60
  pairs : ∀ p ∈ l, (1 ≤ p.1.length ∧ p.1.length ≤ 16) ∧ p.2.length ≤ 32
  rises : Rises l
theorem pairFault_iff (p : Pr) : pairFaultF p = 0 ↔ (1 ≤ p.1.length ∧ p.1.length ≤ 16) ∧ p.2.length ≤ 32 := by
  unfold pairFaultF keyFaultF
  by_cases h : 32 < p.2.length
  · rw [if_pos h]; constructor
    · intro h; cases h
    · intro h; omega
  · rw [if_neg h]
    by_cases h2 : 1 ≤ p.1.length ∧ p.1.length ≤ 16
    · rw [if_pos h2]; exact ⟨fun _ => ⟨h2, by omega⟩, fun _ => rfl⟩
    · rw [if_neg h2]; constructor
      · intro h; cases h
      · intro h; exact absurd h.1 h2
theorem faultAt_iff (l : PL) (i : Nat) : faultAt l i = 0 ↔ pairFaultF (l.getD i ([], [])) = 0 ∧ (0 < i → klt (l.getD (i - 1) ([], [])).1 (l.getD i ([], [])).1 = true) := by
  unfold faultAt
  by_cases h : pairFaultF (l.getD i ([], [])) = 0
  · rw [if_pos h]
    by_cases h2 : 0 < i ∧ klt (l.getD (i - 1) ([], [])).1 (l.getD i ([], [])).1 = false
    · rw [if_pos h2]; constructor
      · intro h; cases h
      · intro h3; have := h3.2 h2.1; rw [h2.2] at this; cases this
    · rw [if_neg h2]
      refine ⟨fun _ => ⟨h, fun hi => ?_⟩, fun _ => rfl⟩
      cases hk : klt (l.getD (i - 1) ([], [])).1 (l.getD i ([], [])).1 with
      | true => rfl
      | false => exact absurd ⟨hi, hk⟩ h2
  · rw [if_neg h]; constructor
    · intro h2; exact absurd h2 h
    · intro h2; exact absurd h2.1 h
theorem rises_of_steps : ∀ l : PL, (∀ i, 0 < i → i < l.length → klt (l.getD (i - 1) ([], [])).1 (l.getD i ([], [])).1 = true) → Rises l
  | [], _ => List.Pairwise.nil
  | [_], _ => List.pairwise_singleton _ _
  | p :: q :: r, h => by
    have ih : Rises (q :: r) := rises_of_steps (q :: r) fun i h0 hi => by
      have := h (i + 1) (by omega) (by simp at hi ⊢; omega)
      rw [show i + 1 - 1 = (i - 1) + 1 by omega] at this
      simpa using this
    have h01 : klt p.1 q.1 = true := by
      have := h 1 (by omega) (by simp)
      simpa using this
    refine List.Pairwise.cons (fun x hx => ?_) ih
    rcases List.mem_cons.1 hx with rfl | hx
    · exact h01
    · exact klt_trans _ _ _ h01 ((List.pairwise_cons.1 ih).1 x hx)
theorem rises_step (l : PL) (h : Rises l) (i j : Nat) (hij : i < j) (hj : j < l.length) : klt (l.getD i ([], [])).1 (l.getD j ([], [])).1 = true := by
  have := List.pairwise_iff_getElem.1 h i j (by omega) hj hij
  simpa [hj, show i < l.length by omega] using this
theorem tree_iff (l : PL) : pairsFaultF l = 0 ↔ Tree l := by
  constructor
  · intro h
    have hl : l.length ≤ 60 := by
      by_cases hl : 60 < l.length
      · rw [pairsFault_long l hl] at h; cases h
      · omega
    rw [pairsFaultF, if_neg (by omega)] at h
    have ha := fun j (hj : j < l.length) => (faultAt_iff l j).1 (faultFrom_zero l l.length 0 h j (by omega) (by omega))
    refine ⟨hl, fun p hp => ?_, rises_of_steps l fun i h0 hi => (ha i hi).2 h0⟩
    obtain ⟨i, hi, rfl⟩ := List.mem_iff_getElem.1 hp
    have := (pairFault_iff _).1 (ha i hi).1
    simpa [hi] using this
  · intro h
    refine pairsFault_none l h.room fun j hj => (faultAt_iff l j).2 ⟨(pairFault_iff _).2 ?_, fun h0 => rises_step l h.rises _ _ (by omega) hj⟩
    have := h.pairs l[j] (List.getElem_mem hj)
    simpa [hj] using this
theorem tree_nil : Tree [] := ⟨by simp, by simp, List.Pairwise.nil⟩

/-- What is got. -/
def getF (l : PL) (k : List UInt8) : Option (List UInt8) := (l.find? fun p => p.1 == k).map (·.2)
theorem get_nil (k : List UInt8) : getF [] k = none := rfl
theorem get_cons (p : Pr) (l : PL) (k : List UInt8) : getF (p :: l) k = if p.1 = k then some p.2 else getF l k := by
  unfold getF
  by_cases h : p.1 = k
  · rw [List.find?_cons_of_pos (by simpa using h), if_pos h]; rfl
  · rw [List.find?_cons_of_neg (by simpa using h), if_neg h]
theorem get_at : ∀ (l : PL) (k : List UInt8) (i : Nat), i < l.length → (∀ j, j < i → (l.getD j ([], [])).1 ≠ k) → (l.getD i ([], [])).1 = k → getF l k = some (l.getD i ([], [])).2
  | [], _, _, h, _, _ => by simp at h
  | p :: l, k, 0, _, _, h2 => by rw [get_cons, if_pos (by simpa using h2)]; simp
  | p :: l, k, i + 1, h, h1, h2 => by
    rw [get_cons, if_neg (by simpa using h1 0 (by omega))]
    have := get_at l k i (by simpa using h) (fun j hj => by simpa using h1 (j + 1) (by omega)) (by simpa using h2)
    simpa using this
theorem get_none : ∀ (l : PL) (k : List UInt8), (∀ j, j < l.length → (l.getD j ([], [])).1 ≠ k) → getF l k = none
  | [], _, _ => rfl
  | p :: l, k, h => by
    rw [get_cons, if_neg (by simpa using h 0 (by simp))]
    exact get_none l k fun j hj => by simpa using h (j + 1) (by simpa using hj)
/-- The pairs with a pair. -/
def putL : PL → Pr → PL
  | [], p => [p]
  | q :: r, p => if klt q.1 p.1 = true then q :: putL r p else if q.1 = p.1 then p :: r else p :: q :: r
/-- One pair more, as the document goes. -/
def putStep (p : Pr) (s : PL × Bool) (q : Pr) : PL × Bool :=
  let s1 : PL × Bool := if s.2 = false ∧ klt q.1 p.1 = false then (s.1 ++ [p], true) else s
  if q.1 = p.1 then s1 else (s1.1 ++ [q], s1.2)
def putEnd (p : Pr) (s : PL × Bool) : PL := if s.2 = false then s.1 ++ [p] else s.1
theorem put_done (p : Pr) (l : PL) : ∀ out : PL, (∀ q ∈ l, q.1 ≠ p.1) → l.foldl (putStep p) (out, true) = (out ++ l, true) := by
  induction l with
  | nil => intro out _; simp
  | cons q r ih =>
    intro out h
    rw [List.foldl_cons, show putStep p (out, true) q = (out ++ [q], true) from ?_, ih _ fun x hx => h x (List.mem_cons_of_mem _ hx)]
    · simp
    · simp [putStep, h q (by simp)]
theorem put_fold (p : Pr) (l : PL) (h : Rises l) : ∀ out : PL, putEnd p (l.foldl (putStep p) (out, false)) = out ++ putL l p := by
  induction l with
  | nil => intro out; simp [putEnd, putL]
  | cons q r ih =>
    intro out
    have hr := (List.pairwise_cons.1 h)
    rw [List.foldl_cons, putL]
    by_cases h1 : klt q.1 p.1 = true
    · rw [if_pos h1, show putStep p (out, false) q = (out ++ [q], false) from ?_, ih hr.2]
      · simp
      · have := klt_ne h1
        simp [putStep, this, h1]
    · have h1' : klt q.1 p.1 = false := by simpa using h1
      rw [if_neg h1]
      by_cases h2 : q.1 = p.1
      · have hne : ∀ x ∈ r, x.1 ≠ p.1 := fun x hx e => by have := hr.1 x hx; rw [h2, e, klt_irrefl] at this; cases this
        rw [if_pos h2, show putStep p (out, false) q = (out ++ [p], true) from ?_, put_done p r _ hne]
        · simp [putEnd]
        · simp [putStep, h2, klt_irrefl]
      · have hpq := klt_total _ _ h1' h2
        have hne : ∀ x ∈ r, x.1 ≠ p.1 := fun x hx e => by
          have := hr.1 x hx
          rw [e] at this
          rw [this] at h1'; cases h1'
        rw [if_neg h2, show putStep p (out, false) q = (out ++ [p] ++ [q], true) from ?_, put_done p r _ hne]
        · simp [putEnd]
        · simp only [putStep, h1', h2, and_self, if_true, if_false]
/-- The pairs without a key. -/
def delL (l : PL) (k : List UInt8) : PL := l.filter fun q => !(q.1 == k)
/-- The pairs in a range. -/
def rangeL (l : PL) (a b : List UInt8) : PL := l.filter fun q => !klt q.1 a && !klt b q.1

theorem mem_put (l : PL) (p x : Pr) : x ∈ putL l p → x = p ∨ x ∈ l := by
  induction l with
  | nil => intro h; simp [putL] at h; exact .inl h
  | cons q r ih =>
    intro h
    rw [putL] at h
    by_cases h1 : klt q.1 p.1 = true
    · rw [if_pos h1] at h
      rcases List.mem_cons.1 h with rfl | h
      · exact .inr (by simp)
      · rcases ih h with h | h
        · exact .inl h
        · exact .inr (List.mem_cons_of_mem _ h)
    · rw [if_neg h1] at h
      by_cases h2 : q.1 = p.1
      · rw [if_pos h2] at h
        rcases List.mem_cons.1 h with h | h
        · exact .inl h
        · exact .inr (List.mem_cons_of_mem _ h)
      · rw [if_neg h2] at h
        rcases List.mem_cons.1 h with h | h
        · exact .inl h
        · exact .inr h
theorem put_rises (l : PL) (p : Pr) (h : Rises l) : Rises (putL l p) := by
  induction l with
  | nil => exact List.pairwise_singleton _ _
  | cons q r ih =>
    have hr := List.pairwise_cons.1 h
    rw [putL]
    by_cases h1 : klt q.1 p.1 = true
    · rw [if_pos h1]
      refine List.Pairwise.cons (fun x hx => ?_) (ih hr.2)
      rcases mem_put r p x hx with rfl | hx
      · exact h1
      · exact hr.1 x hx
    · rw [if_neg h1]
      by_cases h2 : q.1 = p.1
      · rw [if_pos h2]
        exact List.Pairwise.cons (fun x hx => by rw [← h2]; exact hr.1 x hx) hr.2
      · rw [if_neg h2]
        have hpq := klt_total _ _ (by simpa using h1) h2
        refine List.Pairwise.cons (fun x hx => ?_) h
        rcases List.mem_cons.1 hx with rfl | hx
        · exact hpq
        · exact klt_trans _ _ _ hpq (hr.1 x hx)
theorem get_put (l : PL) (p : Pr) (k : List UInt8) (h : Rises l) : getF (putL l p) k = if p.1 = k then some p.2 else getF l k := by
  induction l with
  | nil => rw [putL, get_cons]
  | cons q r ih =>
    have hr := List.pairwise_cons.1 h
    rw [putL]
    by_cases h1 : klt q.1 p.1 = true
    · rw [if_pos h1, get_cons, get_cons, ih hr.2]
      by_cases e : p.1 = k
      · rw [if_pos e, if_pos e, if_neg (fun e2 => klt_ne h1 (e2.trans e.symm))]
      · rw [if_neg e, if_neg e]
    · rw [if_neg h1]
      by_cases h2 : q.1 = p.1
      · rw [if_pos h2, get_cons, get_cons]
        by_cases e : p.1 = k
        · rw [if_pos e, if_pos e]
        · rw [if_neg e, if_neg e, if_neg (by rw [h2]; exact e)]
      · rw [if_neg h2, get_cons]
theorem get_del (l : PL) (k x : List UInt8) : getF (delL l k) x = if k = x then none else getF l x := by
  induction l with
  | nil => simp [delL, getF]
  | cons q r ih =>
    unfold delL at ih ⊢
    by_cases e : q.1 = k
    · rw [List.filter_cons_of_neg (by simp [e]), ih, get_cons]
      by_cases e2 : k = x
      · rw [if_pos e2, if_pos e2]
      · rw [if_neg e2, if_neg e2, if_neg (by rw [e]; exact e2)]
    · rw [List.filter_cons_of_pos (by simp [e]), get_cons, ih, get_cons]
      by_cases e2 : k = x
      · rw [if_pos e2, if_pos e2, if_neg (by rw [← e2]; exact e)]
      · rw [if_neg e2, if_neg e2]
theorem del_rises (l : PL) (k : List UInt8) (h : Rises l) : Rises (delL l k) := List.Pairwise.filter _ h
theorem range_rises (l : PL) (a b : List UInt8) (h : Rises l) : Rises (rangeL l a b) := List.Pairwise.filter _ h
theorem get_head_none (l : PL) (k : List UInt8) (h : ∀ p ∈ l, klt k p.1 = true) : getF l k = none :=
  get_none l k fun j hj e => by
    have := h l[j] (List.getElem_mem hj)
    rw [show l[j] = l.getD j ([], []) by simp [hj], e, klt_irrefl] at this
    cases this
/-- Pairs that rise are told by what is got. -/
theorem rises_ext : ∀ (l m : PL), Rises l → Rises m → (∀ k, getF l k = getF m k) → l = m
  | [], [], _, _, _ => rfl
  | [], q :: r, _, _, h => by have := h q.1; rw [get_cons, if_pos rfl] at this; cases this
  | p :: l, [], _, _, h => by have := h p.1; rw [get_cons, if_pos rfl] at this; cases this
  | p :: l, q :: r, hl, hr, h => by
    have h1 := List.pairwise_cons.1 hl
    have h2 := List.pairwise_cons.1 hr
    have hk : p.1 = q.1 := by
      cases e : klt p.1 q.1 with
      | true =>
        have := h p.1
        rw [get_cons, if_pos rfl, get_head_none (q :: r) p.1 fun x hx => by
          rcases List.mem_cons.1 hx with rfl | hx
          · exact e
          · exact klt_trans _ _ _ e (h2.1 x hx)] at this
        cases this
      | false =>
        by_cases e2 : p.1 = q.1
        · exact e2
        · have e3 := klt_total _ _ e e2
          have := h q.1
          rw [get_cons (p := q), if_pos rfl, get_head_none (p :: l) q.1 fun x hx => by
            rcases List.mem_cons.1 hx with rfl | hx
            · exact e3
            · exact klt_trans _ _ _ e3 (h1.1 x hx)] at this
          cases this
    have hv : p.2 = q.2 := by
      have := h p.1
      rw [get_cons, if_pos rfl, get_cons, if_pos hk.symm] at this
      exact Option.some.inj this
    have hp : p = q := Prod.ext hk hv
    subst hp
    congr 1
    refine rises_ext l r h1.2 h2.2 fun k => ?_
    by_cases e : p.1 = k
    · subst e
      rw [get_head_none l p.1 h1.1, get_head_none r p.1 h2.1]
    · have := h k
      rw [get_cons, get_cons, if_neg e, if_neg e] at this
      exact this
end Go.Proofs.Ytpmfbfflacbmjac

/-
  What tree.Get, Put, Delete, Range answer, by the document: an error, and what comes with it. No program is named.
-/
namespace Go.Proofs.Ytpmfbfflacbmjac
/-- What pairs and a key are refused for. -/
def getE (l : PL) (k : List UInt8) : Int := if pairsFaultF l = 0 then keyFaultF k.length else pairsFaultF l
theorem getE_tree {l : PL} {k : List UInt8} (h : getE l k = 0) : Tree l := by
  unfold getE at h
  by_cases h0 : pairsFaultF l = 0
  · exact (tree_iff l).1 h0
  · rw [if_neg h0] at h; exact absurd h h0
theorem keyFault_iff (n : Nat) : keyFaultF n = 0 ↔ 1 ≤ n ∧ n ≤ 16 := by
  unfold keyFaultF
  by_cases h : 1 ≤ n ∧ n ≤ 16
  · rw [if_pos h]; exact ⟨fun _ => h, fun _ => rfl⟩
  · rw [if_neg h]
    constructor
    · intro h2; cases h2
    · intro h2; exact absurd h2 h
theorem getE_key {l : PL} {k : List UInt8} (h : getE l k = 0) : 1 ≤ k.length ∧ k.length ≤ 16 := by
  have ht := (tree_iff l).2 (getE_tree h)
  unfold getE at h
  rw [if_pos ht] at h
  exact (keyFault_iff _).1 h
theorem getE_ok {l : PL} {k : List UInt8} (h : Tree l) (hk : 1 ≤ k.length ∧ k.length ≤ 16) : getE l k = 0 := by
  unfold getE
  rw [if_pos ((tree_iff l).2 h)]
  exact (keyFault_iff _).2 hk
/-- Get: whether there is one, and its bytes. -/
def getB (l : PL) (k : List UInt8) : Bool := getE l k == 0 && (getF l k).isSome
def getV (l : PL) (k : List UInt8) : List UInt8 := if getE l k = 0 then (getF l k).getD [] else []
/-- Delete. -/
def delF (l : PL) (k : List UInt8) : PL := if getE l k = 0 then delL l k else []
theorem del_take (l : PL) (k : List UInt8) (m : Nat) (h : m < l.length) : delL (l.take (m + 1)) k = if (l.getD m ([], [])).1 = k then delL (l.take m) k else delL (l.take m) k ++ [l.getD m ([], [])] := by
  rw [List.take_succ_eq_append_getElem h, show l[m] = l.getD m ([], []) by simp [h], delL, List.filter_append]
  generalize l.getD m ([], []) = P
  by_cases e : P.1 = k
  · rw [if_pos e, List.filter_cons_of_neg (by simp [e])]; simp [delL]
  · rw [if_neg e, List.filter_cons_of_pos (by simp [e])]; simp [delL]
theorem del_len (l : PL) (k : List UInt8) : (delL l k).length ≤ l.length := List.length_filter_le _ _
/-- Range. -/
def rangeE (l : PL) (f t : List UInt8) : Int := if getE l f = 0 then keyFaultF t.length else getE l f
theorem rangeE_get {l : PL} {f t : List UInt8} (h : rangeE l f t = 0) : getE l f = 0 := by
  unfold rangeE at h
  by_cases h0 : getE l f = 0
  · exact h0
  · rw [if_neg h0] at h; exact absurd h h0
def rangeF (l : PL) (f t : List UInt8) : PL := if rangeE l f t = 0 then rangeL l f t else []
theorem range_take (l : PL) (f t : List UInt8) (m : Nat) (h : m < l.length) : rangeL (l.take (m + 1)) f t = if (!klt (l.getD m ([], [])).1 f && !klt t (l.getD m ([], [])).1) = true then rangeL (l.take m) f t ++ [l.getD m ([], [])] else rangeL (l.take m) f t := by
  rw [List.take_succ_eq_append_getElem h, show l[m] = l.getD m ([], []) by simp [h], rangeL, List.filter_append]
  generalize l.getD m ([], []) = P
  by_cases e : (!klt P.1 f && !klt t P.1) = true
  · rw [if_pos e, List.filter_cons_of_pos (p := fun q : Pr => !klt q.1 f && !klt t q.1) e]; simp [rangeL]
  · rw [if_neg e, List.filter_cons_of_neg (p := fun q : Pr => !klt q.1 f && !klt t q.1) e]; simp [rangeL]
theorem range_len (l : PL) (f t : List UInt8) : (rangeL l f t).length ≤ l.length := List.length_filter_le _ _
/-- Put. -/
def putE0 (l : PL) (p : Pr) : Int := if pairsFaultF l = 0 then pairFaultF p else pairsFaultF l
def putE (l : PL) (p : Pr) : Int := if putE0 l p = 0 then (if 60 < (putL l p).length then 11 else 0) else putE0 l p
def putF (l : PL) (p : Pr) : PL := if putE l p = 0 then putL l p else []
theorem put_len (l : PL) (p : Pr) : (putL l p).length ≤ l.length + 1 := by
  induction l with
  | nil => simp [putL]
  | cons q r ih =>
    rw [putL]
    by_cases h1 : klt q.1 p.1 = true
    · rw [if_pos h1]; simp; omega
    · rw [if_neg h1]
      by_cases h2 : q.1 = p.1
      · rw [if_pos h2]; simp
      · rw [if_neg h2]; simp
end Go.Proofs.Ytpmfbfflacbmjac

/-
  Pairs that fit into memory. No program is named.
-/
namespace Go.Proofs.Ytpmfbfflacbmjac
/-- What came in fits into memory. -/
structure Fits (l : PL) : Prop where
  many : l.length * 48 ≤ 140737488355328
  each : ∀ i, i < l.length → (l.getD i ([], [])).1.length ≤ 140737488355328 ∧ (l.getD i ([], [])).2.length ≤ 140737488355328
theorem Fits.len {l : PL} (h : Fits l) : l.length ≤ 140737488355328 := by have := h.many; omega
theorem Tree.fits {l : PL} (h : Tree l) : Fits l := by
  refine ⟨by have := h.room; omega, fun i hi => ?_⟩
  have := h.pairs l[i] (List.getElem_mem hi)
  rw [show l[i] = l.getD i ([], []) by simp [hi]] at this
  omega
theorem fits_nil : Fits [] := tree_nil.fits
end Go.Proofs.Ytpmfbfflacbmjac

/-
  Writes and places in memory: structs of three slices of bytes and a bool.
-/
namespace Go.Proofs.Ytpmfbfflacbmjac
open Go.RowKit
/-- A place in raw bytes: its name, its key, its value, and whether it is to be gone. -/
structure Plc where
  name : List UInt8
  key : List UInt8
  value : List UInt8
  gone : Bool
def nameF (bs : List UInt8) : List UInt8 := if bs.length = 0 then [0] else bs.take 8
theorem nameF_len (bs : List UInt8) : 1 ≤ (nameF bs).length ∧ (nameF bs).length ≤ 8 := by
  unfold nameF
  by_cases h : bs.length = 0
  · rw [if_pos h]; simp
  · rw [if_neg h]; simp; omega
/-- A write out of a place. -/
def writeF (p : Plc) : Plc := ⟨nameF p.name, keyF p.key, if p.gone = true then [] else p.value.take 32, p.gone⟩
theorem writeF_len (p : Plc) : (1 ≤ (writeF p).name.length ∧ (writeF p).name.length ≤ 8) ∧ (1 ≤ (writeF p).key.length ∧ (writeF p).key.length ≤ 16) ∧ (writeF p).value.length ≤ 32 := by
  refine ⟨nameF_len _, keyF_len _, ?_⟩
  show (if p.gone = true then [] else p.value.take 32).length ≤ 32
  by_cases h : p.gone = true
  · rw [if_pos h]; simp
  · rw [if_neg h]; simp; omega
/-- What fits into memory. -/
def PlcFits (p : Plc) : Prop := p.name.length ≤ 140737488355328 ∧ p.key.length ≤ 140737488355328 ∧ p.value.length ≤ 140737488355328
def noPlc : Plc := ⟨[], [], [], false⟩
/-- A place, as a value. -/
def PlaceIs (w : World) (v : Value) (p : Plc) : Prop := ∃ vn vk vv, v = .agg #[vn, vk, vv, .bool p.gone] ∧ SliceIs w vn p.name ∧ SliceIs w vk p.key ∧ SliceIs w vv p.value
theorem PlaceIs.grown {w w' : World} {v : Value} {p : Plc} (h : PlaceIs w v p) (hg : w.grownBy w' none) : PlaceIs w' v p := by
  obtain ⟨vn, vk, vv, rfl, h1, h2, h3⟩ := h
  exact ⟨vn, vk, vv, rfl, h1.grown hg, h2.grown hg, h3.grown hg⟩
/-- The place that lies at an address. -/
def PlaceAt (w : World) (b o : Nat) (p : Plc) : Prop := ∃ vn vk vv, w.cell? ⟨b, o, none⟩ = some vn ∧ w.cell? ⟨b, o + 1, none⟩ = some vk ∧ w.cell? ⟨b, o + 2, none⟩ = some vv ∧ w.cell? ⟨b, o + 3, none⟩ = some (.bool p.gone) ∧ SliceIs w vn p.name ∧ SliceIs w vk p.key ∧ SliceIs w vv p.value
theorem PlaceAt.grown {w w' : World} {b o : Nat} {p : Plc} (h : PlaceAt w b o p) (hg : w.grownBy w' none) : PlaceAt w' b o p := by
  obtain ⟨vn, vk, vv, c1, c2, c3, c4, h1, h2, h3⟩ := h
  exact ⟨vn, vk, vv, hg.cell c1 (by simp), hg.cell c2 (by simp), hg.cell c3 (by simp), hg.cell c4 (by simp), h1.grown hg, h2.grown hg, h3.grown hg⟩
/-- A list of places, as it is handed over. -/
def PlacesIs (w : World) (v : Value) (l : List Plc) : Prop :=
  ∃ a cap, v = .slice a l.length cap ∧ l.length ≤ cap ∧ (l = [] ∨ ∃ b o, a = some ⟨b, o, none⟩ ∧ ∀ i, i < l.length → PlaceAt w b (o + i * 4) (l.getD i noPlc))
theorem PlacesIs.shape {w : World} {v : Value} {l : List Plc} (h : PlacesIs w v l) : ∃ a cap, v = .slice a l.length cap := by
  obtain ⟨a, cap, rfl, _⟩ := h
  exact ⟨a, cap, rfl⟩
theorem PlacesIs.grown {w w' : World} {v : Value} {l : List Plc} (h : PlacesIs w v l) (hg : w.grownBy w' none) : PlacesIs w' v l := by
  obtain ⟨a, cap, rfl, hc, h⟩ := h
  refine ⟨a, cap, rfl, hc, ?_⟩
  rcases h with h | ⟨b, o, rfl, h⟩
  · exact .inl h
  · exact .inr ⟨b, o, rfl, fun i hi => (h i hi).grown hg⟩
theorem PlacesIs.at {w : World} {a : Option Addr} {n cap : Nat} {l : List Plc} (h : PlacesIs w (.slice a n cap) l) (i : Nat) (hi : i < l.length) : ∃ b o, a = some ⟨b, o, none⟩ ∧ PlaceAt w b (o + i * 4) (l.getD i noPlc) := by
  obtain ⟨a', cap', e, hc, h⟩ := h
  simp only [Value.slice.injEq] at e
  obtain ⟨rfl, rfl, rfl⟩ := e
  rcases h with rfl | ⟨b, o, rfl, h⟩
  · simp at hi
  · exact ⟨b, o, rfl, h i hi⟩
/-- Four cells of a block. -/
theorem quad_room {W w : World} {b : Nat} {x y z u : Value} {t : TypeId} (hg : W.grownBy w none) (h : W.heap[b]? = some (.cells #[x, y, z, u] t)) :
    (w.cell? ⟨b, 0, none⟩ = some x ∧ w.cell? ⟨b, 1, none⟩ = some y ∧ w.cell? ⟨b, 2, none⟩ = some z ∧ w.cell? ⟨b, 3, none⟩ = some u) ∧ w.frozen? ⟨b, 0, none⟩ = false ∧ w.frozen? ⟨b, 1, none⟩ = false ∧ w.frozen? ⟨b, 2, none⟩ = false ∧ w.frozen? ⟨b, 3, none⟩ = false ∧ w.heap[b]? = some (.cells #[x, y, z, u] t) := by
  have hb : w.heap[b]? = some (.cells #[x, y, z, u] t) := by rw [hg.block b (Array.getElem?_eq_some_iff.1 h).1 (by simp)]; exact h
  refine ⟨⟨?_, ?_, ?_, ?_⟩, ?_, ?_, ?_, ?_, hb⟩
  all_goals simp [World.cell?, World.frozen?, hb]
theorem quad_elim {W w : World} {b : Nat} {x y z u : Value} {t : TypeId} (hg : W.grownBy w none) (h : W.heap[b]? = some (.cells #[x, y, z, u] t)) {G : Prop}
    (k : w.heap[b]? = some (.cells #[x, y, z, u] t) → w.cell? ⟨b, 0, none⟩ = some x → w.cell? ⟨b, 1, none⟩ = some y → w.cell? ⟨b, 2, none⟩ = some z → w.cell? ⟨b, 3, none⟩ = some u → w.frozen? ⟨b, 0, none⟩ = false → w.frozen? ⟨b, 1, none⟩ = false → w.frozen? ⟨b, 2, none⟩ = false → w.frozen? ⟨b, 3, none⟩ = false → G) : G := by
  obtain ⟨⟨h1, h2, h3, h4⟩, f1, f2, f3, f4, hb⟩ := quad_room hg h
  exact k hb h1 h2 h3 h4 f1 f2 f3 f4
/-- Four stores into a block of four. -/
theorem quad_set {w : World} {b : Nat} {x y z u : Value} {t : TypeId} (h : w.heap[b]? = some (.cells #[x, y, z, u] t)) (x' y' z' u' : Value) :
    ((((w.setCell ⟨b, 0, none⟩ x').setCell ⟨b, 1, none⟩ y').setCell ⟨b, 2, none⟩ z').setCell ⟨b, 3, none⟩ u').heap[b]? = some (.cells #[x', y', z', u'] t) ∧
    (w.setCell ⟨b, 0, none⟩ x').cell? ⟨b, 0, none⟩ = some x' ∧ ((w.setCell ⟨b, 0, none⟩ x').setCell ⟨b, 1, none⟩ y').cell? ⟨b, 1, none⟩ = some y' ∧ (((w.setCell ⟨b, 0, none⟩ x').setCell ⟨b, 1, none⟩ y').setCell ⟨b, 2, none⟩ z').cell? ⟨b, 2, none⟩ = some z' ∧ ((((w.setCell ⟨b, 0, none⟩ x').setCell ⟨b, 1, none⟩ y').setCell ⟨b, 2, none⟩ z').setCell ⟨b, 3, none⟩ u').cell? ⟨b, 3, none⟩ = some u' := by
  have h0 : (w.setCell ⟨b, 0, none⟩ x').heap[b]? = some (.cells #[x', y, z, u] t) := by
    simp only [World.setCell, Array.getElem?_modify, if_true, h, Option.map_some]; first | rfl | simp
  have h1 : ((w.setCell ⟨b, 0, none⟩ x').setCell ⟨b, 1, none⟩ y').heap[b]? = some (.cells #[x', y', z, u] t) := by
    rw [World.setCell, Array.getElem?_modify, if_pos rfl, h0]; first | rfl | simp
  have h2 : (((w.setCell ⟨b, 0, none⟩ x').setCell ⟨b, 1, none⟩ y').setCell ⟨b, 2, none⟩ z').heap[b]? = some (.cells #[x', y', z', u] t) := by
    rw [World.setCell, Array.getElem?_modify, if_pos rfl, h1]; first | rfl | simp
  have h3 : ((((w.setCell ⟨b, 0, none⟩ x').setCell ⟨b, 1, none⟩ y').setCell ⟨b, 2, none⟩ z').setCell ⟨b, 3, none⟩ u').heap[b]? = some (.cells #[x', y', z', u'] t) := by
    rw [World.setCell, Array.getElem?_modify, if_pos rfl, h2]; first | rfl | simp
  exact ⟨h3, by simp [World.cell?, h0], by simp [World.cell?, h1], by simp [World.cell?, h2], by simp [World.cell?, h3]⟩
theorem quad_last {w : World} {b : Nat} {x y z u : Value} {t : TypeId} (h : w.heap[b]? = some (.cells #[x, y, z, u] t)) (u' : Value) : (w.setCell ⟨b, 3, none⟩ u').heap[b]? = some (.cells #[x, y, z, u'] t) := by
  simp only [World.setCell, Array.getElem?_modify, if_true, h, Option.map_some]; first | rfl | simp
/-- Bytes of the call's own stay while a block of another type turns. -/
theorem Own.setBlk {base : Nat} {w : World} {v : Value} {bs : List UInt8} (h : Own base w v bs) {b : Nat} {cur : Array Value} {t : TypeId} {fz : Nat × Nat} (hb : w.heap[b]? = some (.cells cur t fz)) (ht : t ≠ 5) (i : Nat) (u : Value) : Own base (w.setCell ⟨b, i, none⟩ u) v bs := by
  refine h.grown (row := some b) (grown_set (grown_refl _ _) i u) ?_
  rcases h.2 with ⟨rfl, _⟩ | ⟨g, cap, cur2, rfl, _, hg, _⟩
  · exact .inl rfl
  · right
    intro e
    simp [Value.ownBlock] at e
    subst e
    rw [hg] at hb
    simp at hb
    exact ht hb.2.1.symm
theorem setCell_type {w : World} {b i : Nat} {u : Value} {cur : Array Value} {t : TypeId} {fz : Nat × Nat} (hb : w.heap[b]? = some (.cells cur t fz)) : ∃ cur', (w.setCell ⟨b, i, none⟩ u).heap[b]? = some (.cells cur' t fz) := by
  refine ⟨cur.setIfInBounds i u, ?_⟩
  simp only [World.setCell, Array.getElem?_modify, if_true, hb, Option.map_some]
  first | rfl | simp
theorem Own.setQuad {base : Nat} {w : World} {v : Value} {bs : List UInt8} (h : Own base w v bs) {b : Nat} {cur : Array Value} {t : TypeId} {fz : Nat × Nat} (hb : w.heap[b]? = some (.cells cur t fz)) (ht : t ≠ 5) (x y z u : Value) : Own base ((((w.setCell ⟨b, 0, none⟩ x).setCell ⟨b, 1, none⟩ y).setCell ⟨b, 2, none⟩ z).setCell ⟨b, 3, none⟩ u) v bs := by
  obtain ⟨c1, h1⟩ := setCell_type (i := 0) (u := x) hb
  obtain ⟨c2, h2⟩ := setCell_type (i := 1) (u := y) h1
  obtain ⟨c3, h3⟩ := setCell_type (i := 2) (u := z) h2
  exact (((h.setBlk hb ht 0 x).setBlk h1 ht 1 y).setBlk h2 ht 2 z).setBlk h3 ht 3 u
theorem grown_quad {w w1 : World} (h : w.grownBy w1 none) (b : Nat) (hb : w.heap.size ≤ b) (x y z u : Value) : w.grownBy ((((w1.setCell ⟨b, 0, none⟩ x).setCell ⟨b, 1, none⟩ y).setCell ⟨b, 2, none⟩ z).setCell ⟨b, 3, none⟩ u) none :=
  grown_setNew (grown_setNew (grown_setNew (grown_setNew h _ hb _ _) _ hb _ _) _ hb _ _) _ hb _ _
end Go.Proofs.Ytpmfbfflacbmjac

/-
  Tenants, as the document has them: what is wrong with them, what a name has, what a write makes of them. No program is named.
-/
namespace Go.Proofs.Ytpmfbfflacbmjac
abbrev Tn := List UInt8 × PL
abbrev FL := List Tn
/-- Pairs that rise. -/
def t_Rises (l : FL) : Prop := l.Pairwise fun p q => klt p.1 q.1 = true
/-- What is got. -/
def t_getF (l : FL) (k : List UInt8) : Option PL := (l.find? fun p => p.1 == k).map (·.2)
theorem t_get_nil (k : List UInt8) : t_getF [] k = none := rfl
theorem t_get_cons (p : Tn) (l : FL) (k : List UInt8) : t_getF (p :: l) k = if p.1 = k then some p.2 else t_getF l k := by
  unfold t_getF
  by_cases h : p.1 = k
  · rw [List.find?_cons_of_pos (by simpa using h), if_pos h]; rfl
  · rw [List.find?_cons_of_neg (by simpa using h), if_neg h]
theorem t_get_at : ∀ (l : FL) (k : List UInt8) (i : Nat), i < l.length → (∀ j, j < i → (l.getD j ([], [])).1 ≠ k) → (l.getD i ([], [])).1 = k → t_getF l k = some (l.getD i ([], [])).2
  | [], _, _, h, _, _ => by simp at h
  | p :: l, k, 0, _, _, h2 => by rw [t_get_cons, if_pos (by simpa using h2)]; simp
  | p :: l, k, i + 1, h, h1, h2 => by
    rw [t_get_cons, if_neg (by simpa using h1 0 (by omega))]
    have := t_get_at l k i (by simpa using h) (fun j hj => by simpa using h1 (j + 1) (by omega)) (by simpa using h2)
    simpa using this
theorem t_get_none : ∀ (l : FL) (k : List UInt8), (∀ j, j < l.length → (l.getD j ([], [])).1 ≠ k) → t_getF l k = none
  | [], _, _ => rfl
  | p :: l, k, h => by
    rw [t_get_cons, if_neg (by simpa using h 0 (by simp))]
    exact t_get_none l k fun j hj => by simpa using h (j + 1) (by simpa using hj)
/-- The pairs with a pair. -/
def t_putL : FL → Tn → FL
  | [], p => [p]
  | q :: r, p => if klt q.1 p.1 = true then q :: t_putL r p else if q.1 = p.1 then p :: r else p :: q :: r
/-- One pair more, as the document goes. -/
def t_putStep (p : Tn) (s : FL × Bool) (q : Tn) : FL × Bool :=
  let s1 : FL × Bool := if s.2 = false ∧ klt q.1 p.1 = false then (s.1 ++ [p], true) else s
  if q.1 = p.1 then s1 else (s1.1 ++ [q], s1.2)
def t_putEnd (p : Tn) (s : FL × Bool) : FL := if s.2 = false then s.1 ++ [p] else s.1
theorem t_put_done (p : Tn) (l : FL) : ∀ out : FL, (∀ q ∈ l, q.1 ≠ p.1) → l.foldl (t_putStep p) (out, true) = (out ++ l, true) := by
  induction l with
  | nil => intro out _; simp
  | cons q r ih =>
    intro out h
    rw [List.foldl_cons, show t_putStep p (out, true) q = (out ++ [q], true) from ?_, ih _ fun x hx => h x (List.mem_cons_of_mem _ hx)]
    · simp
    · simp [t_putStep, h q (by simp)]
theorem t_put_fold (p : Tn) (l : FL) (h : t_Rises l) : ∀ out : FL, t_putEnd p (l.foldl (t_putStep p) (out, false)) = out ++ t_putL l p := by
  induction l with
  | nil => intro out; simp [t_putEnd, t_putL]
  | cons q r ih =>
    intro out
    have hr := (List.pairwise_cons.1 h)
    rw [List.foldl_cons, t_putL]
    by_cases h1 : klt q.1 p.1 = true
    · rw [if_pos h1, show t_putStep p (out, false) q = (out ++ [q], false) from ?_, ih hr.2]
      · simp
      · have := klt_ne h1
        simp [t_putStep, this, h1]
    · have h1' : klt q.1 p.1 = false := by simpa using h1
      rw [if_neg h1]
      by_cases h2 : q.1 = p.1
      · have hne : ∀ x ∈ r, x.1 ≠ p.1 := fun x hx e => by have := hr.1 x hx; rw [h2, e, klt_irrefl] at this; cases this
        rw [if_pos h2, show t_putStep p (out, false) q = (out ++ [p], true) from ?_, t_put_done p r _ hne]
        · simp [t_putEnd]
        · simp [t_putStep, h2, klt_irrefl]
      · have hpq := klt_total _ _ h1' h2
        have hne : ∀ x ∈ r, x.1 ≠ p.1 := fun x hx e => by
          have := hr.1 x hx
          rw [e] at this
          rw [this] at h1'; cases h1'
        rw [if_neg h2, show t_putStep p (out, false) q = (out ++ [p] ++ [q], true) from ?_, t_put_done p r _ hne]
        · simp [t_putEnd]
        · simp only [t_putStep, h1', h2, and_self, if_true, if_false]
/-- The pairs without a key. -/
def t_delL (l : FL) (k : List UInt8) : FL := l.filter fun q => !(q.1 == k)

theorem t_mem_put (l : FL) (p x : Tn) : x ∈ t_putL l p → x = p ∨ x ∈ l := by
  induction l with
  | nil => intro h; simp [t_putL] at h; exact .inl h
  | cons q r ih =>
    intro h
    rw [t_putL] at h
    by_cases h1 : klt q.1 p.1 = true
    · rw [if_pos h1] at h
      rcases List.mem_cons.1 h with rfl | h
      · exact .inr (by simp)
      · rcases ih h with h | h
        · exact .inl h
        · exact .inr (List.mem_cons_of_mem _ h)
    · rw [if_neg h1] at h
      by_cases h2 : q.1 = p.1
      · rw [if_pos h2] at h
        rcases List.mem_cons.1 h with h | h
        · exact .inl h
        · exact .inr (List.mem_cons_of_mem _ h)
      · rw [if_neg h2] at h
        rcases List.mem_cons.1 h with h | h
        · exact .inl h
        · exact .inr h
theorem t_put_rises (l : FL) (p : Tn) (h : t_Rises l) : t_Rises (t_putL l p) := by
  induction l with
  | nil => exact List.pairwise_singleton _ _
  | cons q r ih =>
    have hr := List.pairwise_cons.1 h
    rw [t_putL]
    by_cases h1 : klt q.1 p.1 = true
    · rw [if_pos h1]
      refine List.Pairwise.cons (fun x hx => ?_) (ih hr.2)
      rcases t_mem_put r p x hx with rfl | hx
      · exact h1
      · exact hr.1 x hx
    · rw [if_neg h1]
      by_cases h2 : q.1 = p.1
      · rw [if_pos h2]
        exact List.Pairwise.cons (fun x hx => by rw [← h2]; exact hr.1 x hx) hr.2
      · rw [if_neg h2]
        have hpq := klt_total _ _ (by simpa using h1) h2
        refine List.Pairwise.cons (fun x hx => ?_) h
        rcases List.mem_cons.1 hx with rfl | hx
        · exact hpq
        · exact klt_trans _ _ _ hpq (hr.1 x hx)
theorem t_get_put (l : FL) (p : Tn) (k : List UInt8) (h : t_Rises l) : t_getF (t_putL l p) k = if p.1 = k then some p.2 else t_getF l k := by
  induction l with
  | nil => rw [t_putL, t_get_cons]
  | cons q r ih =>
    have hr := List.pairwise_cons.1 h
    rw [t_putL]
    by_cases h1 : klt q.1 p.1 = true
    · rw [if_pos h1, t_get_cons, t_get_cons, ih hr.2]
      by_cases e : p.1 = k
      · rw [if_pos e, if_pos e, if_neg (fun e2 => klt_ne h1 (e2.trans e.symm))]
      · rw [if_neg e, if_neg e]
    · rw [if_neg h1]
      by_cases h2 : q.1 = p.1
      · rw [if_pos h2, t_get_cons, t_get_cons]
        by_cases e : p.1 = k
        · rw [if_pos e, if_pos e]
        · rw [if_neg e, if_neg e, if_neg (by rw [h2]; exact e)]
      · rw [if_neg h2, t_get_cons]
theorem t_get_del (l : FL) (k x : List UInt8) : t_getF (t_delL l k) x = if k = x then none else t_getF l x := by
  induction l with
  | nil => simp [t_delL, t_getF]
  | cons q r ih =>
    unfold t_delL at ih ⊢
    by_cases e : q.1 = k
    · rw [List.filter_cons_of_neg (by simp [e]), ih, t_get_cons]
      by_cases e2 : k = x
      · rw [if_pos e2, if_pos e2]
      · rw [if_neg e2, if_neg e2, if_neg (by rw [e]; exact e2)]
    · rw [List.filter_cons_of_pos (by simp [e]), t_get_cons, ih, t_get_cons]
      by_cases e2 : k = x
      · rw [if_pos e2, if_pos e2, if_neg (by rw [← e2]; exact e)]
      · rw [if_neg e2, if_neg e2]
theorem t_del_rises (l : FL) (k : List UInt8) (h : t_Rises l) : t_Rises (t_delL l k) := List.Pairwise.filter _ h
theorem t_get_head_none (l : FL) (k : List UInt8) (h : ∀ p ∈ l, klt k p.1 = true) : t_getF l k = none :=
  t_get_none l k fun j hj e => by
    have := h l[j] (List.getElem_mem hj)
    rw [show l[j] = l.getD j ([], []) by simp [hj], e, klt_irrefl] at this
    cases this
/-- Pairs that rise are told by what is got. -/
theorem t_rises_ext : ∀ (l m : FL), t_Rises l → t_Rises m → (∀ k, t_getF l k = t_getF m k) → l = m
  | [], [], _, _, _ => rfl
  | [], q :: r, _, _, h => by have := h q.1; rw [t_get_cons, if_pos rfl] at this; cases this
  | p :: l, [], _, _, h => by have := h p.1; rw [t_get_cons, if_pos rfl] at this; cases this
  | p :: l, q :: r, hl, hr, h => by
    have h1 := List.pairwise_cons.1 hl
    have h2 := List.pairwise_cons.1 hr
    have hk : p.1 = q.1 := by
      cases e : klt p.1 q.1 with
      | true =>
        have := h p.1
        rw [t_get_cons, if_pos rfl, t_get_head_none (q :: r) p.1 fun x hx => by
          rcases List.mem_cons.1 hx with rfl | hx
          · exact e
          · exact klt_trans _ _ _ e (h2.1 x hx)] at this
        cases this
      | false =>
        by_cases e2 : p.1 = q.1
        · exact e2
        · have e3 := klt_total _ _ e e2
          have := h q.1
          rw [t_get_cons (p := q), if_pos rfl, t_get_head_none (p :: l) q.1 fun x hx => by
            rcases List.mem_cons.1 hx with rfl | hx
            · exact e3
            · exact klt_trans _ _ _ e3 (h1.1 x hx)] at this
          cases this
    have hv : p.2 = q.2 := by
      have := h p.1
      rw [t_get_cons, if_pos rfl, t_get_cons, if_pos hk.symm] at this
      exact Option.some.inj this
    have hp : p = q := Prod.ext hk hv
    subst hp
    congr 1
    refine t_rises_ext l r h1.2 h2.2 fun k => ?_
    by_cases e : p.1 = k
    · subst e
      rw [t_get_head_none l p.1 h1.1, t_get_head_none r p.1 h2.1]
    · have := h k
      rw [t_get_cons, t_get_cons, if_neg e, if_neg e] at this
      exact this
theorem t_put_some (t : FL) (p : Tn) : t_putL t p ≠ [] := by
  cases t with
  | nil => simp [t_putL]
  | cons q r =>
    rw [t_putL]
    by_cases h1 : klt q.1 p.1 = true
    · rw [if_pos h1]; simp
    · rw [if_neg h1]
      by_cases h2 : q.1 = p.1
      · rw [if_pos h2]; simp
      · rw [if_neg h2]; simp
theorem t_del_none (t : FL) (k : List UInt8) (h : t_getF t k = none) : t_delL t k = t := by
  induction t with
  | nil => rfl
  | cons q r ih =>
    rw [t_get_cons] at h
    by_cases e : q.1 = k
    · rw [if_pos e] at h; cases h
    · rw [if_neg e] at h
      have := ih h
      unfold t_delL at this ⊢
      rw [List.filter_cons_of_pos (by simp [e]), this]
theorem t_put_len_new (t : FL) (p : Tn) (h : t_getF t p.1 = none) : (t_putL t p).length = t.length + 1 := by
  induction t with
  | nil => simp [t_putL]
  | cons q r ih =>
    rw [t_get_cons] at h
    by_cases e : q.1 = p.1
    · rw [if_pos e] at h; cases h
    · rw [if_neg e] at h
      rw [t_putL]
      by_cases h1 : klt q.1 p.1 = true
      · rw [if_pos h1]; simp [ih h]
      · rw [if_neg h1, if_neg e]; simp
theorem t_del_len_old (t : FL) (k : List UInt8) (hr : t_Rises t) (h : (t_getF t k).isSome = true) : (t_delL t k).length + 1 = t.length := by
  induction t with
  | nil => simp [t_getF] at h
  | cons q r ih =>
    have hp := List.pairwise_cons.1 hr
    rw [t_get_cons] at h
    by_cases e : q.1 = k
    · have hn : t_getF r k = none := t_get_head_none r k fun p hp' => by rw [← e]; exact hp.1 p hp'
      have := t_del_none r k hn
      unfold t_delL at this ⊢
      rw [List.filter_cons_of_neg (by simp [e]), this]; simp
    · rw [if_neg e] at h
      have := ih hp.2 h
      unfold t_delL at this ⊢
      rw [List.filter_cons_of_pos (by simp [e])]
      simp; omega
theorem t_put_len (l : FL) (p : Tn) : (t_putL l p).length ≤ l.length + 1 := by
  induction l with
  | nil => simp [t_putL]
  | cons q r ih =>
    rw [t_putL]
    by_cases h1 : klt q.1 p.1 = true
    · rw [if_pos h1]; simp; omega
    · rw [if_neg h1]
      by_cases h2 : q.1 = p.1
      · rw [if_pos h2]; simp
      · rw [if_neg h2]; simp

theorem t_del_len (l : FL) (k : List UInt8) : (t_delL l k).length ≤ l.length := List.length_filter_le _ _
/-- What is wrong with a name. -/
def nameFaultF (n : Nat) : Int := if 1 ≤ n ∧ n ≤ 8 then 0 else 1
theorem nameFault_iff (n : Nat) : nameFaultF n = 0 ↔ 1 ≤ n ∧ n ≤ 8 := by
  unfold nameFaultF
  by_cases h : 1 ≤ n ∧ n ≤ 8
  · rw [if_pos h]; exact ⟨fun _ => h, fun _ => rfl⟩
  · rw [if_neg h]
    constructor
    · intro h2; cases h2
    · intro h2; exact absurd h2 h
/-- What is wrong with a tenant alone. -/
def tenFaultF (t : Tn) : Int := if nameFaultF t.1.length = 0 then (if t.2.length = 0 then 4 else pairsFaultF t.2) else nameFaultF t.1.length
theorem tenFault_iff (t : Tn) : tenFaultF t = 0 ↔ (1 ≤ t.1.length ∧ t.1.length ≤ 8) ∧ t.2 ≠ [] ∧ Tree t.2 := by
  unfold tenFaultF
  by_cases h : nameFaultF t.1.length = 0
  · rw [if_pos h]
    by_cases h2 : t.2.length = 0
    · rw [if_pos h2]
      constructor
      · intro h3; cases h3
      · intro h3; exact absurd (List.eq_nil_of_length_eq_zero h2) h3.2.1
    · rw [if_neg h2, tree_iff]
      exact ⟨fun h3 => ⟨(nameFault_iff _).1 h, fun e => h2 (by rw [e]; rfl), h3⟩, fun h3 => h3.2.2⟩
  · rw [if_neg h]
    constructor
    · intro h2; exact absurd h2 h
    · intro h2; exact absurd ((nameFault_iff _).2 h2.1) h
/-- What is wrong with the tenant at a place, and with its order. -/
def tenAt (l : FL) (i : Nat) : Int :=
  if tenFaultF (l.getD i ([], [])) = 0 then (if 0 < i ∧ klt (l.getD (i - 1) ([], [])).1 (l.getD i ([], [])).1 = false then 3 else 0) else tenFaultF (l.getD i ([], []))
def tenFrom (l : FL) : Nat → Nat → Int
  | 0, _ => 0
  | n + 1, i => if tenAt l i = 0 then tenFrom l n (i + 1) else tenAt l i
/-- What is wrong with tenants. -/
def forestE (l : FL) : Int := if 8 < l.length then 1 else tenFrom l l.length 0
theorem tenFrom_split (l : FL) (n i : Nat) (hi : i ≤ n) (h : ∀ j, j < i → tenAt l j = 0) : tenFrom l n 0 = tenFrom l (n - i) i := by
  induction i with
  | zero => rfl
  | succ i ih =>
    rw [ih (by omega) (fun j hj => h j (by omega)), show n - i = (n - (i + 1)) + 1 by omega, tenFrom, if_pos (h i (by omega))]
theorem forestE_at (l : FL) (i : Nat) (hi : i < l.length) (hl : l.length ≤ 8) (h : ∀ j, j < i → tenAt l j = 0) (hf : tenAt l i ≠ 0) : forestE l = tenAt l i := by
  rw [forestE, if_neg (by omega), tenFrom_split l _ i (by omega) h, show l.length - i = (l.length - (i + 1)) + 1 by omega, tenFrom, if_neg hf]
theorem forestE_none (l : FL) (hl : l.length ≤ 8) (h : ∀ j, j < l.length → tenAt l j = 0) : forestE l = 0 := by
  rw [forestE, if_neg (by omega), tenFrom_split l _ l.length (Nat.le_refl _) h, Nat.sub_self, tenFrom]
theorem forestE_long (l : FL) (hl : 8 < l.length) : forestE l = 1 := by rw [forestE, if_pos hl]
theorem tenFrom_zero (l : FL) : ∀ (n i : Nat), tenFrom l n i = 0 → ∀ j, i ≤ j → j < i + n → tenAt l j = 0
  | 0, i, _, j, h1, h2 => by omega
  | n + 1, i, h, j, h1, h2 => by
    rw [tenFrom] at h
    by_cases e : tenAt l i = 0
    · rw [if_pos e] at h
      by_cases hj : j = i
      · subst hj; exact e
      · exact tenFrom_zero l n (i + 1) h j (by omega) (by omega)
    · rw [if_neg e] at h; exact absurd h e
theorem tenAt_iff (l : FL) (i : Nat) : tenAt l i = 0 ↔ tenFaultF (l.getD i ([], [])) = 0 ∧ (0 < i → klt (l.getD (i - 1) ([], [])).1 (l.getD i ([], [])).1 = true) := by
  unfold tenAt
  by_cases h : tenFaultF (l.getD i ([], [])) = 0
  · rw [if_pos h]
    by_cases h2 : 0 < i ∧ klt (l.getD (i - 1) ([], [])).1 (l.getD i ([], [])).1 = false
    · rw [if_pos h2]; constructor
      · intro h; cases h
      · intro h3; have := h3.2 h2.1; rw [h2.2] at this; cases this
    · rw [if_neg h2]
      refine ⟨fun _ => ⟨h, fun hi => ?_⟩, fun _ => rfl⟩
      cases hk : klt (l.getD (i - 1) ([], [])).1 (l.getD i ([], [])).1 with
      | true => rfl
      | false => exact absurd ⟨hi, hk⟩ h2
  · rw [if_neg h]; constructor
    · intro h2; exact absurd h2 h
    · intro h2; exact absurd h2.1 h
theorem t_rises_of_steps : ∀ l : FL, (∀ i, 0 < i → i < l.length → klt (l.getD (i - 1) ([], [])).1 (l.getD i ([], [])).1 = true) → t_Rises l
  | [], _ => List.Pairwise.nil
  | [_], _ => List.pairwise_singleton _ _
  | p :: q :: r, h => by
    have ih : t_Rises (q :: r) := t_rises_of_steps (q :: r) fun i h0 hi => by
      have := h (i + 1) (by omega) (by simp at hi ⊢; omega)
      rw [show i + 1 - 1 = (i - 1) + 1 by omega] at this
      simpa using this
    have h01 : klt p.1 q.1 = true := by
      have := h 1 (by omega) (by simp)
      simpa using this
    refine List.Pairwise.cons (fun x hx => ?_) ih
    rcases List.mem_cons.1 hx with rfl | hx
    · exact h01
    · exact klt_trans _ _ _ h01 ((List.pairwise_cons.1 ih).1 x hx)
theorem t_rises_step (l : FL) (h : t_Rises l) (i j : Nat) (hij : i < j) (hj : j < l.length) : klt (l.getD i ([], [])).1 (l.getD j ([], [])).1 = true := by
  have := List.pairwise_iff_getElem.1 h i j (by omega) hj hij
  simpa [hj, show i < l.length by omega] using this
/-- A forest. -/
structure Forest (l : FL) : Prop where
  room : l.length ≤ 8
  tens : ∀ t ∈ l, (1 ≤ t.1.length ∧ t.1.length ≤ 8) ∧ t.2 ≠ [] ∧ Tree t.2
  rises : t_Rises l
theorem forest_iff (l : FL) : forestE l = 0 ↔ Forest l := by
  constructor
  · intro h
    have hl : l.length ≤ 8 := by
      by_cases hl : 8 < l.length
      · rw [forestE_long l hl] at h; cases h
      · omega
    rw [forestE, if_neg (by omega)] at h
    have ha := fun j (hj : j < l.length) => (tenAt_iff l j).1 (tenFrom_zero l l.length 0 h j (by omega) (by omega))
    refine ⟨hl, fun p hp => ?_, t_rises_of_steps l fun i h0 hi => (ha i hi).2 h0⟩
    obtain ⟨i, hi, rfl⟩ := List.mem_iff_getElem.1 hp
    have := (tenFault_iff _).1 (ha i hi).1
    simpa [hi] using this
  · intro h
    refine forestE_none l h.room fun j hj => (tenAt_iff l j).2 ⟨(tenFault_iff _).2 ?_, fun h0 => t_rises_step l h.rises _ _ (by omega) hj⟩
    have := h.tens l[j] (List.getElem_mem hj)
    simpa [hj] using this
theorem forest_nil : Forest [] := ⟨by simp, by simp, List.Pairwise.nil⟩
/-- What a name has. -/
def ofF (l : FL) (n : List UInt8) : PL := (t_getF l n).getD []
theorem of_nil (n : List UInt8) : ofF [] n = [] := rfl
theorem of_tree {l : FL} (h : Forest l) (n : List UInt8) : Tree (ofF l n) := by
  unfold ofF t_getF
  cases hf : l.find? (fun p => p.1 == n) with
  | none => exact tree_nil
  | some t => exact (h.tens t (List.mem_of_find?_eq_some hf)).2.2
theorem of_at {l : FL} (h : Forest l) (i : Nat) (hi : i < l.length) : ofF l (l.getD i ([], [])).1 = (l.getD i ([], [])).2 := by
  unfold ofF
  rw [t_get_at l _ i hi (fun j hj e => ?_) rfl]
  · rfl
  · have := t_rises_step l h.rises j i hj hi
    rw [e, klt_irrefl] at this; cases this
/-- Forests are told by what names have. -/
theorem forest_ext {l m : FL} (hl : Forest l) (hm : Forest m) (h : ∀ n, ofF l n = ofF m n) : l = m := by
  have hs : ∀ {l : FL}, Forest l → ∀ n, t_getF l n = if ofF l n = [] then none else some (ofF l n) := by
    intro l hl n
    unfold ofF
    cases hf : l.find? (fun p => p.1 == n) with
    | none =>
      have : t_getF l n = none := by unfold t_getF; rw [hf]; rfl
      rw [this]; rfl
    | some t =>
      have hg : t_getF l n = some t.2 := by unfold t_getF; rw [hf]; rfl
      have hne := (hl.tens t (List.mem_of_find?_eq_some hf)).2.1
      rw [hg, if_neg (by simpa using hne)]; rfl
  refine t_rises_ext l m hl.rises hm.rises fun n => ?_
  rw [hs hl, hs hm, h n]
/-- What is wrong with a write alone. -/
def writeE (w : Plc) : Int :=
  if nameFaultF w.name.length = 0 then (if w.gone = true then (if keyFaultF w.key.length = 0 then (if 0 < w.value.length then 4 else 0) else keyFaultF w.key.length) else pairFaultF (w.key, w.value)) else nameFaultF w.name.length
/-- What the tenant has behind a write. -/
def nextL (l : FL) (w : Plc) : PL := if w.gone = true then delL (ofF l w.name) w.key else putL (ofF l w.name) (w.key, w.value)
def nextE (l : FL) (w : Plc) : Int := if w.gone = true then getE (ofF l w.name) w.key else putE (ofF l w.name) (w.key, w.value)
/-- The tenants behind a write. -/
def writtenL (l : FL) (w : Plc) : FL := if (nextL l w).length = 0 then t_delL l w.name else t_putL l (w.name, nextL l w)
def writtenE (l : FL) (w : Plc) : Int := if nextE l w = 0 then (if 8 < (writtenL l w).length then 11 else 0) else nextE l w
/-- The tenants behind writes, one behind the other: an error, or tenants. -/
def applyE : FL → List Plc → Int
  | _, [] => 0
  | l, w :: ws => if writeE w = 0 then (if writtenE l w = 0 then applyE (writtenL l w) ws else writtenE l w) else writeE w
def applyL : FL → List Plc → FL
  | l, [] => l
  | l, w :: ws => applyL (writtenL l w) ws
def appliedE (l : FL) (ws : List Plc) : Int := if forestE l = 0 then (if 10 < ws.length then 1 else applyE l ws) else forestE l
def appliedF (l : FL) (ws : List Plc) : FL := if appliedE l ws = 0 then applyL l ws else []
theorem writeE_iff (w : Plc) : writeE w = 0 ↔ (1 ≤ w.name.length ∧ w.name.length ≤ 8) ∧ (1 ≤ w.key.length ∧ w.key.length ≤ 16) ∧ (if w.gone = true then w.value = [] else w.value.length ≤ 32) := by
  unfold writeE
  by_cases hn : nameFaultF w.name.length = 0
  · rw [if_pos hn]
    have hn' := (nameFault_iff _).1 hn
    by_cases hg : w.gone = true
    · rw [if_pos hg, if_pos hg]
      by_cases hk : keyFaultF w.key.length = 0
      · rw [if_pos hk]
        have hk' := (keyFault_iff _).1 hk
        by_cases hv : 0 < w.value.length
        · rw [if_pos hv]
          constructor
          · intro h; cases h
          · intro h; rw [h.2.2] at hv; simp at hv
        · rw [if_neg hv]
          exact ⟨fun _ => ⟨hn', hk', List.eq_nil_of_length_eq_zero (by omega)⟩, fun _ => rfl⟩
      · rw [if_neg hk]
        constructor
        · intro h; exact absurd h hk
        · intro h; exact absurd ((keyFault_iff _).2 h.2.1) hk
    · rw [if_neg hg, if_neg hg, pairFault_iff]
      exact ⟨fun h => ⟨hn', h.1, h.2⟩, fun h => ⟨h.2.1, h.2.2⟩⟩
  · rw [if_neg hn]
    constructor
    · intro h; exact absurd h hn
    · intro h; exact absurd ((nameFault_iff _).2 h.1) hn
/-- A write that may be. -/
theorem next_tree {l : FL} (h : Forest l) {w : Plc} (hw : writeE w = 0) (he : nextE l w = 0) : Tree (nextL l w) := by
  obtain ⟨_, hk, hv⟩ := (writeE_iff w).1 hw
  have hT := of_tree h w.name
  unfold nextL
  unfold nextE at he
  by_cases hg : w.gone = true
  · rw [if_pos hg]
    exact ⟨Nat.le_trans (del_len _ _) hT.room, fun p hp => hT.pairs p (List.mem_filter.1 hp).1, del_rises _ _ hT.rises⟩
  · rw [if_neg hg] at he hv ⊢
    have h60 : ¬ 60 < (putL (ofF l w.name) (w.key, w.value)).length := by
      intro h60
      unfold putE at he
      by_cases h0 : putE0 (ofF l w.name) (w.key, w.value) = 0
      · rw [if_pos h0, if_pos h60] at he; cases he
      · rw [if_neg h0] at he; exact h0 he
    refine ⟨by omega, fun q hq => ?_, put_rises _ _ hT.rises⟩
    rcases mem_put _ _ q hq with rfl | hq
    · exact ⟨hk, hv⟩
    · exact hT.pairs q hq
theorem written_rises {l : FL} (h : t_Rises l) (w : Plc) : t_Rises (writtenL l w) := by
  unfold writtenL
  by_cases hn : (nextL l w).length = 0
  · rw [if_pos hn]; exact t_del_rises _ _ h
  · rw [if_neg hn]; exact t_put_rises _ _ h
/-- What a name has behind a write. -/
theorem written_of {l : FL} (h : t_Rises l) (w : Plc) (n : List UInt8) : ofF (writtenL l w) n = if w.name = n then nextL l w else ofF l n := by
  unfold writtenL
  by_cases hn : (nextL l w).length = 0
  · rw [if_pos hn]
    have hn' : nextL l w = [] := List.eq_nil_of_length_eq_zero hn
    rw [hn']
    unfold ofF
    rw [t_get_del]
    by_cases e : w.name = n
    · rw [if_pos e, if_pos e]; rfl
    · rw [if_neg e, if_neg e]
  · rw [if_neg hn]
    unfold ofF
    rw [t_get_put _ _ _ h]
    by_cases e : w.name = n
    · rw [if_pos e, if_pos e]; rfl
    · rw [if_neg e, if_neg e]
theorem written_forest {l : FL} (h : Forest l) {w : Plc} (hw : writeE w = 0) (he : writtenE l w = 0) : Forest (writtenL l w) := by
  have hE : nextE l w = 0 := by
    by_cases h0 : nextE l w = 0
    · exact h0
    · unfold writtenE at he; rw [if_neg h0] at he; exact absurd he h0
  have hl : (writtenL l w).length ≤ 8 := by
    unfold writtenE at he
    rw [if_pos hE] at he
    by_cases h8 : 8 < (writtenL l w).length
    · rw [if_pos h8] at he; cases he
    · omega
  obtain ⟨hn, _, _⟩ := (writeE_iff w).1 hw
  refine ⟨hl, fun t ht => ?_, written_rises h.rises w⟩
  unfold writtenL at ht
  by_cases h0 : (nextL l w).length = 0
  · rw [if_pos h0] at ht
    exact h.tens t (List.mem_filter.1 ht).1
  · rw [if_neg h0] at ht
    rcases t_mem_put _ _ t ht with rfl | ht
    · exact ⟨hn, fun e => h0 (by rw [show nextL l w = [] from e]; rfl), next_tree h hw hE⟩
    · exact h.tens t ht
end Go.Proofs.Ytpmfbfflacbmjac

/-
  Commits and tapes, with no program: what P6 asks of bytes.
-/
namespace Go.Proofs.Ytpmfbfflacbmjac
open Go.RowKit
/-- A commit: its turn, its writes. -/
structure Cmt where
  turn : Int
  writes : List Plc
def noCmt : Cmt := ⟨0, []⟩
/-- What P6.2 refuses of writes, from the i-th on. -/
def wfE : Nat → List Plc → Int
  | _, [] => 0
  | i, w :: ws => if (if 10 ≤ i then (1 : Int) else writeE w) = 0 then wfE (i + 1) ws else (if 10 ≤ i then (1 : Int) else writeE w)
def commitE (c : Cmt) : Int := if 1 ≤ c.turn ∧ c.turn ≤ 1048576 then (if c.writes.length = 0 then 1 else wfE 0 c.writes) else 2
theorem wfE_iff : ∀ (ws : List Plc) (i : Nat), wfE i ws = 0 ↔ (ws = [] ∨ i + ws.length ≤ 10) ∧ ∀ w ∈ ws, writeE w = 0
  | [], i => by simp [wfE]
  | w :: ws, i => by
    have ih := wfE_iff ws (i + 1)
    rw [wfE]
    by_cases h10 : 10 ≤ i
    · rw [if_pos h10, if_neg (by omega)]
      constructor
      · intro h; omega
      · rintro ⟨h | h, _⟩
        · cases h
        · simp at h; omega
    · rw [if_neg h10]
      by_cases hw : writeE w = 0
      · rw [if_pos hw, ih]
        constructor
        · rintro ⟨h1, h2⟩
          refine ⟨.inr ?_, ?_⟩
          · rcases h1 with rfl | h1
            · simp; omega
            · simp; omega
          · intro x hx
            rcases List.mem_cons.1 hx with rfl | hx
            · exact hw
            · exact h2 x hx
        · rintro ⟨h1, h2⟩
          refine ⟨.inr ?_, fun x hx => h2 x (List.mem_cons_of_mem _ hx)⟩
          rcases h1 with h1 | h1
          · cases h1
          · simp at h1; omega
      · rw [if_neg hw]
        constructor
        · intro h; exact absurd h hw
        · rintro ⟨_, h2⟩; exact absurd (h2 w (List.mem_cons_self ..)) hw
theorem commit_iff (c : Cmt) : commitE c = 0 ↔ (1 ≤ c.turn ∧ c.turn ≤ 1048576) ∧ (1 ≤ c.writes.length ∧ c.writes.length ≤ 10) ∧ ∀ w ∈ c.writes, writeE w = 0 := by
  unfold commitE
  by_cases h1 : 1 ≤ c.turn ∧ c.turn ≤ 1048576
  · rw [if_pos h1]
    by_cases h2 : c.writes.length = 0
    · rw [if_pos h2]
      constructor
      · intro h; omega
      · rintro ⟨_, h, _⟩; omega
    · rw [if_neg h2, wfE_iff]
      constructor
      · rintro ⟨h3 | h3, h4⟩
        · rw [h3] at h2; simp at h2
        · exact ⟨h1, ⟨by omega, by omega⟩, h4⟩
      · rintro ⟨_, h3, h4⟩; exact ⟨.inr (by omega), h4⟩
  · rw [if_neg h1]
    constructor
    · intro h; omega
    · rintro ⟨h, _⟩; exact absurd h h1
/-- The walk's step: what is refused of the writes from the i-th on. -/
theorem wfE_drop (ws : List Plc) (i : Nat) (h : i < ws.length) : wfE i (ws.drop i) = if (if 10 ≤ i then (1 : Int) else writeE (ws.getD i noPlc)) = 0 then wfE (i + 1) (ws.drop (i + 1)) else (if 10 ≤ i then (1 : Int) else writeE (ws.getD i noPlc)) := by
  rw [List.drop_eq_getElem_cons h, wfE, show ws[i] = ws.getD i noPlc by simp [h]]
theorem wfE_end (ws : List Plc) : wfE ws.length (ws.drop ws.length) = 0 := by rw [List.drop_length, wfE]
/-- Bytes behind their length. -/
def lenAnd (p : List UInt8) : List UInt8 := UInt8.ofNat p.length :: p
theorem lenAnd_len (p : List UInt8) : (lenAnd p).length = p.length + 1 := rfl
def valueB (w : Plc) : List UInt8 := if w.gone = true then [255] else lenAnd w.value
def writeB (w : Plc) : List UInt8 := lenAnd w.name ++ lenAnd w.key ++ valueB w
def headB (t n : Nat) : List UInt8 := [UInt8.ofNat (t / 65536), UInt8.ofNat (t / 256 % 256), UInt8.ofNat (t % 256), UInt8.ofNat n]
def commitB (c : Cmt) : List UInt8 := headB c.turn.toNat c.writes.length ++ c.writes.flatMap writeB
/-- A piece behind its length, and what is behind it. -/
def pieceL : List UInt8 → Option (List UInt8 × List UInt8)
  | [] => none
  | x :: r => if x.toNat ≤ r.length then some (r.take x.toNat, r.drop x.toNat) else none
def lastD (n k r : List UInt8) : Option (Plc × List UInt8) := if r.head? = some 255 then some (⟨n, k, [], true⟩, r.tail) else match pieceL r with | some (v, r2) => some (⟨n, k, v, false⟩, r2) | none => none
def keyD (n r : List UInt8) : Option (Plc × List UInt8) := match pieceL r with | some (k, r2) => lastD n k r2 | none => none
def writeD (r : List UInt8) : Option (Plc × List UInt8) := match pieceL r with | some (n, r2) => keyD n r2 | none => none
def writesD : Nat → List UInt8 → Option (List Plc × List UInt8)
  | 0, r => some ([], r)
  | n + 1, r => match writeD r with | some (w, r1) => (match writesD n r1 with | some (ws, r2) => some (w :: ws, r2) | none => none) | none => none
theorem byte_len {p : List UInt8} (h : p.length < 256) : (UInt8.ofNat p.length).toNat = p.length := by simp; omega
theorem piece_lenAnd (p r : List UInt8) (h : p.length < 256) : pieceL (lenAnd p ++ r) = some (p, r) := by
  show pieceL (UInt8.ofNat p.length :: (p ++ r)) = _
  rw [pieceL, byte_len h, if_pos (by simp), List.take_left', List.drop_left'] <;> rfl
theorem piece_fixed {r p r2 : List UInt8} (h : pieceL r = some (p, r2)) : r = lenAnd p ++ r2 := by
  cases r with
  | nil => cases h
  | cons x r =>
    rw [pieceL] at h
    by_cases hx : x.toNat ≤ r.length
    · rw [if_pos hx] at h
      simp only [Option.some.injEq, Prod.mk.injEq] at h
      obtain ⟨rfl, rfl⟩ := h
      have hl : (r.take x.toNat).length = x.toNat := by simp; omega
      show x :: r = UInt8.ofNat (r.take x.toNat).length :: (r.take x.toNat ++ r.drop x.toNat)
      rw [hl, List.take_append_drop]
      simp
    · rw [if_neg hx] at h; cases h
theorem piece_more {r p r2 : List UInt8} (h : pieceL r = some (p, r2)) (x : List UInt8) : pieceL (r ++ x) = some (p, r2 ++ x) := by
  cases r with
  | nil => cases h
  | cons y r =>
    rw [pieceL] at h
    by_cases hy : y.toNat ≤ r.length
    · rw [if_pos hy] at h
      simp only [Option.some.injEq, Prod.mk.injEq] at h
      obtain ⟨rfl, rfl⟩ := h
      show pieceL (y :: (r ++ x)) = _
      rw [pieceL, if_pos (by simp; omega), List.take_append_of_le_length hy, List.drop_append_of_le_length hy]
    · rw [if_neg hy] at h; cases h
theorem write_back {w : Plc} (hw : writeE w = 0) (r : List UInt8) : writeD (writeB w ++ r) = some (w, r) := by
  obtain ⟨h1, h2, h3⟩ := (writeE_iff w).1 hw
  unfold writeD writeB
  rw [List.append_assoc, List.append_assoc, piece_lenAnd _ _ (by omega)]
  show keyD w.name (lenAnd w.key ++ (valueB w ++ r)) = _
  unfold keyD
  rw [piece_lenAnd _ _ (by omega)]
  show lastD w.name w.key (valueB w ++ r) = _
  unfold lastD valueB
  by_cases hg : w.gone = true
  · rw [if_pos hg] at h3 ⊢
    rw [if_pos (by rfl)]
    obtain ⟨n, k, v, g⟩ := w
    simp only at hg h3
    subst hg h3
    rfl
  · rw [if_neg hg] at h3 ⊢
    rw [if_neg, piece_lenAnd _ _ (by omega)]
    · obtain ⟨n, k, v, g⟩ := w
      simp only [Bool.not_eq_true] at hg
      subst hg
      rfl
    · show ¬ (some (UInt8.ofNat w.value.length) = some 255)
      intro e
      have := congrArg UInt8.toNat (Option.some.inj e)
      rw [byte_len (by omega)] at this
      have h255 : (255 : UInt8).toNat = 255 := rfl
      omega
theorem writes_back : ∀ (ws : List Plc) (_ : ∀ w ∈ ws, writeE w = 0) (r : List UInt8), writesD ws.length (ws.flatMap writeB ++ r) = some (ws, r)
  | [], _, r => rfl
  | w :: ws, h, r => by
    show writesD (ws.length + 1) ((w :: ws).flatMap writeB ++ r) = _
    rw [writesD, List.flatMap_cons, List.append_assoc, write_back (h w (List.mem_cons_self ..))]
    show (match writesD ws.length (ws.flatMap writeB ++ r) with | some (ws', r2) => some (w :: ws', r2) | none => none) = _
    rw [writes_back ws (fun x hx => h x (List.mem_cons_of_mem _ hx)) r]
theorem write_fixed {r r2 : List UInt8} {w : Plc} (h : writeD r = some (w, r2)) : r = writeB w ++ r2 := by
  unfold writeD at h
  cases h1 : pieceL r with
  | none => rw [h1] at h; cases h
  | some q =>
    obtain ⟨n, ra⟩ := q
    rw [h1] at h
    have h : keyD n ra = some (w, r2) := h
    unfold keyD at h
    cases h2 : pieceL ra with
    | none => rw [h2] at h; cases h
    | some q =>
      obtain ⟨k, rb⟩ := q
      rw [h2] at h
      have h : lastD n k rb = some (w, r2) := h
      rw [piece_fixed h1, piece_fixed h2]
      unfold lastD at h
      by_cases hg : rb.head? = some 255
      · rw [if_pos hg] at h
        simp only [Option.some.injEq, Prod.mk.injEq] at h
        obtain ⟨rfl, rfl⟩ := h
        cases rb with
        | nil => cases hg
        | cons x rb =>
          obtain rfl : x = 255 := Option.some.inj hg
          show lenAnd n ++ (lenAnd k ++ 255 :: rb) = lenAnd n ++ lenAnd k ++ [255] ++ rb
          simp [List.append_assoc]
      · rw [if_neg hg] at h
        cases h3 : pieceL rb with
        | none => rw [h3] at h; cases h
        | some q =>
          obtain ⟨v, rc⟩ := q
          rw [h3] at h
          simp only [Option.some.injEq, Prod.mk.injEq] at h
          obtain ⟨rfl, rfl⟩ := h
          rw [piece_fixed h3]
          show lenAnd n ++ (lenAnd k ++ (lenAnd v ++ rc)) = lenAnd n ++ lenAnd k ++ lenAnd v ++ rc
          simp [List.append_assoc]
theorem write_more {r r2 : List UInt8} {w : Plc} (h : writeD r = some (w, r2)) (x : List UInt8) : writeD (r ++ x) = some (w, r2 ++ x) := by
  unfold writeD at h ⊢
  cases h1 : pieceL r with
  | none => rw [h1] at h; cases h
  | some q =>
    obtain ⟨n, ra⟩ := q
    rw [h1] at h
    rw [piece_more h1]
    have h : keyD n ra = some (w, r2) := h
    show keyD n (ra ++ x) = _
    unfold keyD at h ⊢
    cases h2 : pieceL ra with
    | none => rw [h2] at h; cases h
    | some q =>
      obtain ⟨k, rb⟩ := q
      rw [h2] at h
      rw [piece_more h2]
      have h : lastD n k rb = some (w, r2) := h
      show lastD n k (rb ++ x) = _
      unfold lastD at h ⊢
      cases rb with
      | nil => cases h
      | cons y rb =>
        show (if some y = some 255 then some ((⟨n, k, [], true⟩ : Plc), rb ++ x) else match pieceL (y :: rb ++ x) with | some (v, r2) => some (⟨n, k, v, false⟩, r2) | none => none) = _
        have h : (if some y = some 255 then some ((⟨n, k, [], true⟩ : Plc), rb) else match pieceL (y :: rb) with | some (v, r2) => some (⟨n, k, v, false⟩, r2) | none => none) = some (w, r2) := h
        by_cases hg : some y = some 255
        · rw [if_pos hg] at h ⊢
          simp only [Option.some.injEq, Prod.mk.injEq] at h
          obtain ⟨rfl, rfl⟩ := h
          rfl
        · rw [if_neg hg] at h ⊢
          cases h3 : pieceL (y :: rb) with
          | none => rw [h3] at h; cases h
          | some q =>
            obtain ⟨v, rc⟩ := q
            rw [h3] at h
            rw [piece_more h3]
            simp only [Option.some.injEq, Prod.mk.injEq] at h
            obtain ⟨rfl, rfl⟩ := h
            rfl
theorem writes_fixed : ∀ (n : Nat) {r r2 : List UInt8} {ws : List Plc}, writesD n r = some (ws, r2) → r = ws.flatMap writeB ++ r2 ∧ ws.length = n
  | 0, r, r2, ws, h => by
    rw [writesD] at h
    simp only [Option.some.injEq, Prod.mk.injEq] at h
    obtain ⟨rfl, rfl⟩ := h
    exact ⟨rfl, rfl⟩
  | n + 1, r, r2, ws, h => by
    rw [writesD] at h
    cases h1 : writeD r with
    | none => rw [h1] at h; cases h
    | some q =>
      obtain ⟨w, ra⟩ := q
      rw [h1] at h
      have h : (match writesD n ra with | some (ws, r2) => some (w :: ws, r2) | none => none) = some (ws, r2) := h
      cases h2 : writesD n ra with
      | none => rw [h2] at h; cases h
      | some q =>
        obtain ⟨ws', rb⟩ := q
        rw [h2] at h
        simp only [Option.some.injEq, Prod.mk.injEq] at h
        obtain ⟨rfl, rfl⟩ := h
        obtain ⟨e1, e2⟩ := writes_fixed n h2
        exact ⟨by rw [write_fixed h1, e1, List.flatMap_cons, List.append_assoc], by simp [e2]⟩
theorem writes_more : ∀ (n : Nat) {r r2 : List UInt8} {ws : List Plc}, writesD n r = some (ws, r2) → ∀ x, writesD n (r ++ x) = some (ws, r2 ++ x)
  | 0, r, r2, ws, h, x => by
    rw [writesD] at h ⊢
    simp only [Option.some.injEq, Prod.mk.injEq] at h
    obtain ⟨rfl, rfl⟩ := h
    rfl
  | n + 1, r, r2, ws, h, x => by
    rw [writesD] at h ⊢
    cases h1 : writeD r with
    | none => rw [h1] at h; cases h
    | some q =>
      obtain ⟨w, ra⟩ := q
      rw [h1] at h
      rw [write_more h1]
      have h : (match writesD n ra with | some (ws, r2) => some (w :: ws, r2) | none => none) = some (ws, r2) := h
      show (match writesD n (ra ++ x) with | some (ws, r2) => some (w :: ws, r2) | none => none) = _
      cases h2 : writesD n ra with
      | none => rw [h2] at h; cases h
      | some q =>
        obtain ⟨ws', rb⟩ := q
        rw [h2] at h
        rw [writes_more n h2]
        simp only [Option.some.injEq, Prod.mk.injEq] at h
        obtain ⟨rfl, rfl⟩ := h
        rfl
/-- One write more, behind the others: as the loop does it. -/
theorem writes_snoc : ∀ (n : Nat) (r : List UInt8), writesD (n + 1) r = match writesD n r with | some (ws, r1) => (match writeD r1 with | some (w, r2) => some (ws ++ [w], r2) | none => none) | none => none
  | 0, r => by
    rw [writesD]
    cases h : writeD r with
    | none => simp [writesD, h]
    | some q => obtain ⟨w, ra⟩ := q; simp [writesD, h]
  | n + 1, r => by
    rw [writesD]
    cases h : writeD r with
    | none =>
      show none = _
      rw [writesD, h]
    | some q =>
      obtain ⟨w, ra⟩ := q
      show (match writesD (n + 1) ra with | some (ws, r2) => some (w :: ws, r2) | none => none) = _
      rw [writes_snoc n ra, show writesD (n + 1) r = (match writesD n ra with | some (ws, r2) => some (w :: ws, r2) | none => none) by rw [writesD, h]]
      cases h2 : writesD n ra with
      | none => rfl
      | some q =>
        obtain ⟨ws, rb⟩ := q
        show (match (match writeD rb with | some (w, r2) => some (ws ++ [w], r2) | none => none) with | some (ws, r2) => some (w :: ws, r2) | none => none) = (match writeD rb with | some (w', r2) => some (w :: ws ++ [w'], r2) | none => none)
        cases writeD rb with
        | none => rfl
        | some q => rfl
/-- The turn that the first three bytes tell. -/
def turnD (b : List UInt8) : Nat := 65536 * (b.getD 0 0).toNat + 256 * (b.getD 1 0).toNat + (b.getD 2 0).toNat
def bodyD (b : List UInt8) : Option (List Plc × List UInt8) := writesD (b.getD 3 0).toNat (b.drop 4)
def decE (b : List UInt8) : Int := if 4000 < b.length then 1 else if b.length < 4 then 14 else match bodyD b with | none => 14 | some (ws, r) => if r.length = 0 then commitE ⟨(turnD b : Int), ws⟩ else 4
def decC (b : List UInt8) : Cmt := if decE b = 0 then (match bodyD b with | some (ws, _) => ⟨(turnD b : Int), ws⟩ | none => noCmt) else noCmt
theorem headB_len (t n : Nat) : (headB t n).length = 4 := rfl
theorem head_turn (t n : Nat) (x : List UInt8) (ht : t ≤ 1048576) : turnD (headB t n ++ x) = t := by
  show 65536 * (UInt8.ofNat (t / 65536)).toNat + 256 * (UInt8.ofNat (t / 256 % 256)).toNat + (UInt8.ofNat (t % 256)).toNat = t
  simp only [UInt8.toNat_ofNat']
  omega
theorem head_many (t n : Nat) (x : List UInt8) (hn : n ≤ 10) : ((headB t n ++ x).getD 3 0).toNat = n := by
  show (UInt8.ofNat n).toNat = n
  simp; omega
theorem head_drop (t n : Nat) (x : List UInt8) : (headB t n ++ x).drop 4 = x := rfl
theorem write_size {w : Plc} (hw : writeE w = 0) : (writeB w).length = 3 + w.name.length + w.key.length + w.value.length ∧ (writeB w).length ≤ 59 := by
  obtain ⟨h1, h2, h3⟩ := (writeE_iff w).1 hw
  unfold writeB valueB
  by_cases hg : w.gone = true
  · rw [if_pos hg] at h3 ⊢
    rw [h3]
    simp only [List.length_append, lenAnd_len, List.length_cons, List.length_nil]
    omega
  · rw [if_neg hg] at h3 ⊢
    simp only [List.length_append, lenAnd_len]
    omega
/-- How long the writes' bytes are. -/
def sizeW (ws : List Plc) : Nat := (ws.map fun w => 3 + w.name.length + w.key.length + w.value.length).sum
theorem writes_size : ∀ (ws : List Plc) (_ : ∀ w ∈ ws, writeE w = 0), (ws.flatMap writeB).length = sizeW ws ∧ (ws.flatMap writeB).length ≤ 59 * ws.length
  | [], _ => by simp [sizeW]
  | w :: ws, h => by
    obtain ⟨i1, i2⟩ := writes_size ws (fun x hx => h x (List.mem_cons_of_mem _ hx))
    obtain ⟨j1, j2⟩ := write_size (h w (List.mem_cons_self ..))
    rw [List.flatMap_cons, List.length_append]
    unfold sizeW at i1 ⊢
    rw [List.map_cons, List.sum_cons, List.length_cons]
    omega
theorem commit_size {c : Cmt} (h : commitE c = 0) : (commitB c).length = 4 + sizeW c.writes ∧ (commitB c).length ≤ 594 := by
  obtain ⟨_, h2, h3⟩ := (commit_iff c).1 h
  obtain ⟨i1, i2⟩ := writes_size c.writes h3
  unfold commitB
  rw [List.length_append, headB_len]
  omega
theorem commit_body {c : Cmt} (h : commitE c = 0) (x : List UInt8) : bodyD (commitB c ++ x) = some (c.writes, x) ∧ turnD (commitB c ++ x) = c.turn.toNat := by
  obtain ⟨h1, h2, h3⟩ := (commit_iff c).1 h
  unfold bodyD commitB
  rw [List.append_assoc, head_many _ _ _ h2.2, head_drop, head_turn _ _ _ (by omega)]
  exact ⟨writes_back _ h3 _, rfl⟩
theorem commit_back {c : Cmt} (h : commitE c = 0) : decE (commitB c) = 0 ∧ decC (commitB c) = c := by
  obtain ⟨h1, h2, h3⟩ := (commit_iff c).1 h
  obtain ⟨s1, s2⟩ := commit_size h
  obtain ⟨b1, b2⟩ := commit_body h []
  rw [List.append_nil] at b1 b2
  have hc : (⟨(turnD (commitB c) : Int), c.writes⟩ : Cmt) = c := by
    rw [b2, Int.toNat_of_nonneg (by omega)]
  have hd : decE (commitB c) = 0 := by
    rw [decE, if_neg (by omega), if_neg (by omega), b1]
    show (if ([] : List UInt8).length = 0 then commitE ⟨(turnD (commitB c) : Int), c.writes⟩ else 4) = 0
    rw [if_pos (show ([] : List UInt8).length = 0 from rfl), hc, h]
  refine ⟨hd, ?_⟩
  rw [decC, if_pos hd, b1]
  exact hc
theorem commit_more {c : Cmt} (h : commitE c = 0) (x : List UInt8) (hx : 0 < x.length) (hl : x.length ≤ 3000) : decE (commitB c ++ x) = 4 := by
  obtain ⟨s1, s2⟩ := commit_size h
  obtain ⟨b1, b2⟩ := commit_body h x
  have hlen : (commitB c ++ x).length = (commitB c).length + x.length := List.length_append
  rw [decE, if_neg (by omega), if_neg (by omega), b1]
  show (if x.length = 0 then _ else (4 : Int)) = 4
  rw [if_neg (by omega)]
theorem commit_torn {c : Cmt} (h : commitE c = 0) (k : Nat) (hk : k < (commitB c).length) : decE ((commitB c).take k) = 14 := by
  obtain ⟨s1, s2⟩ := commit_size h
  have hl : ((commitB c).take k).length = k := by simp; omega
  rw [decE, hl, if_neg (by omega)]
  by_cases h4 : k < 4
  · rw [if_pos h4]
  · rw [if_neg h4]
    obtain ⟨b1, b2⟩ := commit_body h []
    rw [List.append_nil] at b1
    cases hb : bodyD ((commitB c).take k) with
    | none => rfl
    | some q =>
      exfalso
      obtain ⟨ws, r⟩ := q
      have e3 : ((commitB c).take k).getD 3 0 = (commitB c).getD 3 0 := by
        simp only [List.getD_eq_getElem?_getD, List.getElem?_take]
        rw [if_pos (by omega)]
      have e4 : (commitB c).drop 4 = ((commitB c).take k).drop 4 ++ (commitB c).drop k := by
        rw [← List.drop_append_of_le_length (by omega), List.take_append_drop]
      unfold bodyD at hb b1
      rw [e3] at hb
      rw [e4, writes_more _ hb] at b1
      simp only [Option.some.injEq, Prod.mk.injEq, List.append_eq_nil_iff] at b1
      have := congrArg List.length b1.2.2
      simp at this
      omega
theorem commit_fixed {b : List UInt8} (h : decE b = 0) : commitE (decC b) = 0 ∧ commitB (decC b) = b := by
  have hC : decC b = (match bodyD b with | some (ws, _) => ⟨(turnD b : Int), ws⟩ | none => noCmt) := by rw [decC, if_pos h]
  rw [decE] at h
  by_cases h1 : 4000 < b.length
  · rw [if_pos h1] at h; omega
  rw [if_neg h1] at h
  by_cases h2 : b.length < 4
  · rw [if_pos h2] at h; omega
  rw [if_neg h2] at h
  cases hb : bodyD b with
  | none => rw [hb] at h; simp at h
  | some q =>
    obtain ⟨ws, r⟩ := q
    rw [hb] at h hC
    have h : (if r.length = 0 then commitE ⟨(turnD b : Int), ws⟩ else 4) = 0 := h
    have hC : decC b = ⟨(turnD b : Int), ws⟩ := hC
    by_cases hr : r.length = 0
    · rw [if_pos hr] at h
      obtain rfl : r = [] := List.eq_nil_of_length_eq_zero hr
      rw [hC]
      refine ⟨h, ?_⟩
      obtain ⟨k1, k2, k3⟩ := (commit_iff _).1 h
      unfold bodyD at hb
      obtain ⟨e1, e2⟩ := writes_fixed _ hb
      rw [List.append_nil] at e1
      show headB ((turnD b : Int)).toNat ws.length ++ ws.flatMap writeB = b
      rw [← e1, e2, Int.toNat_natCast]
      match b, h2 with
      | x0 :: x1 :: x2 :: x3 :: t, _ =>
        show headB (65536 * x0.toNat + 256 * x1.toNat + x2.toNat) x3.toNat ++ t = _
        have a0 := x0.toNat_lt
        have a1 := x1.toNat_lt
        have a2 := x2.toNat_lt
        have a3 := x3.toNat_lt
        unfold headB
        rw [show (65536 * x0.toNat + 256 * x1.toNat + x2.toNat) / 65536 = x0.toNat by omega, show (65536 * x0.toNat + 256 * x1.toNat + x2.toNat) / 256 % 256 = x1.toNat by omega, show (65536 * x0.toNat + 256 * x1.toNat + x2.toNat) % 256 = x2.toNat by omega]
        simp
    · rw [if_neg hr] at h; omega
theorem decC_bad {b : List UInt8} (h : decE b ≠ 0) : decC b = noCmt := by rw [decC, if_neg h]
end Go.Proofs.Ytpmfbfflacbmjac

/-
  Frames and recovery, with no program. D: the four bytes that stand behind.
-/
namespace Go.Proofs.Ytpmfbfflacbmjac
open Go.RowKit
/-- Bytes behind their length in two bytes. -/
def lenB (b : List UInt8) : List UInt8 := UInt8.ofNat (b.length / 256) :: UInt8.ofNat (b.length % 256) :: b
theorem lenB_len (b : List UInt8) : (lenB b).length = b.length + 2 := rfl
def frameB (D : List UInt8 → List UInt8) (c : Cmt) : List UInt8 := lenB (commitB c) ++ D (lenB (commitB c))
def sizeD (r : List UInt8) : Nat := 256 * (r.getD 0 0).toNat + (r.getD 1 0).toNat
def frameD (D : List UInt8 → List UInt8) (r : List UInt8) : Option (Cmt × List UInt8) :=
  if r.length < 6 then none else if r.length < sizeD r + 6 ∨ 4000 < sizeD r + 2 then none else
    if D (r.take (sizeD r + 2)) = (r.drop (sizeD r + 2)).take 4 then (if decE ((r.drop 2).take (sizeD r)) = 0 then some (decC ((r.drop 2).take (sizeD r)), r.drop (sizeD r + 6)) else none) else none
theorem frame_less {D : List UInt8 → List UInt8} {r r2 : List UInt8} {c : Cmt} (h : frameD D r = some (c, r2)) : ∃ m, 6 ≤ m ∧ m ≤ r.length ∧ r2 = r.drop m ∧ commitE c = 0 := by
  unfold frameD at h
  by_cases h1 : r.length < 6
  · rw [if_pos h1] at h; cases h
  rw [if_neg h1] at h
  by_cases h2 : r.length < sizeD r + 6 ∨ 4000 < sizeD r + 2
  · rw [if_pos h2] at h; cases h
  rw [if_neg h2] at h
  by_cases h3 : D (r.take (sizeD r + 2)) = (r.drop (sizeD r + 2)).take 4
  · rw [if_pos h3] at h
    by_cases h4 : decE ((r.drop 2).take (sizeD r)) = 0
    · rw [if_pos h4] at h
      simp only [Option.some.injEq, Prod.mk.injEq] at h
      obtain ⟨rfl, rfl⟩ := h
      exact ⟨sizeD r + 6, by omega, by omega, rfl, (commit_fixed h4).1⟩
    · rw [if_neg h4] at h; cases h
  · rw [if_neg h3] at h; cases h
theorem lenB_size {b : List UInt8} (h : b.length < 65536) (x : List UInt8) : sizeD (lenB b ++ x) = b.length := by
  show 256 * (UInt8.ofNat (b.length / 256)).toNat + (UInt8.ofNat (b.length % 256)).toNat = b.length
  simp only [UInt8.toNat_ofNat']
  omega
theorem frame_len {D : List UInt8 → List UInt8} (hD : ∀ x, (D x).length = 4) (c : Cmt) : (frameB D c).length = (commitB c).length + 6 := by
  unfold frameB
  rw [List.length_append, hD, lenB_len]
theorem frame_back {D : List UInt8 → List UInt8} (hD : ∀ x, (D x).length = 4) {c : Cmt} (h : commitE c = 0) (r : List UInt8) : frameD D (frameB D c ++ r) = some (c, r) := by
  obtain ⟨s1, s2⟩ := commit_size h
  obtain ⟨d1, d2⟩ := commit_back h
  have hl := frame_len hD c
  have hz : sizeD (frameB D c ++ r) = (commitB c).length := by
    unfold frameB
    rw [List.append_assoc]
    exact lenB_size (by omega) _
  have ht : (frameB D c ++ r).take ((commitB c).length + 2) = lenB (commitB c) := by
    unfold frameB
    rw [List.append_assoc]
    exact List.take_left' (lenB_len _)
  have hd : (frameB D c ++ r).drop ((commitB c).length + 2) = D (lenB (commitB c)) ++ r := by
    unfold frameB
    rw [List.append_assoc]
    exact List.drop_left' (lenB_len _)
  have hm : ((frameB D c ++ r).drop 2).take (commitB c).length = commitB c := by
    unfold frameB
    rw [List.append_assoc]
    exact List.take_left' rfl
  have he : (frameB D c ++ r).drop ((commitB c).length + 6) = r := List.drop_left' hl
  have hlen : (frameB D c ++ r).length = (commitB c).length + 6 + r.length := by rw [List.length_append, hl]
  unfold frameD
  rw [if_neg (by omega), hz, if_neg (by omega), ht, hd, hm, he, if_pos (List.take_left' (hD _)).symm, if_pos d1, d2]
theorem frame_torn {D : List UInt8 → List UInt8} (hD : ∀ x, (D x).length = 4) {c : Cmt} (h : commitE c = 0) (k : Nat) (hk : k < (frameB D c).length) : frameD D ((frameB D c).take k) = none := by
  obtain ⟨s1, s2⟩ := commit_size h
  have hl := frame_len hD c
  have hkl : ((frameB D c).take k).length = k := by simp; omega
  unfold frameD
  by_cases h6 : k < 6
  · rw [if_pos (by omega)]
  · have hz : sizeD ((frameB D c).take k) = (commitB c).length := by
      have hz : sizeD (frameB D c ++ []) = (commitB c).length := by
        unfold frameB
        rw [List.append_assoc]
        exact lenB_size (by omega) _
      rw [List.append_nil] at hz
      rw [← hz]
      unfold sizeD
      simp only [List.getD_eq_getElem?_getD, List.getElem?_take]
      rw [if_pos (by omega), if_pos (by omega)]
    rw [if_neg (by omega), hz, if_pos (by omega)]
/-- What is recovered from here on, the next turn being this one; and what is left. -/
def recL (D : List UInt8 → List UInt8) (turn : Nat) (r : List UInt8) : List Cmt × List UInt8 :=
  match h : frameD D r with
  | some (c, r2) => if c.turn = (turn : Int) then (c :: (recL D (turn + 1) r2).1, (recL D (turn + 1) r2).2) else ([], r)
  | none => ([], r)
termination_by r.length
decreasing_by
  all_goals
    obtain ⟨m, h1, h2, h3, _⟩ := frame_less h
    rw [h3, List.length_drop]
    omega
theorem rec_go {D : List UInt8 → List UInt8} {turn : Nat} {r r2 : List UInt8} {c : Cmt} (h : frameD D r = some (c, r2)) (ht : c.turn = (turn : Int)) : recL D turn r = (c :: (recL D (turn + 1) r2).1, (recL D (turn + 1) r2).2) := by
  rw [recL]
  split
  · next c' r' h' =>
    rw [h] at h'
    simp only [Option.some.injEq, Prod.mk.injEq] at h'
    obtain ⟨rfl, rfl⟩ := h'
    rw [if_pos ht]
  · next h' => rw [h] at h'; cases h'
theorem rec_other {D : List UInt8 → List UInt8} {turn : Nat} {r r2 : List UInt8} {c : Cmt} (h : frameD D r = some (c, r2)) (ht : c.turn ≠ (turn : Int)) : recL D turn r = ([], r) := by
  rw [recL]
  split
  · next c' r' h' =>
    rw [h] at h'
    simp only [Option.some.injEq, Prod.mk.injEq] at h'
    obtain ⟨rfl, rfl⟩ := h'
    rw [if_neg ht]
  · rfl
theorem rec_stop {D : List UInt8 → List UInt8} {turn : Nat} {r : List UInt8} (h : frameD D r = none) : recL D turn r = ([], r) := by
  rw [recL]
  split
  · next c' r' h' => rw [h] at h'; cases h'
  · rfl
theorem frame_nil (D : List UInt8 → List UInt8) : frameD D [] = none := by unfold frameD; rw [if_pos (by simp)]
/-- Commits that may be, turn by turn. -/
def InTurn : Nat → List Cmt → Prop
  | _, [] => True
  | t, c :: cs => c.turn = (t : Int) ∧ commitE c = 0 ∧ InTurn (t + 1) cs
theorem InTurn.take : ∀ {t : Nat} {cs : List Cmt} (_ : InTurn t cs) (j : Nat), InTurn t (cs.take j)
  | _, [], _, j => by rw [List.take_nil]; trivial
  | _, c :: cs, _, 0 => trivial
  | t, c :: cs, h, j + 1 => ⟨h.1, h.2.1, InTurn.take h.2.2 j⟩
theorem InTurn.snoc : ∀ {t : Nat} {cs : List Cmt} {c : Cmt} (_ : InTurn t cs) (_ : c.turn = ((t + cs.length : Nat) : Int)) (_ : commitE c = 0), InTurn t (cs ++ [c])
  | t, [], c, _, h1, h2 => ⟨by simpa using h1, h2, trivial⟩
  | t, a :: cs, c, h, h1, h2 => ⟨h.1, h.2.1, InTurn.snoc h.2.2 (by rw [h1]; simp; omega) h2⟩
theorem InTurn.at : ∀ {t : Nat} {cs : List Cmt} (_ : InTurn t cs) (i : Nat) (_ : i < cs.length), (cs.getD i noCmt).turn = ((t + i : Nat) : Int) ∧ commitE (cs.getD i noCmt) = 0
  | t, [], _, i, hi => by simp at hi
  | t, c :: cs, h, 0, _ => ⟨by simpa using h.1, h.2.1⟩
  | t, c :: cs, h, i + 1, hi => by
    have := InTurn.at h.2.2 i (by simpa using hi)
    rw [show t + (i + 1) = t + 1 + i by omega]
    simpa using this
def flatT (D : List UInt8 → List UInt8) (cs : List Cmt) : List UInt8 := cs.flatMap (frameB D)
theorem flatT_cons (D : List UInt8 → List UInt8) (c : Cmt) (cs : List Cmt) : flatT D (c :: cs) = frameB D c ++ flatT D cs := List.flatMap_cons
theorem flatT_append (D : List UInt8 → List UInt8) (a b : List Cmt) : flatT D (a ++ b) = flatT D a ++ flatT D b := List.flatMap_append
theorem flatT_one (D : List UInt8 → List UInt8) (c : Cmt) : flatT D [c] = frameB D c := by simp [flatT]
theorem rec_frames {D : List UInt8 → List UInt8} (hD : ∀ x, (D x).length = 4) : ∀ {t : Nat} {cs : List Cmt} (_ : InTurn t cs) (r : List UInt8), recL D t (flatT D cs ++ r) = (cs ++ (recL D (t + cs.length) r).1, (recL D (t + cs.length) r).2)
  | t, [], _, r => rfl
  | t, c :: cs, h, r => by
    rw [flatT_cons, List.append_assoc, rec_go (frame_back hD h.2.1 _) h.1, rec_frames hD h.2.2 r, List.length_cons, show t + (cs.length + 1) = t + 1 + cs.length by omega]
    rfl
theorem rec_all {D : List UInt8 → List UInt8} (hD : ∀ x, (D x).length = 4) {t : Nat} {cs : List Cmt} (h : InTurn t cs) : recL D t (flatT D cs) = (cs, []) := by
  have := rec_frames hD h []
  rw [List.append_nil, rec_stop (frame_nil D)] at this
  simpa using this
/-- What is left is what is behind. -/
theorem rec_left (D : List UInt8 → List UInt8) : ∀ (n : Nat) (t : Nat) (r : List UInt8) (_ : r.length ≤ n), ∃ m, m ≤ r.length ∧ (recL D t r).2 = r.drop m
  | 0, t, r, h => by
    have : r = [] := List.eq_nil_of_length_eq_zero (by omega)
    subst this
    exact ⟨0, by simp, by rw [rec_stop (frame_nil D)]; rfl⟩
  | n + 1, t, r, h => by
    cases hf : frameD D r with
    | none => exact ⟨0, by omega, by rw [rec_stop hf]; rfl⟩
    | some q =>
      obtain ⟨c, r2⟩ := q
      by_cases ht : c.turn = (t : Int)
      · obtain ⟨m, h1, h2, h3, _⟩ := frame_less hf
        obtain ⟨m2, k1, k2⟩ := rec_left D n (t + 1) r2 (by rw [h3, List.length_drop]; omega)
        refine ⟨m + m2, ?_, ?_⟩
        · rw [h3, List.length_drop] at k1; omega
        · rw [rec_go hf ht]
          show (recL D (t + 1) r2).2 = _
          rw [k2, h3, List.drop_drop]
      · exact ⟨0, by omega, by rw [rec_other hf ht]; rfl⟩
/-- How many bytes are recovered. -/
def recN (D : List UInt8 → List UInt8) (r : List UInt8) : Nat := r.length - (recL D 1 r).2.length
/-- Of a torn tape the whole commits count. -/
theorem rec_torn {D : List UInt8 → List UInt8} (hD : ∀ x, (D x).length = 4) : ∀ {t : Nat} {cs : List Cmt} (_ : InTurn t cs) (k : Nat), ∃ j, j ≤ cs.length ∧ recL D t ((flatT D cs).take k) = (cs.take j, ((flatT D cs).take k).drop (flatT D (cs.take j)).length) ∧ (flatT D (cs.take j)).length ≤ k ∧ (flatT D (cs.take j)).length ≤ (flatT D cs).length ∧ (j < cs.length → k < (flatT D (cs.take (j + 1))).length)
  | t, [], _, k => ⟨0, by simp, by
      show recL D t (([] : List UInt8).take k) = _
      rw [List.take_nil, rec_stop (frame_nil D)]
      simp [flatT], by simp [flatT], by simp [flatT], fun h => by simp at h⟩
  | t, c :: cs, h, k => by
    by_cases hk : k < (frameB D c).length
    · refine ⟨0, by simp, ?_, by simp [flatT], by simp [flatT], fun _ => ?_⟩
      · rw [flatT_cons, List.take_append_of_le_length (by omega), rec_stop (frame_torn hD h.2.1 k hk)]
        simp [flatT]
      · show k < (flatT D [c]).length
        rw [flatT_one]; exact hk
    · obtain ⟨j, h1, h2, h3, h4, h5⟩ := rec_torn hD h.2.2 (k - (frameB D c).length)
      have ht : (flatT D (c :: cs)).take k = frameB D c ++ (flatT D cs).take (k - (frameB D c).length) := by
        rw [flatT_cons, List.take_append, List.take_of_length_le (by omega)]
      refine ⟨j + 1, by simp; omega, ?_, ?_, ?_, fun hj => ?_⟩
      · rw [ht, rec_go (frame_back hD h.2.1 _) h.1, h2, List.take_succ_cons, flatT_cons]
        rw [List.length_append, ← List.drop_drop, List.drop_left' rfl]
      · rw [List.take_succ_cons, flatT_cons, List.length_append]; omega
      · rw [List.take_succ_cons, flatT_cons, flatT_cons, List.length_append, List.length_append]; omega
      · have := h5 (by simpa using hj)
        rw [List.take_succ_cons, flatT_cons, List.length_append]; omega
theorem flatT_take_le (D : List UInt8 → List UInt8) (cs : List Cmt) (i j : Nat) (h : i ≤ j) : (flatT D (cs.take i)).length ≤ (flatT D (cs.take j)).length := by
  have : cs.take i = (cs.take j).take i := by rw [List.take_take, Nat.min_eq_left h]
  rw [this]
  conv => rhs; rw [← List.take_append_drop i (cs.take j), flatT_append]
  rw [List.length_append]; omega
/-- Commits that lie whole ahead of the tear are recovered. -/
theorem rec_torn_least {D : List UInt8 → List UInt8} {cs : List Cmt} {k j i : Nat} (hi : i ≤ cs.length) (hj : j < cs.length → k < (flatT D (cs.take (j + 1))).length) (hk : (flatT D (cs.take i)).length ≤ k) : i ≤ j := by
  by_cases h : i ≤ j
  · exact h
  · have := flatT_take_le D cs (j + 1) i (by omega)
    have := hj (by omega)
    omega
theorem flatT_size {D : List UInt8 → List UInt8} (hD : ∀ x, (D x).length = 4) : ∀ {t : Nat} {cs : List Cmt} (_ : InTurn t cs), (flatT D cs).length ≤ 600 * cs.length
  | t, [], _ => by simp [flatT]
  | t, c :: cs, h => by
    have := flatT_size hD h.2.2
    have h1 := frame_len hD c
    have h2 := commit_size h.2.1
    rw [flatT_cons, List.length_append, List.length_cons]
    omega
theorem flatT_grows (D : List UInt8 → List UInt8) (cs : List Cmt) (i : Nat) (h : i < cs.length) : (flatT D (cs.take (i + 1))).length = (flatT D (cs.take i)).length + (frameB D (cs.getD i noCmt)).length := by
  rw [List.take_succ_eq_append_getElem h, flatT_append, List.length_append, flatT_one, show cs[i] = cs.getD i noCmt by simp [h]]
end Go.Proofs.Ytpmfbfflacbmjac

/-
  A tree out of raw items. No program is named.
-/
namespace Go.Proofs.Ytpmfbfflacbmjac
/-- A pair out of an item. -/
def itemP (it : Pr) : Pr := (keyF it.1, it.2.take 32)
theorem itemP_ok (it : Pr) : (1 ≤ (itemP it).1.length ∧ (itemP it).1.length ≤ 16) ∧ (itemP it).2.length ≤ 32 := by
  refine ⟨keyF_len it.1, ?_⟩
  simp [itemP]; omega
/-- The tree of items. -/
def mkT (l : PL) : PL := l.foldl (fun t it => putL t (itemP it)) []
theorem mkT_snoc (l : PL) (it : Pr) : mkT (l ++ [it]) = putL (mkT l) (itemP it) := by simp [mkT]
theorem mkT_take (l : PL) (m : Nat) (h : m < l.length) : mkT (l.take (m + 1)) = putL (mkT (l.take m)) (itemP (l.getD m ([], []))) := by
  rw [List.take_succ_eq_append_getElem h, mkT_snoc]; simp [h]
theorem put_pairs (t : PL) (p : Pr) (h : ∀ q ∈ t, (1 ≤ q.1.length ∧ q.1.length ≤ 16) ∧ q.2.length ≤ 32) (hp : (1 ≤ p.1.length ∧ p.1.length ≤ 16) ∧ p.2.length ≤ 32) : ∀ q ∈ putL t p, (1 ≤ q.1.length ∧ q.1.length ≤ 16) ∧ q.2.length ≤ 32 := by
  intro q hq
  rcases mem_put t p q hq with rfl | hq
  · exact hp
  · exact h q hq
theorem mkT_pre (l : PL) (n : Nat) (hn : l.length ≤ n) (h60 : n ≤ 60) : Tree (mkT l) ∧ (mkT l).length ≤ l.length := by
  suffices H : ∀ (l t : PL), Rises t → (∀ q ∈ t, (1 ≤ q.1.length ∧ q.1.length ≤ 16) ∧ q.2.length ≤ 32) → Rises (l.foldl (fun t it => putL t (itemP it)) t) ∧ (∀ q ∈ l.foldl (fun t it => putL t (itemP it)) t, (1 ≤ q.1.length ∧ q.1.length ≤ 16) ∧ q.2.length ≤ 32) ∧ (l.foldl (fun t it => putL t (itemP it)) t).length ≤ t.length + l.length by
    obtain ⟨h1, h2, h3⟩ := H l [] List.Pairwise.nil (by simp)
    have h4 : (mkT l).length ≤ l.length := by
      unfold mkT
      simpa using h3
    exact ⟨⟨by omega, h2, h1⟩, h4⟩
  intro l
  induction l with
  | nil => intro t h1 h2; exact ⟨h1, h2, by simp⟩
  | cons it r ih =>
    intro t h1 h2
    obtain ⟨g1, g2, g3⟩ := ih (putL t (itemP it)) (put_rises t _ h1) (put_pairs t _ h2 (itemP_ok it))
    refine ⟨g1, g2, Nat.le_trans g3 ?_⟩
    have := put_len t (itemP it)
    simp; omega
theorem mkT_tree (l : PL) (n : Nat) (hn : n ≤ 60) : Tree (mkT (l.take n)) := (mkT_pre _ n (by simp; omega) hn).1
theorem mkT_len (l : PL) (n : Nat) (hn : n ≤ 60) : (mkT (l.take n)).length ≤ n := Nat.le_trans (mkT_pre (l.take n) n (by simp; omega) hn).2 (by simp; omega)
/-- Put, by the place where it comes to stand. -/
theorem put_pos : ∀ (t : PL) (p : Pr) (k : Nat), k ≤ t.length → (∀ j, j < k → klt (t.getD j ([], [])).1 p.1 = true) → (k < t.length → klt (t.getD k ([], [])).1 p.1 = false) →
    putL t p = if k < t.length ∧ (t.getD k ([], [])).1 = p.1 then t.set k p else t.take k ++ ([p] ++ t.drop k)
  | [], p, k, hk, _, _ => by
    obtain rfl : k = 0 := by simpa using hk
    simp [putL]
  | q :: r, p, 0, _, _, h2 => by
    have h := h2 (by simp)
    simp only [List.getD_cons_zero] at h
    rw [putL, if_neg (by rw [h]; simp)]
    by_cases e : q.1 = p.1
    · rw [if_pos e, if_pos ⟨by simp, by simpa using e⟩]; simp
    · rw [if_neg e, if_neg (fun h => e (by simpa using h.2))]; simp
  | q :: r, p, k + 1, hk, h1, h2 => by
    have h := h1 0 (by omega)
    simp only [List.getD_cons_zero] at h
    rw [putL, if_pos h, put_pos r p k (by simpa using hk) (fun j hj => by simpa using h1 (j + 1) (by omega)) (fun hk => by simpa using h2 (by simpa using hk))]
    by_cases e : k < r.length ∧ (r.getD k ([], [])).1 = p.1
    · rw [if_pos e, if_pos ⟨by simpa using e.1, by simpa using e.2⟩]; simp
    · rw [if_neg e, if_neg (fun h => e ⟨by simpa using h.1, by simpa using h.2⟩)]; simp
end Go.Proofs.Ytpmfbfflacbmjac

/-
  Trees that are put to and taken from: what the laws of canopykeep rest on. No program is named.
-/
namespace Go.Proofs.Ytpmfbfflacbmjac
theorem putE_ok (t : PL) (p : Pr) (h : Tree t) (hp : (1 ≤ p.1.length ∧ p.1.length ≤ 16) ∧ p.2.length ≤ 32) (hl : t.length < 60) : putE t p = 0 ∧ putF t p = putL t p ∧ Tree (putL t p) := by
  have h0 : putE0 t p = 0 := by rw [putE0, if_pos ((tree_iff t).2 h)]; exact (pairFault_iff p).2 hp
  have hlen := put_len t p
  have h1 : putE t p = 0 := by rw [putE, if_pos h0, if_neg (by omega)]
  exact ⟨h1, by rw [putF, if_pos h1], ⟨by omega, put_pairs t p h.pairs hp, put_rises t p h.rises⟩⟩
theorem delF_ok (t : PL) (k : List UInt8) (h : Tree t) (hk : 1 ≤ k.length ∧ k.length ≤ 16) : getE t k = 0 ∧ delF t k = delL t k ∧ Tree (delL t k) := by
  have h1 := getE_ok h hk
  refine ⟨h1, by rw [delF, if_pos h1], ⟨Nat.le_trans (del_len t k) h.room, fun p hp => h.pairs p (List.mem_filter.1 hp).1, del_rises t k h.rises⟩⟩
theorem rangeF_ok (t : PL) (f u : List UInt8) (h : Tree t) (hf : 1 ≤ f.length ∧ f.length ≤ 16) (hu : 1 ≤ u.length ∧ u.length ≤ 16) : rangeE t f u = 0 ∧ rangeF t f u = rangeL t f u ∧ Tree (rangeL t f u) := by
  have h1 : rangeE t f u = 0 := by rw [rangeE, if_pos (getE_ok h hf)]; exact (keyFault_iff _).2 hu
  refine ⟨h1, by rw [rangeF, if_pos h1], ⟨Nat.le_trans (range_len t f u) h.room, fun p hp => h.pairs p (List.mem_filter.1 hp).1, range_rises t f u h.rises⟩⟩
theorem get_ok (t : PL) (k : List UInt8) (h : Tree t) (hk : 1 ≤ k.length ∧ k.length ≤ 16) : getE t k = 0 ∧ getB t k = (getF t k).isSome ∧ getV t k = (getF t k).getD [] := by
  have h1 := getE_ok h hk
  exact ⟨h1, by rw [getB, h1]; simp, by rw [getV, if_pos h1]⟩
theorem tree_fault (t : PL) (h : Tree t) : pairsFaultF t = 0 := (tree_iff t).2 h
theorem put_comm (t : PL) (p q : Pr) (h : Rises t) (hne : p.1 ≠ q.1) : putL (putL t p) q = putL (putL t q) p := by
  refine rises_ext _ _ (put_rises _ _ (put_rises _ _ h)) (put_rises _ _ (put_rises _ _ h)) fun k => ?_
  rw [get_put _ _ _ (put_rises _ _ h), get_put _ _ _ h, get_put _ _ _ (put_rises _ _ h), get_put _ _ _ h]
  by_cases h1 : q.1 = k
  · rw [if_pos h1, if_pos h1, if_neg (fun h2 => hne (h2.trans h1.symm))]
  · rw [if_neg h1, if_neg h1]
theorem put_same (t : PL) (p q : Pr) (h : Rises t) (he : p.1 = q.1) : putL (putL t p) q = putL t q := by
  refine rises_ext _ _ (put_rises _ _ (put_rises _ _ h)) (put_rises _ _ h) fun k => ?_
  rw [get_put _ _ _ (put_rises _ _ h), get_put _ _ _ h, get_put _ _ _ h]
  by_cases h1 : q.1 = k
  · rw [if_pos h1, if_pos h1]
  · rw [if_neg h1, if_neg h1, if_neg (by rw [he]; exact h1)]
theorem del_put (t : PL) (p : Pr) (h : Rises t) : delL (putL t p) p.1 = delL t p.1 := by
  refine rises_ext _ _ (del_rises _ _ (put_rises _ _ h)) (del_rises _ _ h) fun k => ?_
  rw [get_del, get_del, get_put _ _ _ h]
  by_cases h1 : p.1 = k
  · rw [if_pos h1, if_pos h1]
  · rw [if_neg h1, if_neg h1, if_neg h1]
theorem put_some (t : PL) (p : Pr) : putL t p ≠ [] := by
  cases t with
  | nil => simp [putL]
  | cons q r =>
    rw [putL]
    by_cases h1 : klt q.1 p.1 = true
    · rw [if_pos h1]; simp
    · rw [if_neg h1]
      by_cases h2 : q.1 = p.1
      · rw [if_pos h2]; simp
      · rw [if_neg h2]; simp
theorem del_none (t : PL) (k : List UInt8) (h : getF t k = none) : delL t k = t := by
  induction t with
  | nil => rfl
  | cons q r ih =>
    rw [get_cons] at h
    by_cases e : q.1 = k
    · rw [if_pos e] at h; cases h
    · rw [if_neg e] at h
      have := ih h
      unfold delL at this ⊢
      rw [List.filter_cons_of_pos (by simp [e]), this]
theorem put_len_new (t : PL) (p : Pr) (h : getF t p.1 = none) : (putL t p).length = t.length + 1 := by
  induction t with
  | nil => simp [putL]
  | cons q r ih =>
    rw [get_cons] at h
    by_cases e : q.1 = p.1
    · rw [if_pos e] at h; cases h
    · rw [if_neg e] at h
      rw [putL]
      by_cases h1 : klt q.1 p.1 = true
      · rw [if_pos h1]; simp [ih h]
      · rw [if_neg h1, if_neg e]; simp
theorem del_len_old (t : PL) (k : List UInt8) (hr : Rises t) (h : (getF t k).isSome = true) : (delL t k).length + 1 = t.length := by
  induction t with
  | nil => simp [getF] at h
  | cons q r ih =>
    have hp := List.pairwise_cons.1 hr
    rw [get_cons] at h
    by_cases e : q.1 = k
    · have hn : getF r k = none := get_head_none r k fun p hp' => by rw [← e]; exact hp.1 p hp'
      have := del_none r k hn
      unfold delL at this ⊢
      rw [List.filter_cons_of_neg (by simp [e]), this]; simp
    · rw [if_neg e] at h
      have := ih hp.2 h
      unfold delL at this ⊢
      rw [List.filter_cons_of_pos (by simp [e])]
      simp; omega
end Go.Proofs.Ytpmfbfflacbmjac

/-
  Forests that are written to: what the laws of canopykeep rest on. No program is named.
-/
namespace Go.Proofs.Ytpmfbfflacbmjac
theorem writeF_ok (p : Plc) : writeE (writeF p) = 0 := by
  obtain ⟨h1, h2, h3⟩ := writeF_len p
  refine (writeE_iff _).2 ⟨h1, h2, ?_⟩
  by_cases hg : (writeF p).gone = true
  · rw [if_pos hg]
    have hg' : p.gone = true := hg
    show (if p.gone = true then [] else p.value.take 32) = []
    rw [if_pos hg']
  · rw [if_neg hg]; exact h3
/-- No tenant has more pairs than so many. -/
def Small (m : Nat) (l : FL) : Prop := ∀ n, (ofF l n).length ≤ m
theorem small_nil : Small 0 [] := fun n => by rw [of_nil]; simp
theorem Small.mono {m m' : Nat} {l : FL} (h : Small m l) (hm : m ≤ m') : Small m' l := fun n => Nat.le_trans (h n) hm
theorem next_len (l : FL) (w : Plc) : (nextL l w).length ≤ (ofF l w.name).length + 1 := by
  unfold nextL
  by_cases hg : w.gone = true
  · rw [if_pos hg]; have := del_len (ofF l w.name) w.key; omega
  · rw [if_neg hg]; exact put_len _ _
theorem small_written {l : FL} {m : Nat} (hr : t_Rises l) (h : Small m l) (w : Plc) : Small (m + 1) (writtenL l w) := fun n => by
  rw [written_of hr]
  by_cases e : w.name = n
  · rw [if_pos e]
    have := next_len l w
    have := h w.name
    omega
  · rw [if_neg e]; have := h n; omega
theorem next_ok {l : FL} {m : Nat} (h : Forest l) {w : Plc} (hw : writeE w = 0) (hs : Small m l) (hm : m < 60) : nextE l w = 0 := by
  obtain ⟨_, hk, hv⟩ := (writeE_iff w).1 hw
  have hT := of_tree h w.name
  have hl := hs w.name
  unfold nextE
  by_cases hg : w.gone = true
  · rw [if_pos hg]; exact getE_ok hT hk
  · rw [if_neg hg] at hv ⊢
    exact (putE_ok _ _ hT ⟨hk, hv⟩ (by omega)).1
theorem writtenE_small {l : FL} {m : Nat} (h : Forest l) {w : Plc} (hw : writeE w = 0) (hs : Small m l) (hm : m < 60) : writtenE l w = if 8 < (writtenL l w).length then 11 else 0 := by
  rw [writtenE, if_pos (next_ok h hw hs hm)]
theorem written_len (l : FL) (w : Plc) : (writtenL l w).length ≤ l.length + 1 := by
  unfold writtenL
  by_cases hn : (nextL l w).length = 0
  · rw [if_pos hn]; have := t_del_len l w.name; omega
  · rw [if_neg hn]; exact t_put_len _ _
/-- What a key of a name has behind a write. -/
theorem get_written {l : FL} (h : Forest l) (w : Plc) (n k : List UInt8) : getF (ofF (writtenL l w) n) k = if w.name = n ∧ w.key = k then (if w.gone = true then none else some w.value) else getF (ofF l n) k := by
  rw [written_of h.rises]
  by_cases e : w.name = n
  · subst e
    rw [if_pos rfl]
    unfold nextL
    by_cases hg : w.gone = true
    · rw [if_pos hg, if_pos hg, get_del]
      by_cases e2 : w.key = k
      · rw [if_pos e2, if_pos ⟨rfl, e2⟩]
      · rw [if_neg e2, if_neg (fun h => e2 h.2)]
    · rw [if_neg hg, if_neg hg, get_put _ _ _ (of_tree h _).rises]
      by_cases e2 : w.key = k
      · rw [if_pos e2, if_pos ⟨rfl, e2⟩]
      · rw [if_neg e2, if_neg (fun h => e2 h.2)]
  · rw [if_neg e, if_neg (fun h => e h.1)]
/-- Forests are told by what keys of names have. -/
theorem forest_ext2 {l m : FL} (hl : Forest l) (hm : Forest m) (h : ∀ n k, getF (ofF l n) k = getF (ofF m n) k) : l = m :=
  forest_ext hl hm fun n => rises_ext _ _ (of_tree hl n).rises (of_tree hm n).rises (h n)
/-- The forest that writes make; those that have no room are left out. -/
def mkF (ws : List Plc) : FL := ws.foldl (fun f w => if writtenE f w = 0 then writtenL f w else f) []
theorem mkF_snoc (ws : List Plc) (w : Plc) : mkF (ws ++ [w]) = if writtenE (mkF ws) w = 0 then writtenL (mkF ws) w else mkF ws := by
  unfold mkF
  rw [List.foldl_append]
  rfl
theorem mkF_take (ws : List Plc) (m : Nat) (h : m < ws.length) : mkF (ws.take (m + 1)) = if writtenE (mkF (ws.take m)) (ws.getD m noPlc) = 0 then writtenL (mkF (ws.take m)) (ws.getD m noPlc) else mkF (ws.take m) := by
  rw [List.take_succ_eq_append_getElem h, mkF_snoc]; simp [h]
theorem mkF_ok (ws : List Plc) (h : ∀ w ∈ ws, writeE w = 0) : Forest (mkF ws) ∧ Small ws.length (mkF ws) := by
  suffices H : ∀ (ws : List Plc) (f : FL) (m : Nat), (∀ w ∈ ws, writeE w = 0) → Forest f → Small m f → Forest (ws.foldl (fun f w => if writtenE f w = 0 then writtenL f w else f) f) ∧ Small (m + ws.length) (ws.foldl (fun f w => if writtenE f w = 0 then writtenL f w else f) f) by
    have := H ws [] 0 h forest_nil small_nil
    rw [Nat.zero_add] at this
    exact this
  intro ws
  induction ws with
  | nil => intro f m _ h1 h2; exact ⟨h1, h2⟩
  | cons w r ih =>
    intro f m h h1 h2
    rw [List.foldl_cons]
    have hw := h w (by simp)
    have hr : ∀ x ∈ r, writeE x = 0 := fun x hx => h x (List.mem_cons_of_mem _ hx)
    by_cases he : writtenE f w = 0
    · rw [if_pos he]
      have := ih _ (m + 1) hr (written_forest h1 hw he) (small_written h1.rises h2 w)
      rw [show m + (w :: r).length = m + 1 + r.length by simp; omega]
      exact this
    · rw [if_neg he]
      have := ih _ (m + 1) hr h1 (h2.mono (by omega))
      rw [show m + (w :: r).length = m + 1 + r.length by simp; omega]
      exact this
/-- Forests out of places. -/
def mkP (l : List Plc) (n : Nat) : FL := mkF ((l.take n).map writeF)
theorem mkP_ok (l : List Plc) (n : Nat) : Forest (mkP l n) ∧ Small n (mkP l n) := by
  have := mkF_ok ((l.take n).map writeF) (fun w hw => by
    obtain ⟨p, _, rfl⟩ := List.mem_map.1 hw
    exact writeF_ok p)
  refine ⟨this.1, this.2.mono ?_⟩
  simp; omega
theorem apply_append : ∀ (x y : List Plc) (l : FL), applyE l (x ++ y) = (if applyE l x = 0 then applyE (applyL l x) y else applyE l x) ∧ applyL l (x ++ y) = applyL (applyL l x) y
  | [], y, l => by simp [applyE, applyL]
  | w :: x, y, l => by
    obtain ⟨h1, h2⟩ := apply_append x y (writtenL l w)
    rw [List.cons_append, applyE, applyE, applyL, applyL, h1, h2]
    refine ⟨?_, rfl⟩
    by_cases hw : writeE w = 0
    · rw [if_pos hw, if_pos hw]
      by_cases he : writtenE l w = 0
      · rw [if_pos he, if_pos he]
      · rw [if_neg he, if_neg he, if_neg he]
    · rw [if_neg hw, if_neg hw, if_neg hw]
theorem apply_forest : ∀ (ws : List Plc) (l : FL), Forest l → applyE l ws = 0 → Forest (applyL l ws)
  | [], l, h, _ => h
  | w :: ws, l, h, he => by
    rw [applyE] at he
    by_cases hw : writeE w = 0
    · rw [if_pos hw] at he
      by_cases h2 : writtenE l w = 0
      · rw [if_pos h2] at he
        exact apply_forest ws _ (written_forest h hw h2) he
      · rw [if_neg h2] at he; exact absurd he h2
    · rw [if_neg hw] at he; exact absurd he hw
theorem apply_small : ∀ (ws : List Plc) (l : FL) (m : Nat), Forest l → applyE l ws = 0 → Small m l → Small (m + ws.length) (applyL l ws)
  | [], l, m, _, _, hs => hs
  | w :: ws, l, m, h, he, hs => by
    rw [applyE] at he
    by_cases hw : writeE w = 0
    · rw [if_pos hw] at he
      by_cases h2 : writtenE l w = 0
      · rw [if_pos h2] at he
        have := apply_small ws _ (m + 1) (written_forest h hw h2) he (small_written h.rises hs w)
        rw [show m + (w :: ws).length = m + 1 + ws.length by simp; omega]
        exact this
      · rw [if_neg h2] at he; exact absurd he h2
    · rw [if_neg hw] at he; exact absurd he hw
theorem apply_full : ∀ (ws : List Plc) (l : FL) (m : Nat), Forest l → (∀ w ∈ ws, writeE w = 0) → Small m l → m + ws.length ≤ 60 → applyE l ws = 0 ∨ applyE l ws = 11
  | [], l, m, _, _, _, _ => .inl rfl
  | w :: ws, l, m, h, hv, hs, hm => by
    have hw := hv w (by simp)
    have hm' : m < 60 := by simp at hm; omega
    rw [applyE, if_pos hw]
    by_cases h2 : writtenE l w = 0
    · rw [if_pos h2]
      exact apply_full ws _ (m + 1) (written_forest h hw h2) (fun x hx => hv x (List.mem_cons_of_mem _ hx)) (small_written h.rises hs w) (by simp at hm; omega)
    · rw [if_neg h2]
      refine .inr ?_
      have := writtenE_small h hw hs hm'
      rw [this] at h2 ⊢
      by_cases h8 : 8 < (writtenL l w).length
      · rw [if_pos h8]
      · rw [if_neg h8] at h2; exact absurd rfl h2
theorem applied_ok {l : FL} (h : Forest l) (ws : List Plc) (hn : ws.length ≤ 10) : appliedE l ws = applyE l ws := by
  rw [appliedE, if_pos ((forest_iff l).2 h), if_neg (by omega)]
theorem applied_l {l : FL} (h : Forest l) (ws : List Plc) (hn : ws.length ≤ 10) : appliedF l ws = if applyE l ws = 0 then applyL l ws else [] := by
  rw [appliedF, applied_ok h ws hn]
theorem apply_one {l : FL} {w : Plc} (hw : writeE w = 0) : applyE l [w] = writtenE l w ∧ applyL l [w] = writtenL l w := by
  refine ⟨?_, rfl⟩
  rw [applyE, if_pos hw]
  by_cases h : writtenE l w = 0
  · rw [if_pos h, h]; rfl
  · rw [if_neg h]
theorem apply_two {l : FL} {a b : Plc} (ha : writeE a = 0) (hb : writeE b = 0) : applyE l [a, b] = (if writtenE l a = 0 then writtenE (writtenL l a) b else writtenE l a) ∧ applyL l [a, b] = writtenL (writtenL l a) b := by
  refine ⟨?_, rfl⟩
  rw [applyE, if_pos ha]
  by_cases h : writtenE l a = 0
  · rw [if_pos h, if_pos h]; exact (apply_one hb).1
  · rw [if_neg h, if_neg h]
/-- One write: room alone may lack. -/
theorem apply_room {l : FL} {m : Nat} (h : Forest l) {w : Plc} (hw : writeE w = 0) (hs : Small m l) (hm : m < 60) (he : applyE l [w] ≠ 0) : applyE l [w] = 11 ∧ l.length = 8 := by
  rw [(apply_one hw).1] at he ⊢
  rw [writtenE_small h hw hs hm] at he ⊢
  by_cases h8 : 8 < (writtenL l w).length
  · rw [if_pos h8]
    have := written_len l w
    have := h.room
    exact ⟨rfl, by omega⟩
  · rw [if_neg h8] at he; exact absurd rfl he
/-- Two writes to two places, in any order. -/
theorem apply_turns {l : FL} (h : Forest l) {a b : Plc} (ha : writeE a = 0) (hb : writeE b = 0) (h1 : applyE l [a, b] = 0) (h2 : applyE l [b, a] = 0) (hne : ¬ (a.name = b.name ∧ a.key = b.key)) : applyL l [a, b] = applyL l [b, a] := by
  have f1 := apply_forest _ _ h h1
  have f2 := apply_forest _ _ h h2
  refine forest_ext2 f1 f2 fun n k => ?_
  have e1 : writtenE l a = 0 := by
    rw [(apply_two ha hb).1] at h1
    by_cases e : writtenE l a = 0
    · exact e
    · rw [if_neg e] at h1; exact h1
  have e2 : writtenE l b = 0 := by
    rw [(apply_two hb ha).1] at h2
    by_cases e : writtenE l b = 0
    · exact e
    · rw [if_neg e] at h2; exact h2
  rw [(apply_two ha hb).2, (apply_two hb ha).2, get_written (written_forest h ha e1), get_written h, get_written (written_forest h hb e2), get_written h]
  by_cases p : b.name = n ∧ b.key = k
  · have hna : ¬ (a.name = n ∧ a.key = k) := fun q => hne ⟨q.1.trans p.1.symm, q.2.trans p.2.symm⟩
    rw [if_pos p, if_neg hna, if_pos p]
  · rw [if_neg p, if_neg p]
/-- A write that changes nothing. -/
theorem written_same {l : FL} (h : Forest l) (w : Plc) (hn : nextL l w = ofF l w.name) : writtenL l w = l := by
  refine t_rises_ext _ _ (written_rises h.rises w) h.rises fun n => ?_
  unfold writtenL
  by_cases h0 : (nextL l w).length = 0
  · rw [if_pos h0, t_get_del]
    by_cases e : w.name = n
    · rw [if_pos e]
      rw [hn, e] at h0
      have h0' : ofF l n = [] := List.eq_nil_of_length_eq_zero h0
      unfold ofF at h0'
      cases hf : l.find? (fun p => p.1 == n) with
      | none => unfold t_getF; rw [hf]; rfl
      | some t =>
        have hg : t_getF l n = some t.2 := by unfold t_getF; rw [hf]; rfl
        rw [hg] at h0'
        exact absurd h0' (h.tens t (List.mem_of_find?_eq_some hf)).2.1
    · rw [if_neg e]
  · rw [if_neg h0, t_get_put _ _ _ h.rises]
    by_cases e : w.name = n
    · rw [if_pos e, hn, e]
      rw [hn, e] at h0
      unfold ofF at h0 ⊢
      cases hf : t_getF l n with
      | none => rw [hf] at h0; exact absurd rfl h0
      | some t => rfl
    · rw [if_neg e]
theorem written_again {l : FL} {m : Nat} (h : Forest l) {w : Plc} (hw : writeE w = 0) (hs : Small m l) (hm : m < 60) (hg : getF (ofF l w.name) w.key = if w.gone = true then none else some w.value) : writtenL l w = l ∧ writtenE l w = 0 := by
  have hn : nextL l w = ofF l w.name := by
    have hr := (of_tree h w.name).rises
    unfold nextL
    by_cases hgo : w.gone = true
    · rw [if_pos hgo] at hg ⊢
      exact del_none _ _ hg
    · rw [if_neg hgo] at hg ⊢
      refine rises_ext _ _ (put_rises _ _ hr) hr fun k => ?_
      rw [get_put _ _ _ hr]
      by_cases e : w.key = k
      · rw [if_pos e, ← e, hg]
      · rw [if_neg e]
  have hl := written_same h w hn
  refine ⟨hl, ?_⟩
  rw [writtenE_small h hw hs hm, hl, if_neg (by have := h.room; omega)]
/-- The same writes again, to one place or to two tenants. -/
theorem apply_again {l : FL} {m : Nat} (h : Forest l) {a : Plc} (ha : writeE a = 0) (hs : Small m l) (hm : m + 1 < 60) (he : applyE l [a] = 0) : applyE (applyL l [a]) [a] = 0 ∧ applyL (applyL l [a]) [a] = applyL l [a] := by
  have e1 : writtenE l a = 0 := by rw [← (apply_one ha).1]; exact he
  have hf := written_forest h ha e1
  obtain ⟨g1, g2⟩ := written_again hf ha (small_written h.rises hs a) hm (by rw [get_written h, if_pos ⟨rfl, rfl⟩])
  rw [(apply_one ha).2, (apply_one ha).1, (apply_one ha).2]
  exact ⟨g2, g1⟩
theorem apply_again2 {l : FL} {m : Nat} (h : Forest l) {a b : Plc} (ha : writeE a = 0) (hb : writeE b = 0) (hs : Small m l) (hm : m + 2 < 60) (hne : b.name ≠ a.name) (he : applyE l [a, b] = 0) : applyE (applyL l [a, b]) [a, b] = 0 ∧ applyL (applyL l [a, b]) [a, b] = applyL l [a, b] := by
  have e0 := (apply_two (l := l) ha hb).1
  rw [he] at e0
  have e1 : writtenE l a = 0 := by
    by_cases e : writtenE l a = 0
    · exact e
    · rw [if_neg e] at e0; exact e0.symm
  rw [if_pos e1] at e0
  have hf := written_forest h ha e1
  have hf2 := written_forest hf hb e0.symm
  have hs2 := small_written hf.rises (small_written h.rises hs a) b
  have ga : getF (ofF (writtenL (writtenL l a) b) a.name) a.key = if a.gone = true then none else some a.value := by
    rw [get_written hf, if_neg (fun q => hne q.1), get_written h, if_pos ⟨rfl, rfl⟩]
  have gb : getF (ofF (writtenL (writtenL l a) b) b.name) b.key = if b.gone = true then none else some b.value := by
    rw [get_written hf, if_pos ⟨rfl, rfl⟩]
  obtain ⟨p1, p2⟩ := written_again hf2 ha hs2 (by omega) ga
  obtain ⟨q1, q2⟩ := written_again hf2 hb hs2 (by omega) gb
  rw [(apply_two ha hb).2, (apply_two ha hb).1, (apply_two ha hb).2, p1, if_pos p2]
  exact ⟨q2, q1⟩
/-- What a name has is not touched by a write to another one. -/
theorem written_apart {l : FL} (h : Forest l) (w : Plc) (n : List UInt8) (hne : w.name ≠ n) : ofF (writtenL l w) n = ofF l n := by
  rw [written_of h.rises, if_neg hne]
end Go.Proofs.Ytpmfbfflacbmjac

/-
  What forest.Get and Range answer, by the document. No program is named.
-/
namespace Go.Proofs.Ytpmfbfflacbmjac
/-- What tenants and a name are refused for. -/
def fnE (l : FL) (n : List UInt8) : Int := if forestE l = 0 then nameFaultF n.length else forestE l
theorem fnE_ok {l : FL} {n : List UInt8} (h : Forest l) (hn : 1 ≤ n.length ∧ n.length ≤ 8) : fnE l n = 0 := by
  rw [fnE, if_pos ((forest_iff l).2 h)]; exact (nameFault_iff _).2 hn
theorem fnE_forest {l : FL} {n : List UInt8} (h : fnE l n = 0) : Forest l ∧ (1 ≤ n.length ∧ n.length ≤ 8) := by
  unfold fnE at h
  by_cases h0 : forestE l = 0
  · rw [if_pos h0] at h; exact ⟨(forest_iff l).1 h0, (nameFault_iff _).1 h⟩
  · rw [if_neg h0] at h; exact absurd h h0
def fgetE (l : FL) (n k : List UInt8) : Int := if fnE l n = 0 then getE (ofF l n) k else fnE l n
def fgetB (l : FL) (n k : List UInt8) : Bool := if fnE l n = 0 then getB (ofF l n) k else false
def fgetV (l : FL) (n k : List UInt8) : List UInt8 := if fnE l n = 0 then getV (ofF l n) k else []
theorem fget_ok {l : FL} (h : Forest l) (n k : List UInt8) (hn : 1 ≤ n.length ∧ n.length ≤ 8) (hk : 1 ≤ k.length ∧ k.length ≤ 16) : fgetE l n k = 0 ∧ fgetB l n k = (getF (ofF l n) k).isSome ∧ fgetV l n k = (getF (ofF l n) k).getD [] := by
  have h0 := fnE_ok h hn
  have hE := getE_ok (of_tree h n) hk
  refine ⟨by rw [fgetE, if_pos h0, hE], by rw [fgetB, if_pos h0, getB, hE]; rfl, by rw [fgetV, if_pos h0, getV, if_pos hE]⟩
def frangeE (l : FL) (n f t : List UInt8) : Int := if fnE l n = 0 then rangeE (ofF l n) f t else fnE l n
def frangeF (l : FL) (n f t : List UInt8) : PL := if fnE l n = 0 then rangeF (ofF l n) f t else []
end Go.Proofs.Ytpmfbfflacbmjac

/-
  Ranges of a tenant's pairs, and eight tenants: what ForestRange and ForestFull rest on. No program is named.
-/
namespace Go.Proofs.Ytpmfbfflacbmjac
theorem frange_ok {l : FL} (h : Forest l) (n f t : List UInt8) (hn : 1 ≤ n.length ∧ n.length ≤ 8) (hf : 1 ≤ f.length ∧ f.length ≤ 16) (ht : 1 ≤ t.length ∧ t.length ≤ 16) : frangeE l n f t = 0 ∧ frangeF l n f t = rangeL (ofF l n) f t := by
  have h0 := fnE_ok h hn
  obtain ⟨e1, e2, _⟩ := rangeF_ok _ f t (of_tree h n) hf ht
  exact ⟨by rw [frangeE, if_pos h0, e1], by rw [frangeF, if_pos h0, e2]⟩
theorem frange_none {l : FL} (h : Forest l) (f t : List UInt8) : frangeE l [] f t = 1 ∧ frangeF l [] f t = [] := by
  have h0 : fnE l [] = 1 := by rw [fnE, if_pos ((forest_iff l).2 h)]; rfl
  exact ⟨by rw [frangeE, h0]; rfl, by rw [frangeF, h0]; rfl⟩
/-- What lies in a range is got, and lies between its ends. -/
theorem range_got {t : PL} (h : Tree t) (a b : List UInt8) (i : Nat) (hi : i < (rangeL t a b).length) :
    getF t ((rangeL t a b).getD i ([], [])).1 = some ((rangeL t a b).getD i ([], [])).2 ∧ klt ((rangeL t a b).getD i ([], [])).1 a = false ∧ klt b ((rangeL t a b).getD i ([], [])).1 = false ∧ (1 ≤ ((rangeL t a b).getD i ([], [])).1.length ∧ ((rangeL t a b).getD i ([], [])).1.length ≤ 16) := by
  have hm : (rangeL t a b).getD i ([], []) ∈ rangeL t a b := by
    generalize rangeL t a b = q at *; rw [show q.getD i ([], []) = q[i] by simp [hi]]; exact List.getElem_mem hi
  generalize (rangeL t a b).getD i ([], []) = p at *
  obtain ⟨h1, h2⟩ := List.mem_filter.1 hm
  simp only [Bool.and_eq_true, Bool.not_eq_true'] at h2
  refine ⟨?_, h2.1, h2.2, (h.pairs p h1).1⟩
  obtain ⟨j, hj, rfl⟩ := List.mem_iff_getElem.1 h1
  have e : t[j] = t.getD j ([], []) := by simp [hj]
  rw [e]
  exact get_at t _ j hj (fun m hm e2 => by
    have := rises_step t h.rises m j hm hj
    rw [e2, klt_irrefl] at this; cases this) rfl
/-- A key that is there comes first in its range. -/
theorem range_first : ∀ {t : PL} (_ : Rises t) (a b : List UInt8) (_ : (getF t a).isSome = true) (_ : klt b a = false), 0 < (rangeL t a b).length ∧ ((rangeL t a b).getD 0 ([], [])).1 = a
  | [], _, a, b, hg, _ => by simp [getF] at hg
  | p :: t, h, a, b, hg, hb => by
    have hp := List.pairwise_cons.1 h
    rw [get_cons] at hg
    by_cases e : p.1 = a
    · have : rangeL (p :: t) a b = p :: rangeL t a b := by
        unfold rangeL
        rw [List.filter_cons_of_pos (by simp [e, hb, klt_irrefl])]
      rw [this]
      exact ⟨by simp, by simpa using e⟩
    · rw [if_neg e] at hg
      have hlt : klt p.1 a = true := by
        unfold getF at hg
        cases hf : t.find? (fun q => q.1 == a) with
        | none => rw [hf] at hg; cases hg
        | some q =>
          have hq := hp.1 q (List.mem_of_find?_eq_some hf)
          have := List.find?_some hf
          rw [show q.1 = a by simpa using this] at hq
          exact hq
      have : rangeL (p :: t) a b = rangeL t a b := by
        unfold rangeL
        rw [List.filter_cons_of_neg (by simp [hlt])]
      rw [this]
      exact range_first hp.2 a b hg hb
/-- Eight tenants with a pair each. -/
def eightF : FL := (List.range 8).map fun i => ([UInt8.ofNat (i + 1)], [([1], [])])
def eightN (m : Nat) : FL := (List.range m).map fun i => ([UInt8.ofNat (i + 1)], [([1], [])])
theorem eightN_succ (m : Nat) : eightN (m + 1) = eightN m ++ [([UInt8.ofNat (m + 1)], [([1], [])])] := by
  rw [eightN, List.range_succ, List.map_append]; rfl
theorem eightN_len (m : Nat) : (eightN m).length = m := by simp [eightN]
/-- The write of ForestFull. -/
def fullW (k : Nat) : Plc := ⟨[UInt8.ofNat k], [2], [], false⟩
theorem eight_ok : forestE (eightN 8) = 0 := by decide +kernel
theorem full_in : ∀ k, k < 256 → 1 ≤ k → k ≤ 8 → appliedE (eightN 8) [fullW k] = 0 ∧ (appliedF (eightN 8) [fullW k]).length = 8 ∧ ((appliedF (eightN 8) [fullW k]).getD (k - 1) ([], [])).2.length = 2 := by decide +kernel
theorem full_out : ∀ k, k < 256 → ¬ (1 ≤ k ∧ k ≤ 8) → appliedE (eightN 8) [fullW k] = 11 ∧ appliedF (eightN 8) [fullW k] = [] := by decide +kernel
end Go.Proofs.Ytpmfbfflacbmjac

/-
  One write upon no tenants, with no program: refused is what the write alone is refused for.
-/
namespace Go.Proofs.Ytpmfbfflacbmjac
open Go.RowKit
theorem applied_one0 (p : Plc) : appliedE [] [p] = writeE p := by
  have h0 : forestE [] = 0 := (forest_iff []).2 forest_nil
  rw [appliedE, if_pos h0, if_neg (by simp), applyE]
  by_cases h : writeE p = 0
  · have h2 := writtenE_small forest_nil h small_nil (by omega)
    have h3 : (writtenL [] p).length ≤ 1 := written_len [] p
    rw [if_neg (by omega)] at h2
    rw [if_pos h, if_pos h2, applyE, h]
  · rw [if_neg h]
end Go.Proofs.Ytpmfbfflacbmjac

/-
  What path.Check must keep.
-/
namespace Go.Proofs.Ytpmfbfflacbmjac
open Go.RowKit
/-- path.Check keeps P2.1. -/
def CheckOK : Prop := ∀ (w : World) (a : Option Addr) (n cap : Nat), Calls Try.prog 59 #[.slice a n cap] w fun e w' => e = .returned (.int .i64 (keyFaultF n)) ∧ w.grownBy w' none
end Go.Proofs.Ytpmfbfflacbmjac

/-
  The place of a key among pairs that rise, and what Get, Put, Delete and Range are by it. No program is named.
-/
namespace Go.Proofs.Ytpmfbfflacbmjac
/-- How many pairs stand ahead of a key. -/
def posF (l : PL) (k : List UInt8) : Nat := (l.takeWhile fun p => klt p.1 k).length
/-- Has a pair the key? -/
def hasF (l : PL) (k : List UInt8) : Bool := decide (posF l k < l.length ∧ (l.getD (posF l k) ([], [])).1 = k)
/-- How many do not stand behind it. -/
def nextF (l : PL) (k : List UInt8) : Nat := if hasF l k = true then posF l k + 1 else posF l k
theorem pos_le (l : PL) (k : List UInt8) : posF l k ≤ l.length := by
  induction l with
  | nil => simp [posF]
  | cons p r ih =>
    unfold posF at ih ⊢
    rw [List.takeWhile_cons]
    cases h : klt p.1 k with
    | true => simpa using ih
    | false => simp
theorem pos_at : ∀ (l : PL) (k : List UInt8) (i : Nat), i ≤ l.length → (∀ j, j < i → klt (l.getD j ([], [])).1 k = true) → (i < l.length → klt (l.getD i ([], [])).1 k = false) → posF l k = i
  | [], k, i, h, _, _ => by
    obtain rfl : i = 0 := by simpa using h
    rfl
  | p :: r, k, 0, _, _, h2 => by
    have := h2 (by simp)
    simp only [List.getD_cons_zero] at this
    simp [posF, this]
  | p :: r, k, i + 1, h, h1, h2 => by
    have h0 := h1 0 (by omega)
    simp only [List.getD_cons_zero] at h0
    have := pos_at r k i (by simpa using h) (fun j hj => by simpa using h1 (j + 1) (by omega)) (fun hi => by simpa using h2 (by simpa using hi))
    unfold posF at this ⊢
    rw [List.takeWhile_cons_of_pos (p := fun p : Pr => klt p.1 k) h0]
    simpa using this
theorem pos_lt : ∀ (l : PL) (k : List UInt8) (j : Nat), j < posF l k → klt (l.getD j ([], [])).1 k = true
  | [], k, j, h => by simp [posF] at h
  | p :: r, k, j, h => by
    cases hk : klt p.1 k with
    | false => simp [posF, hk] at h
    | true =>
      cases j with
      | zero => simpa using hk
      | succ j =>
        unfold posF at h
        rw [List.takeWhile_cons_of_pos (p := fun p : Pr => klt p.1 k) hk] at h
        have := pos_lt r k j (by unfold posF; simpa using h)
        simpa using this
theorem pos_not : ∀ (l : PL) (k : List UInt8), posF l k < l.length → klt (l.getD (posF l k) ([], [])).1 k = false
  | [], k, h => by simp at h
  | p :: r, k, h => by
    cases hk : klt p.1 k with
    | false => simp [posF, hk]
    | true =>
      have e : posF (p :: r) k = posF r k + 1 := by unfold posF; rw [List.takeWhile_cons_of_pos (p := fun p : Pr => klt p.1 k) hk]; simp
      rw [e] at h ⊢
      have := pos_not r k (by simpa using h)
      simpa using this
theorem klt_pos (l : PL) (k : List UInt8) (hr : Rises l) (j : Nat) (hj : j < l.length) : klt (l.getD j ([], [])).1 k = decide (j < posF l k) := by
  by_cases h : j < posF l k
  · rw [decide_eq_true h]; exact pos_lt l k j h
  · rw [decide_eq_false h]
    have h0 := pos_not l k (by omega)
    by_cases e : j = posF l k
    · rw [e]; exact h0
    · cases hk : klt (l.getD j ([], [])).1 k with
      | false => rfl
      | true =>
        have := klt_trans _ _ _ (rises_step l hr (posF l k) j (by omega) hj) hk
        rw [this] at h0; cases h0
theorem has_pos {l : PL} {k : List UInt8} (h : hasF l k = true) : posF l k < l.length ∧ (l.getD (posF l k) ([], [])).1 = k := by
  simpa only [hasF, decide_eq_true_eq] using h
theorem next_le (l : PL) (k : List UInt8) : posF l k ≤ nextF l k ∧ nextF l k ≤ l.length ∧ nextF l k ≤ posF l k + 1 := by
  have := pos_le l k
  unfold nextF
  by_cases h : hasF l k = true
  · rw [if_pos h]; have := (has_pos h).1; omega
  · rw [if_neg h]; omega
theorem key_pos (l : PL) (k : List UInt8) (hr : Rises l) (j : Nat) (hj : j < l.length) (he : (l.getD j ([], [])).1 = k) : hasF l k = true ∧ j = posF l k := by
  have hp : posF l k = j := by
    refine pos_at l k j (by omega) (fun i hi => ?_) (fun _ => ?_)
    · rw [← he]; exact rises_step l hr i j hi hj
    · rw [he]; exact klt_irrefl k
  refine ⟨?_, hp.symm⟩
  rw [hasF, hp]
  exact decide_eq_true ⟨hj, he⟩
theorem get_pos (l : PL) (k : List UInt8) (hr : Rises l) : getF l k = if hasF l k = true then some (l.getD (posF l k) ([], [])).2 else none := by
  by_cases h : hasF l k = true
  · rw [if_pos h]
    obtain ⟨h1, h2⟩ := has_pos h
    refine get_at l k _ h1 (fun j hj e => ?_) h2
    have := pos_lt l k j hj
    rw [e, klt_irrefl] at this; cases this
  · rw [if_neg h]
    exact get_none l k fun j hj e => h (key_pos l k hr j hj e).1
theorem put_next (l : PL) (p : Pr) : putL l p = l.take (posF l p.1) ++ ([p] ++ l.drop (nextF l p.1)) := by
  rw [put_pos l p (posF l p.1) (pos_le l p.1) (fun j hj => pos_lt l p.1 j hj) (pos_not l p.1)]
  by_cases h : posF l p.1 < l.length ∧ (l.getD (posF l p.1) ([], [])).1 = p.1
  · rw [if_pos h, nextF, if_pos (by rw [hasF]; exact decide_eq_true h), List.set_eq_take_append_cons_drop, if_pos h.1]
    rfl
  · rw [if_neg h, nextF, if_neg (by rw [hasF]; simpa using h)]
theorem put_many (l : PL) (p : Pr) : (putL l p).length = posF l p.1 + 1 + (l.length - nextF l p.1) := by
  rw [put_next]
  have h1 := pos_le l p.1
  simp
  omega
theorem put_room (l : PL) (p : Pr) (hl : l.length ≤ 60) : (60 < (putL l p).length) ↔ (posF l p.1 = nextF l p.1 ∧ l.length = 60) := by
  rw [put_many]
  have := next_le l p.1
  omega
theorem filter_drop (l : PL) (f : Pr → Bool) (n : Nat) (hn : n ≤ l.length) (h1 : ∀ j, j < n → f (l.getD j ([], [])) = false) (h2 : ∀ j, n ≤ j → j < l.length → f (l.getD j ([], [])) = true) : l.filter f = l.drop n := by
  have e : l = l.take n ++ l.drop n := (List.take_append_drop n l).symm
  have ha : (l.take n).filter f = [] := by
    rw [List.filter_eq_nil_iff]
    intro q hq
    obtain ⟨j, hj, rfl⟩ := List.mem_iff_getElem.1 hq
    have hjn : j < n := by simp at hj; omega
    have := h1 j hjn
    rw [List.getElem_take]
    rw [show l[j]'(by omega) = l.getD j ([], []) by simp [show j < l.length by omega], this]
    simp
  have hb : (l.drop n).filter f = l.drop n := by
    rw [List.filter_eq_self]
    intro q hq
    obtain ⟨j, hj, rfl⟩ := List.mem_iff_getElem.1 hq
    have hjn : n + j < l.length := by simp at hj; omega
    rw [List.getElem_drop, show l[n + j] = l.getD (n + j) ([], []) by simp [hjn]]
    exact h2 _ (by omega) hjn
  conv => lhs; rw [e]
  rw [List.filter_append, ha, hb, List.nil_append]
theorem filter_take (l : PL) (f : Pr → Bool) (n : Nat) (hn : n ≤ l.length) (h1 : ∀ j, j < n → f (l.getD j ([], [])) = true) (h2 : ∀ j, n ≤ j → j < l.length → f (l.getD j ([], [])) = false) : l.filter f = l.take n := by
  have e : l = l.take n ++ l.drop n := (List.take_append_drop n l).symm
  have hb : (l.drop n).filter f = [] := by
    rw [List.filter_eq_nil_iff]
    intro q hq
    obtain ⟨j, hj, rfl⟩ := List.mem_iff_getElem.1 hq
    have hjn : n + j < l.length := by simp at hj; omega
    rw [List.getElem_drop, show l[n + j] = l.getD (n + j) ([], []) by simp [hjn], h2 _ (by omega) hjn]
    simp
  have ha : (l.take n).filter f = l.take n := by
    rw [List.filter_eq_self]
    intro q hq
    obtain ⟨j, hj, rfl⟩ := List.mem_iff_getElem.1 hq
    have hjn : j < n := by simp at hj; omega
    rw [List.getElem_take, show l[j]'(by omega) = l.getD j ([], []) by simp [show j < l.length by omega]]
    exact h1 j hjn
  conv => lhs; rw [e]
  rw [List.filter_append, ha, hb, List.append_nil]
theorem del_next (l : PL) (k : List UInt8) (hr : Rises l) : delL l k = l.take (posF l k) ++ l.drop (nextF l k) := by
  by_cases h : hasF l k = true
  · obtain ⟨h1, h2⟩ := has_pos h
    have e : l = l.take (posF l k) ++ (l.getD (posF l k) ([], []) :: l.drop (posF l k + 1)) := by
      conv => lhs; rw [← List.take_append_drop (posF l k) l, List.drop_eq_getElem_cons h1]
      simp [h1]
    have hne : ∀ j, j < l.length → j ≠ posF l k → (l.getD j ([], [])).1 ≠ k := fun j hj hn e => hn (key_pos l k hr j hj e).2
    have ha : (l.take (posF l k)).filter (fun q => !(q.1 == k)) = l.take (posF l k) := by
      rw [List.filter_eq_self]
      intro q hq
      obtain ⟨j, hj, rfl⟩ := List.mem_iff_getElem.1 hq
      have hjn : j < posF l k := by simp at hj; omega
      rw [List.getElem_take, show l[j]'(by omega) = l.getD j ([], []) by simp [show j < l.length by omega]]
      simpa using hne j (by omega) (by omega)
    have hb : (l.drop (posF l k + 1)).filter (fun q => !(q.1 == k)) = l.drop (posF l k + 1) := by
      rw [List.filter_eq_self]
      intro q hq
      obtain ⟨j, hj, rfl⟩ := List.mem_iff_getElem.1 hq
      have hjn : posF l k + 1 + j < l.length := by simp at hj; omega
      rw [List.getElem_drop, show l[posF l k + 1 + j] = l.getD (posF l k + 1 + j) ([], []) by simp [hjn]]
      simpa using hne _ hjn (by omega)
    rw [nextF, if_pos h, delL]
    conv => lhs; rw [e]
    rw [List.filter_append, List.filter_cons_of_neg (by simpa using h2), ha, hb]
  · rw [nextF, if_neg h, List.take_append_drop, delL, List.filter_eq_self]
    intro q hq
    obtain ⟨j, hj, rfl⟩ := List.mem_iff_getElem.1 hq
    have := fun e => h (key_pos l k hr j hj e).1
    rw [show l.getD j ([], []) = l[j] by simp [hj]] at this
    simpa using this
theorem behind_next (l : PL) (k : List UInt8) (hr : Rises l) (j : Nat) (hj : j < l.length) : klt k (l.getD j ([], [])).1 = decide (nextF l k ≤ j) := by
  have hp := klt_pos l k hr j hj
  have hn := next_le l k
  by_cases h1 : j < posF l k
  · rw [decide_eq_true h1] at hp
    rw [klt_asymm _ _ hp, decide_eq_false (by omega)]
  · rw [decide_eq_false h1] at hp
    by_cases e : (l.getD j ([], [])).1 = k
    · obtain ⟨h2, h3⟩ := key_pos l k hr j hj e
      rw [e, klt_irrefl, nextF, if_pos h2, decide_eq_false (by omega)]
    · rw [klt_total _ _ hp e]
      by_cases h : hasF l k = true
      · rw [nextF, if_pos h, decide_eq_true (by
          by_cases hjp : j = posF l k
          · exact absurd (by rw [hjp]; exact (has_pos h).2) e
          · omega)]
      · rw [nextF, if_neg h, decide_eq_true (by omega)]
theorem range_next (l : PL) (f t : List UInt8) (hr : Rises l) : rangeL l f t = (l.take (max (posF l f) (nextF l t))).drop (posF l f) := by
  have h1 := pos_le l f
  have h2 := next_le l t
  have e : rangeL l f t = (l.filter fun q => !klt t q.1).filter fun q => !klt q.1 f := by
    rw [rangeL, List.filter_filter]
  rw [e, filter_take l _ (nextF l t) h2.2.1 (fun j hj => by rw [behind_next l t hr j (by omega), decide_eq_false (by omega)]; rfl) (fun j hj hjl => by rw [behind_next l t hr j hjl, decide_eq_true hj]; rfl)]
  have hd : ∀ (n : Nat), n ≤ l.length → (l.take n).filter (fun q => !klt q.1 f) = (l.take n).drop (posF l f) := by
    intro n hn
    by_cases hc : posF l f ≤ n
    · refine filter_drop _ _ _ (by simp; omega) (fun j hj => ?_) (fun j hj hjl => ?_)
      · have : (l.take n).getD j ([], []) = l.getD j ([], []) := by simp [show j < n by omega]
        rw [this, klt_pos l f hr j (by omega), decide_eq_true hj]; rfl
      · have hjn : j < n := by simp at hjl; omega
        have : (l.take n).getD j ([], []) = l.getD j ([], []) := by simp [hjn]
        rw [this, klt_pos l f hr j (by omega), decide_eq_false (by omega)]; rfl
    · rw [List.drop_eq_nil_of_le (by simp; omega), List.filter_eq_nil_iff]
      intro q hq
      obtain ⟨j, hj, rfl⟩ := List.mem_iff_getElem.1 hq
      have hjn : j < n := by simp at hj; omega
      rw [List.getElem_take, show l[j]'(by omega) = l.getD j ([], []) by simp [show j < l.length by omega], klt_pos l f hr j (by omega), decide_eq_true (by omega)]
      simp
  rw [hd _ h2.2.1]
  by_cases hc : posF l f ≤ nextF l t
  · rw [Nat.max_eq_right hc]
  · rw [Nat.max_eq_left (by omega), List.drop_eq_nil_of_le (by simp; omega), List.drop_eq_nil_of_le (by simp; omega)]
end Go.Proofs.Ytpmfbfflacbmjac

/-
  The place of a name among tenants whose names rise. No program is named.
-/
namespace Go.Proofs.Ytpmfbfflacbmjac
/-- Put, by the place where it comes to stand. -/
theorem t_put_pos : ∀ (t : FL) (p : Tn) (k : Nat), k ≤ t.length → (∀ j, j < k → klt (t.getD j ([], [])).1 p.1 = true) → (k < t.length → klt (t.getD k ([], [])).1 p.1 = false) →
    t_putL t p = if k < t.length ∧ (t.getD k ([], [])).1 = p.1 then t.set k p else t.take k ++ ([p] ++ t.drop k)
  | [], p, k, hk, _, _ => by
    obtain rfl : k = 0 := by simpa using hk
    simp [t_putL]
  | q :: r, p, 0, _, _, h2 => by
    have h := h2 (by simp)
    simp only [List.getD_cons_zero] at h
    rw [t_putL, if_neg (by rw [h]; simp)]
    by_cases e : q.1 = p.1
    · rw [if_pos e, if_pos ⟨by simp, by simpa using e⟩]; simp
    · rw [if_neg e, if_neg (fun h => e (by simpa using h.2))]; simp
  | q :: r, p, k + 1, hk, h1, h2 => by
    have h := h1 0 (by omega)
    simp only [List.getD_cons_zero] at h
    rw [t_putL, if_pos h, t_put_pos r p k (by simpa using hk) (fun j hj => by simpa using h1 (j + 1) (by omega)) (fun hk => by simpa using h2 (by simpa using hk))]
    by_cases e : k < r.length ∧ (r.getD k ([], [])).1 = p.1
    · rw [if_pos e, if_pos ⟨by simpa using e.1, by simpa using e.2⟩]; simp
    · rw [if_neg e, if_neg (fun h => e ⟨by simpa using h.1, by simpa using h.2⟩)]; simp
/-- How many pairs stand ahead of a key. -/
def t_posF (l : FL) (k : List UInt8) : Nat := (l.takeWhile fun p => klt p.1 k).length
/-- Has a pair the key? -/
def t_hasF (l : FL) (k : List UInt8) : Bool := decide (t_posF l k < l.length ∧ (l.getD (t_posF l k) ([], [])).1 = k)
/-- How many do not stand behind it. -/
def t_nextF (l : FL) (k : List UInt8) : Nat := if t_hasF l k = true then t_posF l k + 1 else t_posF l k
theorem t_pos_le (l : FL) (k : List UInt8) : t_posF l k ≤ l.length := by
  induction l with
  | nil => simp [t_posF]
  | cons p r ih =>
    unfold t_posF at ih ⊢
    rw [List.takeWhile_cons]
    cases h : klt p.1 k with
    | true => simpa using ih
    | false => simp
theorem t_pos_at : ∀ (l : FL) (k : List UInt8) (i : Nat), i ≤ l.length → (∀ j, j < i → klt (l.getD j ([], [])).1 k = true) → (i < l.length → klt (l.getD i ([], [])).1 k = false) → t_posF l k = i
  | [], k, i, h, _, _ => by
    obtain rfl : i = 0 := by simpa using h
    rfl
  | p :: r, k, 0, _, _, h2 => by
    have := h2 (by simp)
    simp only [List.getD_cons_zero] at this
    simp [t_posF, this]
  | p :: r, k, i + 1, h, h1, h2 => by
    have h0 := h1 0 (by omega)
    simp only [List.getD_cons_zero] at h0
    have := t_pos_at r k i (by simpa using h) (fun j hj => by simpa using h1 (j + 1) (by omega)) (fun hi => by simpa using h2 (by simpa using hi))
    unfold t_posF at this ⊢
    rw [List.takeWhile_cons_of_pos (p := fun p : Tn => klt p.1 k) h0]
    simpa using this
theorem t_pos_lt : ∀ (l : FL) (k : List UInt8) (j : Nat), j < t_posF l k → klt (l.getD j ([], [])).1 k = true
  | [], k, j, h => by simp [t_posF] at h
  | p :: r, k, j, h => by
    cases hk : klt p.1 k with
    | false => simp [t_posF, hk] at h
    | true =>
      cases j with
      | zero => simpa using hk
      | succ j =>
        unfold t_posF at h
        rw [List.takeWhile_cons_of_pos (p := fun p : Tn => klt p.1 k) hk] at h
        have := t_pos_lt r k j (by unfold t_posF; simpa using h)
        simpa using this
theorem t_pos_not : ∀ (l : FL) (k : List UInt8), t_posF l k < l.length → klt (l.getD (t_posF l k) ([], [])).1 k = false
  | [], k, h => by simp at h
  | p :: r, k, h => by
    cases hk : klt p.1 k with
    | false => simp [t_posF, hk]
    | true =>
      have e : t_posF (p :: r) k = t_posF r k + 1 := by unfold t_posF; rw [List.takeWhile_cons_of_pos (p := fun p : Tn => klt p.1 k) hk]; simp
      rw [e] at h ⊢
      have := t_pos_not r k (by simpa using h)
      simpa using this
theorem t_klt_pos (l : FL) (k : List UInt8) (hr : t_Rises l) (j : Nat) (hj : j < l.length) : klt (l.getD j ([], [])).1 k = decide (j < t_posF l k) := by
  by_cases h : j < t_posF l k
  · rw [decide_eq_true h]; exact t_pos_lt l k j h
  · rw [decide_eq_false h]
    have h0 := t_pos_not l k (by omega)
    by_cases e : j = t_posF l k
    · rw [e]; exact h0
    · cases hk : klt (l.getD j ([], [])).1 k with
      | false => rfl
      | true =>
        have := klt_trans _ _ _ (t_rises_step l hr (t_posF l k) j (by omega) hj) hk
        rw [this] at h0; cases h0
theorem t_has_pos {l : FL} {k : List UInt8} (h : t_hasF l k = true) : t_posF l k < l.length ∧ (l.getD (t_posF l k) ([], [])).1 = k := by
  simpa only [t_hasF, decide_eq_true_eq] using h
theorem t_next_le (l : FL) (k : List UInt8) : t_posF l k ≤ t_nextF l k ∧ t_nextF l k ≤ l.length ∧ t_nextF l k ≤ t_posF l k + 1 := by
  have := t_pos_le l k
  unfold t_nextF
  by_cases h : t_hasF l k = true
  · rw [if_pos h]; have := (t_has_pos h).1; omega
  · rw [if_neg h]; omega
theorem t_key_pos (l : FL) (k : List UInt8) (hr : t_Rises l) (j : Nat) (hj : j < l.length) (he : (l.getD j ([], [])).1 = k) : t_hasF l k = true ∧ j = t_posF l k := by
  have hp : t_posF l k = j := by
    refine t_pos_at l k j (by omega) (fun i hi => ?_) (fun _ => ?_)
    · rw [← he]; exact t_rises_step l hr i j hi hj
    · rw [he]; exact klt_irrefl k
  refine ⟨?_, hp.symm⟩
  rw [t_hasF, hp]
  exact decide_eq_true ⟨hj, he⟩
theorem t_get_pos (l : FL) (k : List UInt8) (hr : t_Rises l) : t_getF l k = if t_hasF l k = true then some (l.getD (t_posF l k) ([], [])).2 else none := by
  by_cases h : t_hasF l k = true
  · rw [if_pos h]
    obtain ⟨h1, h2⟩ := t_has_pos h
    refine t_get_at l k _ h1 (fun j hj e => ?_) h2
    have := t_pos_lt l k j hj
    rw [e, klt_irrefl] at this; cases this
  · rw [if_neg h]
    exact t_get_none l k fun j hj e => h (t_key_pos l k hr j hj e).1
theorem t_put_next (l : FL) (p : Tn) : t_putL l p = l.take (t_posF l p.1) ++ ([p] ++ l.drop (t_nextF l p.1)) := by
  rw [t_put_pos l p (t_posF l p.1) (t_pos_le l p.1) (fun j hj => t_pos_lt l p.1 j hj) (t_pos_not l p.1)]
  by_cases h : t_posF l p.1 < l.length ∧ (l.getD (t_posF l p.1) ([], [])).1 = p.1
  · rw [if_pos h, t_nextF, if_pos (by rw [t_hasF]; exact decide_eq_true h), List.set_eq_take_append_cons_drop, if_pos h.1]
    rfl
  · rw [if_neg h, t_nextF, if_neg (by rw [t_hasF]; simpa using h)]
theorem t_put_many (l : FL) (p : Tn) : (t_putL l p).length = t_posF l p.1 + 1 + (l.length - t_nextF l p.1) := by
  rw [t_put_next]
  have h1 := t_pos_le l p.1
  simp
  omega
theorem t_put_room (l : FL) (p : Tn) (hl : l.length ≤ 8) : (8 < (t_putL l p).length) ↔ (t_posF l p.1 = t_nextF l p.1 ∧ l.length = 8) := by
  rw [t_put_many]
  have := t_next_le l p.1
  omega
theorem t_del_next (l : FL) (k : List UInt8) (hr : t_Rises l) : t_delL l k = l.take (t_posF l k) ++ l.drop (t_nextF l k) := by
  by_cases h : t_hasF l k = true
  · obtain ⟨h1, h2⟩ := t_has_pos h
    have e : l = l.take (t_posF l k) ++ (l.getD (t_posF l k) ([], []) :: l.drop (t_posF l k + 1)) := by
      conv => lhs; rw [← List.take_append_drop (t_posF l k) l, List.drop_eq_getElem_cons h1]
      simp [h1]
    have hne : ∀ j, j < l.length → j ≠ t_posF l k → (l.getD j ([], [])).1 ≠ k := fun j hj hn e => hn (t_key_pos l k hr j hj e).2
    have ha : (l.take (t_posF l k)).filter (fun q => !(q.1 == k)) = l.take (t_posF l k) := by
      rw [List.filter_eq_self]
      intro q hq
      obtain ⟨j, hj, rfl⟩ := List.mem_iff_getElem.1 hq
      have hjn : j < t_posF l k := by simp at hj; omega
      rw [List.getElem_take, show l[j]'(by omega) = l.getD j ([], []) by simp [show j < l.length by omega]]
      simpa using hne j (by omega) (by omega)
    have hb : (l.drop (t_posF l k + 1)).filter (fun q => !(q.1 == k)) = l.drop (t_posF l k + 1) := by
      rw [List.filter_eq_self]
      intro q hq
      obtain ⟨j, hj, rfl⟩ := List.mem_iff_getElem.1 hq
      have hjn : t_posF l k + 1 + j < l.length := by simp at hj; omega
      rw [List.getElem_drop, show l[t_posF l k + 1 + j] = l.getD (t_posF l k + 1 + j) ([], []) by simp [hjn]]
      simpa using hne _ hjn (by omega)
    rw [t_nextF, if_pos h, t_delL]
    conv => lhs; rw [e]
    rw [List.filter_append, List.filter_cons_of_neg (by simpa using h2), ha, hb]
  · rw [t_nextF, if_neg h, List.take_append_drop, t_delL, List.filter_eq_self]
    intro q hq
    obtain ⟨j, hj, rfl⟩ := List.mem_iff_getElem.1 hq
    have := fun e => h (t_key_pos l k hr j hj e).1
    rw [show l.getD j ([], []) = l[j] by simp [hj]] at this
    simpa using this
/-- What a name has, by its place. -/
theorem of_pos (l : FL) (k : List UInt8) (hr : t_Rises l) : ofF l k = if t_hasF l k = true then (l.getD (t_posF l k) ([], [])).2 else [] := by
  unfold ofF
  rw [t_get_pos l k hr]
  by_cases h : t_hasF l k = true
  · rw [if_pos h, if_pos h]; rfl
  · rw [if_neg h, if_neg h]; rfl
/-- The tenants from a name's place on to the next: one, or none. -/
theorem of_piece (l : FL) (k : List UInt8) (hr : t_Rises l) : ((l.take (t_nextF l k)).drop (t_posF l k) = [] ∧ ofF l k = [] ∧ t_nextF l k = t_posF l k) ∨ (∃ t, (l.take (t_nextF l k)).drop (t_posF l k) = [t] ∧ ofF l k = t.2 ∧ t_nextF l k = t_posF l k + 1) := by
  rw [of_pos l k hr]
  by_cases h : t_hasF l k = true
  · right
    obtain ⟨h1, h2⟩ := t_has_pos h
    refine ⟨l.getD (t_posF l k) ([], []), ?_, by rw [if_pos h], by rw [t_nextF, if_pos h]⟩
    rw [t_nextF, if_pos h, List.take_succ_eq_append_getElem h1, List.drop_append_of_le_length (by simp; omega), List.drop_eq_nil_of_le (by simp; omega), List.nil_append]
    simp [h1]
  · left
    refine ⟨?_, by rw [if_neg h], by rw [t_nextF, if_neg h]⟩
    rw [t_nextF, if_neg h, List.drop_eq_nil_of_le (by simp; omega)]
end Go.Proofs.Ytpmfbfflacbmjac

/-
  What forest.Name must keep.
-/
namespace Go.Proofs.Ytpmfbfflacbmjac
/-- forest.Name keeps P5.1. -/
def FNameOK : Prop := ∀ (w : World) (a : Option Addr) (n cap : Nat), Calls Try.prog 55 #[.slice a n cap] w fun e w' => e = .returned (.int .i64 (nameFaultF n)) ∧ w.grownBy w' none
end Go.Proofs.Ytpmfbfflacbmjac
