/-
  Tenants, as the document has them: what is wrong with them, what a name has, what a write makes of them. No program is named.
-/
import Derived.Test.YtghjikifflpeiabDoorFitsF
import Derived.Test.YtghjikifflpeiabDoorPlaceM
namespace Go.Proofs.YtghjikifflpeiabDoor
abbrev Tn := List UInt8 × PL
abbrev FL := List Tn
/-- Pairs that rise. -/
def t_Rises (l : FL) : Prop := l.Pairwise fun p q => klt p.1 q.1 = true
/-- What is got. -/
def t_getF (l : FL) (k : List UInt8) : Option PL := (l.find? fun p => p.1 == k).map (·.2)
theorem t_get_nil (k : List UInt8) : t_getF [] k = none := rfl
theorem t_get_cons (p : Tn) (l : FL) (k : List UInt8) : t_getF (p :: l) k = if p.1 = k then some p.2 else t_getF l k := by
  unfold t_getF
  by_cases h : p.1 = k
  · rw [List.find?_cons_of_pos (by simpa using h), if_pos h]; rfl
  · rw [List.find?_cons_of_neg (by simpa using h), if_neg h]
theorem t_get_at : ∀ (l : FL) (k : List UInt8) (i : Nat), i < l.length → (∀ j, j < i → (l.getD j ([], [])).1 ≠ k) → (l.getD i ([], [])).1 = k → t_getF l k = some (l.getD i ([], [])).2
  | [], _, _, h, _, _ => by simp at h
  | p :: l, k, 0, _, _, h2 => by rw [t_get_cons, if_pos (by simpa using h2)]; simp
  | p :: l, k, i + 1, h, h1, h2 => by
    rw [t_get_cons, if_neg (by simpa using h1 0 (by omega))]
    have := t_get_at l k i (by simpa using h) (fun j hj => by simpa using h1 (j + 1) (by omega)) (by simpa using h2)
    simpa using this
theorem t_get_none : ∀ (l : FL) (k : List UInt8), (∀ j, j < l.length → (l.getD j ([], [])).1 ≠ k) → t_getF l k = none
  | [], _, _ => rfl
  | p :: l, k, h => by
    rw [t_get_cons, if_neg (by simpa using h 0 (by simp))]
    exact t_get_none l k fun j hj => by simpa using h (j + 1) (by simpa using hj)
/-- The pairs with a pair. -/
def t_putL : FL → Tn → FL
  | [], p => [p]
  | q :: r, p => if klt q.1 p.1 = true then q :: t_putL r p else if q.1 = p.1 then p :: r else p :: q :: r
/-- One pair more, as the document goes. -/
def t_putStep (p : Tn) (s : FL × Bool) (q : Tn) : FL × Bool :=
  let s1 : FL × Bool := if s.2 = false ∧ klt q.1 p.1 = false then (s.1 ++ [p], true) else s
  if q.1 = p.1 then s1 else (s1.1 ++ [q], s1.2)
def t_putEnd (p : Tn) (s : FL × Bool) : FL := if s.2 = false then s.1 ++ [p] else s.1
theorem t_put_done (p : Tn) (l : FL) : ∀ out : FL, (∀ q ∈ l, q.1 ≠ p.1) → l.foldl (t_putStep p) (out, true) = (out ++ l, true) := by
  induction l with
  | nil => intro out _; simp
  | cons q r ih =>
    intro out h
    rw [List.foldl_cons, show t_putStep p (out, true) q = (out ++ [q], true) from ?_, ih _ fun x hx => h x (List.mem_cons_of_mem _ hx)]
    · simp
    · simp [t_putStep, h q (by simp)]
theorem t_put_fold (p : Tn) (l : FL) (h : t_Rises l) : ∀ out : FL, t_putEnd p (l.foldl (t_putStep p) (out, false)) = out ++ t_putL l p := by
  induction l with
  | nil => intro out; simp [t_putEnd, t_putL]
  | cons q r ih =>
    intro out
    have hr := (List.pairwise_cons.1 h)
    rw [List.foldl_cons, t_putL]
    by_cases h1 : klt q.1 p.1 = true
    · rw [if_pos h1, show t_putStep p (out, false) q = (out ++ [q], false) from ?_, ih hr.2]
      · simp
      · have := klt_ne h1
        simp [t_putStep, this, h1]
    · have h1' : klt q.1 p.1 = false := by simpa using h1
      rw [if_neg h1]
      by_cases h2 : q.1 = p.1
      · have hne : ∀ x ∈ r, x.1 ≠ p.1 := fun x hx e => by have := hr.1 x hx; rw [h2, e, klt_irrefl] at this; cases this
        rw [if_pos h2, show t_putStep p (out, false) q = (out ++ [p], true) from ?_, t_put_done p r _ hne]
        · simp [t_putEnd]
        · simp [t_putStep, h2, klt_irrefl]
      · have hpq := klt_total _ _ h1' h2
        have hne : ∀ x ∈ r, x.1 ≠ p.1 := fun x hx e => by
          have := hr.1 x hx
          rw [e] at this
          rw [this] at h1'; cases h1'
        rw [if_neg h2, show t_putStep p (out, false) q = (out ++ [p] ++ [q], true) from ?_, t_put_done p r _ hne]
        · simp [t_putEnd]
        · simp only [t_putStep, h1', h2, and_self, if_true, if_false]
/-- The pairs without a key. -/
def t_delL (l : FL) (k : List UInt8) : FL := l.filter fun q => !(q.1 == k)

theorem t_mem_put (l : FL) (p x : Tn) : x ∈ t_putL l p → x = p ∨ x ∈ l := by
  induction l with
  | nil => intro h; simp [t_putL] at h; exact .inl h
  | cons q r ih =>
    intro h
    rw [t_putL] at h
    by_cases h1 : klt q.1 p.1 = true
    · rw [if_pos h1] at h
      rcases List.mem_cons.1 h with rfl | h
      · exact .inr (by simp)
      · rcases ih h with h | h
        · exact .inl h
        · exact .inr (List.mem_cons_of_mem _ h)
    · rw [if_neg h1] at h
      by_cases h2 : q.1 = p.1
      · rw [if_pos h2] at h
        rcases List.mem_cons.1 h with h | h
        · exact .inl h
        · exact .inr (List.mem_cons_of_mem _ h)
      · rw [if_neg h2] at h
        rcases List.mem_cons.1 h with h | h
        · exact .inl h
        · exact .inr h
theorem t_put_rises (l : FL) (p : Tn) (h : t_Rises l) : t_Rises (t_putL l p) := by
  induction l with
  | nil => exact List.pairwise_singleton _ _
  | cons q r ih =>
    have hr := List.pairwise_cons.1 h
    rw [t_putL]
    by_cases h1 : klt q.1 p.1 = true
    · rw [if_pos h1]
      refine List.Pairwise.cons (fun x hx => ?_) (ih hr.2)
      rcases t_mem_put r p x hx with rfl | hx
      · exact h1
      · exact hr.1 x hx
    · rw [if_neg h1]
      by_cases h2 : q.1 = p.1
      · rw [if_pos h2]
        exact List.Pairwise.cons (fun x hx => by rw [← h2]; exact hr.1 x hx) hr.2
      · rw [if_neg h2]
        have hpq := klt_total _ _ (by simpa using h1) h2
        refine List.Pairwise.cons (fun x hx => ?_) h
        rcases List.mem_cons.1 hx with rfl | hx
        · exact hpq
        · exact klt_trans _ _ _ hpq (hr.1 x hx)
theorem t_get_put (l : FL) (p : Tn) (k : List UInt8) (h : t_Rises l) : t_getF (t_putL l p) k = if p.1 = k then some p.2 else t_getF l k := by
  induction l with
  | nil => rw [t_putL, t_get_cons]
  | cons q r ih =>
    have hr := List.pairwise_cons.1 h
    rw [t_putL]
    by_cases h1 : klt q.1 p.1 = true
    · rw [if_pos h1, t_get_cons, t_get_cons, ih hr.2]
      by_cases e : p.1 = k
      · rw [if_pos e, if_pos e, if_neg (fun e2 => klt_ne h1 (e2.trans e.symm))]
      · rw [if_neg e, if_neg e]
    · rw [if_neg h1]
      by_cases h2 : q.1 = p.1
      · rw [if_pos h2, t_get_cons, t_get_cons]
        by_cases e : p.1 = k
        · rw [if_pos e, if_pos e]
        · rw [if_neg e, if_neg e, if_neg (by rw [h2]; exact e)]
      · rw [if_neg h2, t_get_cons]
theorem t_get_del (l : FL) (k x : List UInt8) : t_getF (t_delL l k) x = if k = x then none else t_getF l x := by
  induction l with
  | nil => simp [t_delL, t_getF]
  | cons q r ih =>
    unfold t_delL at ih ⊢
    by_cases e : q.1 = k
    · rw [List.filter_cons_of_neg (by simp [e]), ih, t_get_cons]
      by_cases e2 : k = x
      · rw [if_pos e2, if_pos e2]
      · rw [if_neg e2, if_neg e2, if_neg (by rw [e]; exact e2)]
    · rw [List.filter_cons_of_pos (by simp [e]), t_get_cons, ih, t_get_cons]
      by_cases e2 : k = x
      · rw [if_pos e2, if_pos e2, if_neg (by rw [← e2]; exact e)]
      · rw [if_neg e2, if_neg e2]
theorem t_del_rises (l : FL) (k : List UInt8) (h : t_Rises l) : t_Rises (t_delL l k) := List.Pairwise.filter _ h
theorem t_get_head_none (l : FL) (k : List UInt8) (h : ∀ p ∈ l, klt k p.1 = true) : t_getF l k = none :=
  t_get_none l k fun j hj e => by
    have := h l[j] (List.getElem_mem hj)
    rw [show l[j] = l.getD j ([], []) by simp [hj], e, klt_irrefl] at this
    cases this
/-- Pairs that rise are told by what is got. -/
theorem t_rises_ext : ∀ (l m : FL), t_Rises l → t_Rises m → (∀ k, t_getF l k = t_getF m k) → l = m
  | [], [], _, _, _ => rfl
  | [], q :: r, _, _, h => by have := h q.1; rw [t_get_cons, if_pos rfl] at this; cases this
  | p :: l, [], _, _, h => by have := h p.1; rw [t_get_cons, if_pos rfl] at this; cases this
  | p :: l, q :: r, hl, hr, h => by
    have h1 := List.pairwise_cons.1 hl
    have h2 := List.pairwise_cons.1 hr
    have hk : p.1 = q.1 := by
      cases e : klt p.1 q.1 with
      | true =>
        have := h p.1
        rw [t_get_cons, if_pos rfl, t_get_head_none (q :: r) p.1 fun x hx => by
          rcases List.mem_cons.1 hx with rfl | hx
          · exact e
          · exact klt_trans _ _ _ e (h2.1 x hx)] at this
        cases this
      | false =>
        by_cases e2 : p.1 = q.1
        · exact e2
        · have e3 := klt_total _ _ e e2
          have := h q.1
          rw [t_get_cons (p := q), if_pos rfl, t_get_head_none (p :: l) q.1 fun x hx => by
            rcases List.mem_cons.1 hx with rfl | hx
            · exact e3
            · exact klt_trans _ _ _ e3 (h1.1 x hx)] at this
          cases this
    have hv : p.2 = q.2 := by
      have := h p.1
      rw [t_get_cons, if_pos rfl, t_get_cons, if_pos hk.symm] at this
      exact Option.some.inj this
    have hp : p = q := Prod.ext hk hv
    subst hp
    congr 1
    refine t_rises_ext l r h1.2 h2.2 fun k => ?_
    by_cases e : p.1 = k
    · subst e
      rw [t_get_head_none l p.1 h1.1, t_get_head_none r p.1 h2.1]
    · have := h k
      rw [t_get_cons, t_get_cons, if_neg e, if_neg e] at this
      exact this
theorem t_put_some (t : FL) (p : Tn) : t_putL t p ≠ [] := by
  cases t with
  | nil => simp [t_putL]
  | cons q r =>
    rw [t_putL]
    by_cases h1 : klt q.1 p.1 = true
    · rw [if_pos h1]; simp
    · rw [if_neg h1]
      by_cases h2 : q.1 = p.1
      · rw [if_pos h2]; simp
      · rw [if_neg h2]; simp
theorem t_del_none (t : FL) (k : List UInt8) (h : t_getF t k = none) : t_delL t k = t := by
  induction t with
  | nil => rfl
  | cons q r ih =>
    rw [t_get_cons] at h
    by_cases e : q.1 = k
    · rw [if_pos e] at h; cases h
    · rw [if_neg e] at h
      have := ih h
      unfold t_delL at this ⊢
      rw [List.filter_cons_of_pos (by simp [e]), this]
theorem t_put_len_new (t : FL) (p : Tn) (h : t_getF t p.1 = none) : (t_putL t p).length = t.length + 1 := by
  induction t with
  | nil => simp [t_putL]
  | cons q r ih =>
    rw [t_get_cons] at h
    by_cases e : q.1 = p.1
    · rw [if_pos e] at h; cases h
    · rw [if_neg e] at h
      rw [t_putL]
      by_cases h1 : klt q.1 p.1 = true
      · rw [if_pos h1]; simp [ih h]
      · rw [if_neg h1, if_neg e]; simp
theorem t_del_len_old (t : FL) (k : List UInt8) (hr : t_Rises t) (h : (t_getF t k).isSome = true) : (t_delL t k).length + 1 = t.length := by
  induction t with
  | nil => simp [t_getF] at h
  | cons q r ih =>
    have hp := List.pairwise_cons.1 hr
    rw [t_get_cons] at h
    by_cases e : q.1 = k
    · have hn : t_getF r k = none := t_get_head_none r k fun p hp' => by rw [← e]; exact hp.1 p hp'
      have := t_del_none r k hn
      unfold t_delL at this ⊢
      rw [List.filter_cons_of_neg (by simp [e]), this]; simp
    · rw [if_neg e] at h
      have := ih hp.2 h
      unfold t_delL at this ⊢
      rw [List.filter_cons_of_pos (by simp [e])]
      simp; omega
theorem t_put_len (l : FL) (p : Tn) : (t_putL l p).length ≤ l.length + 1 := by
  induction l with
  | nil => simp [t_putL]
  | cons q r ih =>
    rw [t_putL]
    by_cases h1 : klt q.1 p.1 = true
    · rw [if_pos h1]; simp; omega
    · rw [if_neg h1]
      by_cases h2 : q.1 = p.1
      · rw [if_pos h2]; simp
      · rw [if_neg h2]; simp

theorem t_del_len (l : FL) (k : List UInt8) : (t_delL l k).length ≤ l.length := List.length_filter_le _ _
/-- What is wrong with a name. -/
def nameFaultF (n : Nat) : Int := if 1 ≤ n ∧ n ≤ 8 then 0 else 1
theorem nameFault_iff (n : Nat) : nameFaultF n = 0 ↔ 1 ≤ n ∧ n ≤ 8 := by
  unfold nameFaultF
  by_cases h : 1 ≤ n ∧ n ≤ 8
  · rw [if_pos h]; exact ⟨fun _ => h, fun _ => rfl⟩
  · rw [if_neg h]
    constructor
    · intro h2; cases h2
    · intro h2; exact absurd h2 h
/-- What is wrong with a tenant alone. -/
def tenFaultF (t : Tn) : Int := if nameFaultF t.1.length = 0 then (if t.2.length = 0 then 4 else pairsFaultF t.2) else nameFaultF t.1.length
theorem tenFault_iff (t : Tn) : tenFaultF t = 0 ↔ (1 ≤ t.1.length ∧ t.1.length ≤ 8) ∧ t.2 ≠ [] ∧ Tree t.2 := by
  unfold tenFaultF
  by_cases h : nameFaultF t.1.length = 0
  · rw [if_pos h]
    by_cases h2 : t.2.length = 0
    · rw [if_pos h2]
      constructor
      · intro h3; cases h3
      · intro h3; exact absurd (List.eq_nil_of_length_eq_zero h2) h3.2.1
    · rw [if_neg h2, tree_iff]
      exact ⟨fun h3 => ⟨(nameFault_iff _).1 h, fun e => h2 (by rw [e]; rfl), h3⟩, fun h3 => h3.2.2⟩
  · rw [if_neg h]
    constructor
    · intro h2; exact absurd h2 h
    · intro h2; exact absurd ((nameFault_iff _).2 h2.1) h
/-- What is wrong with the tenant at a place, and with its order. -/
def tenAt (l : FL) (i : Nat) : Int :=
  if tenFaultF (l.getD i ([], [])) = 0 then (if 0 < i ∧ klt (l.getD (i - 1) ([], [])).1 (l.getD i ([], [])).1 = false then 3 else 0) else tenFaultF (l.getD i ([], []))
def tenFrom (l : FL) : Nat → Nat → Int
  | 0, _ => 0
  | n + 1, i => if tenAt l i = 0 then tenFrom l n (i + 1) else tenAt l i
/-- What is wrong with tenants. -/
def forestE (l : FL) : Int := if 8 < l.length then 1 else tenFrom l l.length 0
theorem tenFrom_split (l : FL) (n i : Nat) (hi : i ≤ n) (h : ∀ j, j < i → tenAt l j = 0) : tenFrom l n 0 = tenFrom l (n - i) i := by
  induction i with
  | zero => rfl
  | succ i ih =>
    rw [ih (by omega) (fun j hj => h j (by omega)), show n - i = (n - (i + 1)) + 1 by omega, tenFrom, if_pos (h i (by omega))]
theorem forestE_at (l : FL) (i : Nat) (hi : i < l.length) (hl : l.length ≤ 8) (h : ∀ j, j < i → tenAt l j = 0) (hf : tenAt l i ≠ 0) : forestE l = tenAt l i := by
  rw [forestE, if_neg (by omega), tenFrom_split l _ i (by omega) h, show l.length - i = (l.length - (i + 1)) + 1 by omega, tenFrom, if_neg hf]
theorem forestE_none (l : FL) (hl : l.length ≤ 8) (h : ∀ j, j < l.length → tenAt l j = 0) : forestE l = 0 := by
  rw [forestE, if_neg (by omega), tenFrom_split l _ l.length (Nat.le_refl _) h, Nat.sub_self, tenFrom]
theorem forestE_long (l : FL) (hl : 8 < l.length) : forestE l = 1 := by rw [forestE, if_pos hl]
theorem tenFrom_zero (l : FL) : ∀ (n i : Nat), tenFrom l n i = 0 → ∀ j, i ≤ j → j < i + n → tenAt l j = 0
  | 0, i, _, j, h1, h2 => by omega
  | n + 1, i, h, j, h1, h2 => by
    rw [tenFrom] at h
    by_cases e : tenAt l i = 0
    · rw [if_pos e] at h
      by_cases hj : j = i
      · subst hj; exact e
      · exact tenFrom_zero l n (i + 1) h j (by omega) (by omega)
    · rw [if_neg e] at h; exact absurd h e
theorem tenAt_iff (l : FL) (i : Nat) : tenAt l i = 0 ↔ tenFaultF (l.getD i ([], [])) = 0 ∧ (0 < i → klt (l.getD (i - 1) ([], [])).1 (l.getD i ([], [])).1 = true) := by
  unfold tenAt
  by_cases h : tenFaultF (l.getD i ([], [])) = 0
  · rw [if_pos h]
    by_cases h2 : 0 < i ∧ klt (l.getD (i - 1) ([], [])).1 (l.getD i ([], [])).1 = false
    · rw [if_pos h2]; constructor
      · intro h; cases h
      · intro h3; have := h3.2 h2.1; rw [h2.2] at this; cases this
    · rw [if_neg h2]
      refine ⟨fun _ => ⟨h, fun hi => ?_⟩, fun _ => rfl⟩
      cases hk : klt (l.getD (i - 1) ([], [])).1 (l.getD i ([], [])).1 with
      | true => rfl
      | false => exact absurd ⟨hi, hk⟩ h2
  · rw [if_neg h]; constructor
    · intro h2; exact absurd h2 h
    · intro h2; exact absurd h2.1 h
theorem t_rises_of_steps : ∀ l : FL, (∀ i, 0 < i → i < l.length → klt (l.getD (i - 1) ([], [])).1 (l.getD i ([], [])).1 = true) → t_Rises l
  | [], _ => List.Pairwise.nil
  | [_], _ => List.pairwise_singleton _ _
  | p :: q :: r, h => by
    have ih : t_Rises (q :: r) := t_rises_of_steps (q :: r) fun i h0 hi => by
      have := h (i + 1) (by omega) (by simp at hi ⊢; omega)
      rw [show i + 1 - 1 = (i - 1) + 1 by omega] at this
      simpa using this
    have h01 : klt p.1 q.1 = true := by
      have := h 1 (by omega) (by simp)
      simpa using this
    refine List.Pairwise.cons (fun x hx => ?_) ih
    rcases List.mem_cons.1 hx with rfl | hx
    · exact h01
    · exact klt_trans _ _ _ h01 ((List.pairwise_cons.1 ih).1 x hx)
theorem t_rises_step (l : FL) (h : t_Rises l) (i j : Nat) (hij : i < j) (hj : j < l.length) : klt (l.getD i ([], [])).1 (l.getD j ([], [])).1 = true := by
  have := List.pairwise_iff_getElem.1 h i j (by omega) hj hij
  simpa [hj, show i < l.length by omega] using this
/-- A forest. -/
structure Forest (l : FL) : Prop where
  room : l.length ≤ 8
  tens : ∀ t ∈ l, (1 ≤ t.1.length ∧ t.1.length ≤ 8) ∧ t.2 ≠ [] ∧ Tree t.2
  rises : t_Rises l
theorem forest_iff (l : FL) : forestE l = 0 ↔ Forest l := by
  constructor
  · intro h
    have hl : l.length ≤ 8 := by
      by_cases hl : 8 < l.length
      · rw [forestE_long l hl] at h; cases h
      · omega
    rw [forestE, if_neg (by omega)] at h
    have ha := fun j (hj : j < l.length) => (tenAt_iff l j).1 (tenFrom_zero l l.length 0 h j (by omega) (by omega))
    refine ⟨hl, fun p hp => ?_, t_rises_of_steps l fun i h0 hi => (ha i hi).2 h0⟩
    obtain ⟨i, hi, rfl⟩ := List.mem_iff_getElem.1 hp
    have := (tenFault_iff _).1 (ha i hi).1
    simpa [hi] using this
  · intro h
    refine forestE_none l h.room fun j hj => (tenAt_iff l j).2 ⟨(tenFault_iff _).2 ?_, fun h0 => t_rises_step l h.rises _ _ (by omega) hj⟩
    have := h.tens l[j] (List.getElem_mem hj)
    simpa [hj] using this
theorem forest_nil : Forest [] := ⟨by simp, by simp, List.Pairwise.nil⟩
/-- What a name has. -/
def ofF (l : FL) (n : List UInt8) : PL := (t_getF l n).getD []
theorem of_nil (n : List UInt8) : ofF [] n = [] := rfl
theorem of_tree {l : FL} (h : Forest l) (n : List UInt8) : Tree (ofF l n) := by
  unfold ofF t_getF
  cases hf : l.find? (fun p => p.1 == n) with
  | none => exact tree_nil
  | some t => exact (h.tens t (List.mem_of_find?_eq_some hf)).2.2
theorem of_at {l : FL} (h : Forest l) (i : Nat) (hi : i < l.length) : ofF l (l.getD i ([], [])).1 = (l.getD i ([], [])).2 := by
  unfold ofF
  rw [t_get_at l _ i hi (fun j hj e => ?_) rfl]
  · rfl
  · have := t_rises_step l h.rises j i hj hi
    rw [e, klt_irrefl] at this; cases this
/-- Forests are told by what names have. -/
theorem forest_ext {l m : FL} (hl : Forest l) (hm : Forest m) (h : ∀ n, ofF l n = ofF m n) : l = m := by
  have hs : ∀ {l : FL}, Forest l → ∀ n, t_getF l n = if ofF l n = [] then none else some (ofF l n) := by
    intro l hl n
    unfold ofF
    cases hf : l.find? (fun p => p.1 == n) with
    | none =>
      have : t_getF l n = none := by unfold t_getF; rw [hf]; rfl
      rw [this]; rfl
    | some t =>
      have hg : t_getF l n = some t.2 := by unfold t_getF; rw [hf]; rfl
      have hne := (hl.tens t (List.mem_of_find?_eq_some hf)).2.1
      rw [hg, if_neg (by simpa using hne)]; rfl
  refine t_rises_ext l m hl.rises hm.rises fun n => ?_
  rw [hs hl, hs hm, h n]
/-- What is wrong with a write alone. -/
def writeE (w : Plc) : Int :=
  if nameFaultF w.name.length = 0 then (if w.gone = true then (if keyFaultF w.key.length = 0 then (if 0 < w.value.length then 4 else 0) else keyFaultF w.key.length) else pairFaultF (w.key, w.value)) else nameFaultF w.name.length
/-- What the tenant has behind a write. -/
def nextL (l : FL) (w : Plc) : PL := if w.gone = true then delL (ofF l w.name) w.key else putL (ofF l w.name) (w.key, w.value)
def nextE (l : FL) (w : Plc) : Int := if w.gone = true then getE (ofF l w.name) w.key else putE (ofF l w.name) (w.key, w.value)
/-- The tenants behind a write. -/
def writtenL (l : FL) (w : Plc) : FL := if (nextL l w).length = 0 then t_delL l w.name else t_putL l (w.name, nextL l w)
def writtenE (l : FL) (w : Plc) : Int := if nextE l w = 0 then (if 8 < (writtenL l w).length then 11 else 0) else nextE l w
/-- The tenants behind writes, one behind the other: an error, or tenants. -/
def applyE : FL → List Plc → Int
  | _, [] => 0
  | l, w :: ws => if writeE w = 0 then (if writtenE l w = 0 then applyE (writtenL l w) ws else writtenE l w) else writeE w
def applyL : FL → List Plc → FL
  | l, [] => l
  | l, w :: ws => applyL (writtenL l w) ws
def appliedE (l : FL) (ws : List Plc) : Int := if forestE l = 0 then (if 10 < ws.length then 1 else applyE l ws) else forestE l
def appliedF (l : FL) (ws : List Plc) : FL := if appliedE l ws = 0 then applyL l ws else []
theorem writeE_iff (w : Plc) : writeE w = 0 ↔ (1 ≤ w.name.length ∧ w.name.length ≤ 8) ∧ (1 ≤ w.key.length ∧ w.key.length ≤ 16) ∧ (if w.gone = true then w.value = [] else w.value.length ≤ 32) := by
  unfold writeE
  by_cases hn : nameFaultF w.name.length = 0
  · rw [if_pos hn]
    have hn' := (nameFault_iff _).1 hn
    by_cases hg : w.gone = true
    · rw [if_pos hg, if_pos hg]
      by_cases hk : keyFaultF w.key.length = 0
      · rw [if_pos hk]
        have hk' := (keyFault_iff _).1 hk
        by_cases hv : 0 < w.value.length
        · rw [if_pos hv]
          constructor
          · intro h; cases h
          · intro h; rw [h.2.2] at hv; simp at hv
        · rw [if_neg hv]
          exact ⟨fun _ => ⟨hn', hk', List.eq_nil_of_length_eq_zero (by omega)⟩, fun _ => rfl⟩
      · rw [if_neg hk]
        constructor
        · intro h; exact absurd h hk
        · intro h; exact absurd ((keyFault_iff _).2 h.2.1) hk
    · rw [if_neg hg, if_neg hg, pairFault_iff]
      exact ⟨fun h => ⟨hn', h.1, h.2⟩, fun h => ⟨h.2.1, h.2.2⟩⟩
  · rw [if_neg hn]
    constructor
    · intro h; exact absurd h hn
    · intro h; exact absurd ((nameFault_iff _).2 h.1) hn
/-- A write that may be. -/
theorem next_tree {l : FL} (h : Forest l) {w : Plc} (hw : writeE w = 0) (he : nextE l w = 0) : Tree (nextL l w) := by
  obtain ⟨_, hk, hv⟩ := (writeE_iff w).1 hw
  have hT := of_tree h w.name
  unfold nextL
  unfold nextE at he
  by_cases hg : w.gone = true
  · rw [if_pos hg]
    exact ⟨Nat.le_trans (del_len _ _) hT.room, fun p hp => hT.pairs p (List.mem_filter.1 hp).1, del_rises _ _ hT.rises⟩
  · rw [if_neg hg] at he hv ⊢
    have h60 : ¬ 60 < (putL (ofF l w.name) (w.key, w.value)).length := by
      intro h60
      unfold putE at he
      by_cases h0 : putE0 (ofF l w.name) (w.key, w.value) = 0
      · rw [if_pos h0, if_pos h60] at he; cases he
      · rw [if_neg h0] at he; exact h0 he
    refine ⟨by omega, fun q hq => ?_, put_rises _ _ hT.rises⟩
    rcases mem_put _ _ q hq with rfl | hq
    · exact ⟨hk, hv⟩
    · exact hT.pairs q hq
theorem written_rises {l : FL} (h : t_Rises l) (w : Plc) : t_Rises (writtenL l w) := by
  unfold writtenL
  by_cases hn : (nextL l w).length = 0
  · rw [if_pos hn]; exact t_del_rises _ _ h
  · rw [if_neg hn]; exact t_put_rises _ _ h
/-- What a name has behind a write. -/
theorem written_of {l : FL} (h : t_Rises l) (w : Plc) (n : List UInt8) : ofF (writtenL l w) n = if w.name = n then nextL l w else ofF l n := by
  unfold writtenL
  by_cases hn : (nextL l w).length = 0
  · rw [if_pos hn]
    have hn' : nextL l w = [] := List.eq_nil_of_length_eq_zero hn
    rw [hn']
    unfold ofF
    rw [t_get_del]
    by_cases e : w.name = n
    · rw [if_pos e, if_pos e]; rfl
    · rw [if_neg e, if_neg e]
  · rw [if_neg hn]
    unfold ofF
    rw [t_get_put _ _ _ h]
    by_cases e : w.name = n
    · rw [if_pos e, if_pos e]; rfl
    · rw [if_neg e, if_neg e]
theorem written_forest {l : FL} (h : Forest l) {w : Plc} (hw : writeE w = 0) (he : writtenE l w = 0) : Forest (writtenL l w) := by
  have hE : nextE l w = 0 := by
    by_cases h0 : nextE l w = 0
    · exact h0
    · unfold writtenE at he; rw [if_neg h0] at he; exact absurd he h0
  have hl : (writtenL l w).length ≤ 8 := by
    unfold writtenE at he
    rw [if_pos hE] at he
    by_cases h8 : 8 < (writtenL l w).length
    · rw [if_pos h8] at he; cases he
    · omega
  obtain ⟨hn, _, _⟩ := (writeE_iff w).1 hw
  refine ⟨hl, fun t ht => ?_, written_rises h.rises w⟩
  unfold writtenL at ht
  by_cases h0 : (nextL l w).length = 0
  · rw [if_pos h0] at ht
    exact h.tens t (List.mem_filter.1 ht).1
  · rw [if_neg h0] at ht
    rcases t_mem_put _ _ t ht with rfl | ht
    · exact ⟨hn, fun e => h0 (by rw [show nextL l w = [] from e]; rfl), next_tree h hw hE⟩
    · exact h.tens t ht
end Go.Proofs.YtghjikifflpeiabDoor
