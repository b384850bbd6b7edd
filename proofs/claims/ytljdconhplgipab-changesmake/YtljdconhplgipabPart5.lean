/-
  Texts of this proof, joined: SpotF, SpotS, ChgF.
-/
import Derived.Test.YtljdconhplgipabPart2
import Derived.Test.YtljdconhplgipabPart4
import Derived.Test.YtljdconhplgipabPart1
/-
  Places of forests, sorted, each once, and what has changed at them: with no program.
-/
namespace Go.Proofs.Ytljdconhplgipab
open Go.RowKit
theorem cmpFz {a b : List UInt8} : cmpF a b = 0 ↔ a = b := by
  unfold cmpF
  by_cases h : klt a b = true
  · rw [if_pos h]
    refine ⟨fun e => by omega, fun e => ?_⟩
    subst e
    rw [klt_irrefl] at h; cases h
  · rw [if_neg h]
    by_cases h2 : a = b
    · rw [if_pos h2]; exact ⟨fun _ => h2, fun _ => rfl⟩
    · rw [if_neg h2]; exact ⟨fun e => by omega, fun e => absurd e h2⟩
theorem cmpFn {a b : List UInt8} : cmpF a b < 0 ↔ klt a b = true := by
  unfold cmpF
  by_cases h : klt a b = true
  · rw [if_pos h]; exact ⟨fun _ => h, fun _ => by omega⟩
  · rw [if_neg h]
    refine ⟨fun e => ?_, fun e => absurd e h⟩
    by_cases h2 : a = b
    · rw [if_pos h2] at e; omega
    · rw [if_neg h2] at e; omega
/-- By names, then by keys. -/
def cmpP (a b : Plc) : Int := if cmpF a.name b.name = 0 then cmpF a.key b.key else cmpF a.name b.name
theorem cmpP_zero (a b : Plc) : cmpP a b = 0 ↔ pSame a b := by
  unfold cmpP pSame
  by_cases h : cmpF a.name b.name = 0
  · rw [if_pos h, cmpFz]; exact ⟨fun e => ⟨cmpFz.1 h, e⟩, fun e => e.2⟩
  · rw [if_neg h]; exact ⟨fun e => absurd e h, fun e => absurd (cmpFz.2 e.1) h⟩
theorem cmpP_neg (a b : Plc) : cmpP a b < 0 ↔ plt a b = true := by
  rw [plt_iff]
  unfold cmpP
  by_cases h : cmpF a.name b.name = 0
  · rw [if_pos h, cmpFn]
    have e := cmpFz.1 h
    refine ⟨fun k => .inr ⟨e, k⟩, fun k => ?_⟩
    rcases k with k | k
    · rw [e, klt_irrefl] at k; cases k
    · exact k.2
  · rw [if_neg h, cmpFn]
    refine ⟨fun k => .inl k, fun k => ?_⟩
    rcases k with k | k
    · exact k
    · exact absurd (cmpFz.2 k.1) h
theorem cmpP_range (a b : Plc) : -1 ≤ cmpP a b ∧ cmpP a b ≤ 1 := by
  unfold cmpP
  have h1 := cmpF_range a.name b.name
  have h2 := cmpF_range a.key b.key
  split <;> assumption
theorem plt_ntrans {a b c : Plc} (h : plt a b = false) (k : plt b c = false) : plt a c = false := by
  cases e : plt a c with
  | false => rfl
  | true =>
    by_cases s1 : pSame a b
    · have : plt b c = true := by
        rw [plt_iff] at e ⊢
        rw [← s1.1, ← s1.2]; exact e
      rw [this] at k; cases k
    · have h1 := plt_total h s1
      have := plt_trans h1 e
      rw [this] at k; cases k
/-- A place that bears no value. -/
def Bare (p : Plc) : Prop := p.value = [] ∧ p.gone = false
theorem bare_same {a b : Plc} (ha : Bare a) (hb : Bare b) (h : pSame a b) : a = b := by
  obtain ⟨n, k, v, g⟩ := a
  obtain ⟨n2, k2, v2, g2⟩ := b
  obtain ⟨h1, h2⟩ := h
  obtain ⟨h3, h4⟩ := ha
  obtain ⟨h5, h6⟩ := hb
  simp only at h1 h2 h3 h4 h5 h6
  subst h1; subst h2; subst h3; subst h4; subst h5; subst h6; rfl
def compactFrom : Plc → List Plc → List Plc
  | _, [] => []
  | a, b :: l => if cmpP b a = 0 then compactFrom b l else b :: compactFrom b l
def compactL : List Plc → List Plc
  | [] => []
  | a :: l => a :: compactFrom a l
def Sorted (l : List Plc) : Prop := l.Pairwise fun a b => plt b a = false
theorem mem_compactFrom : ∀ (l : List Plc) (a x : Plc), Bare a → (∀ y ∈ l, Bare y) → (x = a ∨ x ∈ compactFrom a l ↔ x = a ∨ x ∈ l)
  | [], _, _, _, _ => Iff.rfl
  | b :: l, a, x, ha, hl => by
    have hb := hl b (List.mem_cons_self ..)
    have ih := mem_compactFrom l b x hb (fun y hy => hl y (List.mem_cons_of_mem _ hy))
    rw [compactFrom]
    by_cases h : cmpP b a = 0
    · rw [if_pos h]
      have e := bare_same hb ha ((cmpP_zero _ _).1 h)
      subst e
      rw [ih, List.mem_cons]
      exact ⟨fun k => k.elim .inl fun k => .inr (.inr k), fun k => k.elim .inl fun k => k⟩
    · rw [if_neg h, List.mem_cons, List.mem_cons, ih]
theorem mem_compact (l : List Plc) (x : Plc) (hl : ∀ y ∈ l, Bare y) : x ∈ compactL l ↔ x ∈ l := by
  cases l with
  | nil => exact Iff.rfl
  | cons a l =>
    rw [compactL, List.mem_cons, List.mem_cons]
    exact mem_compactFrom l a x (hl a (List.mem_cons_self ..)) (fun y hy => hl y (List.mem_cons_of_mem _ hy))
theorem compactFrom_rises : ∀ (l : List Plc) (a : Plc), Bare a → (∀ y ∈ l, Bare y) → Sorted (a :: l) → PRises (a :: compactFrom a l)
  | [], a, _, _, _ => List.pairwise_singleton ..
  | b :: l, a, ha, hl, hs => by
    have hb := hl b (List.mem_cons_self ..)
    have hs2 := List.pairwise_cons.1 hs
    have ih := compactFrom_rises l b hb (fun y hy => hl y (List.mem_cons_of_mem _ hy)) hs2.2
    rw [compactFrom]
    by_cases h : cmpP b a = 0
    · rw [if_pos h]
      have e := bare_same hb ha ((cmpP_zero _ _).1 h)
      subst e
      exact ih
    · rw [if_neg h]
      have h1 := hs2.1 b (List.mem_cons_self ..)
      have h2 := plt_total h1 (fun k => h ((cmpP_zero _ _).2 k))
      refine List.pairwise_cons.2 ⟨fun y hy => ?_, ih⟩
      rcases List.mem_cons.1 hy with rfl | hy
      · exact h2
      · exact plt_trans h2 ((List.pairwise_cons.1 ih).1 y hy)
theorem compact_rises (l : List Plc) (hl : ∀ y ∈ l, Bare y) (hs : Sorted l) : PRises (compactL l) := by
  cases l with
  | nil => exact List.Pairwise.nil
  | cons a l => exact compactFrom_rises l a (hl a (List.mem_cons_self ..)) (fun y hy => hl y (List.mem_cons_of_mem _ hy)) hs
/-- The places of a tenant, and of a forest. -/
def spotsT (t : Tn) : List Plc := t.2.map fun p => (⟨t.1, p.1, [], false⟩ : Plc)
def spotsF (f : FL) : List Plc := f.flatMap spotsT
theorem spots_bare (f : FL) : ∀ x ∈ spotsF f, Bare x := by
  intro x hx
  obtain ⟨t, _, ht⟩ := List.mem_flatMap.1 hx
  obtain ⟨p, _, rfl⟩ := List.mem_map.1 ht
  exact ⟨rfl, rfl⟩
theorem mem_spots {f : FL} (hf : Forest f) (x : Plc) : x ∈ spotsF f ↔ Bare x ∧ (getF (ofF f x.name) x.key).isSome = true := by
  constructor
  · intro hx
    refine ⟨spots_bare f x hx, ?_⟩
    obtain ⟨t, h1, ht⟩ := List.mem_flatMap.1 hx
    obtain ⟨p, h2, rfl⟩ := List.mem_map.1 ht
    show (getF (ofF f t.1) p.1).isSome = true
    rw [in_of hf h1, in_getF (hf.tens t h1).2.2.rises h2]; rfl
  · rintro ⟨hb, hs⟩
    obtain ⟨v, hv⟩ := Option.isSome_iff_exists.1 hs
    obtain ⟨h1, h2⟩ := got_in hv
    refine List.mem_flatMap.2 ⟨_, h1, List.mem_map.2 ⟨_, h2, ?_⟩⟩
    obtain ⟨n, k, v2, g⟩ := x
    obtain ⟨h3, h4⟩ := hb
    simp only at h3 h4
    subst h3; subst h4; rfl
/-- What has changed at a place. -/
def chgO (a b : FL) (w : Plc) : Option Plc := if fgetB a w.name w.key ≠ fgetB b w.name w.key ∨ fgetV a w.name w.key ≠ fgetV b w.name w.key then some ⟨w.name, w.key, fgetV b w.name w.key, !fgetB b w.name w.key⟩ else none
theorem chgO_place {a b : FL} {w x : Plc} (h : chgO a b w = some x) : x.name = w.name ∧ x.key = w.key := by
  unfold chgO at h
  split at h
  · cases h; exact ⟨rfl, rfl⟩
  · cases h
theorem chg_iff {a b : FL} (ha : Forest a) (hb : Forest b) (w x : Plc) (hn : 1 ≤ w.name.length ∧ w.name.length ≤ 8) (hk : 1 ≤ w.key.length ∧ w.key.length ≤ 16) : chgO a b w = some x ↔ x.name = w.name ∧ x.key = w.key ∧ ((x.gone = false ∧ getF (ofF b x.name) x.key = some x.value ∧ getF (ofF a x.name) x.key ≠ some x.value) ∨ (x.gone = true ∧ x.value = [] ∧ (getF (ofF a x.name) x.key).isSome = true ∧ getF (ofF b x.name) x.key = none)) := by
  obtain ⟨_, a2, a3⟩ := fget_ok ha w.name w.key hn hk
  obtain ⟨_, b2, b3⟩ := fget_ok hb w.name w.key hn hk
  unfold chgO
  rw [a2, a3, b2, b3]
  obtain ⟨xn, xk, xv, xg⟩ := x
  obtain ⟨wn, wk, wv, wg⟩ := w
  simp only
  constructor
  · intro h
    split at h
    case isTrue hc =>
      simp only [Option.some.injEq, Plc.mk.injEq] at h
      obtain ⟨rfl, rfl, rfl, rfl⟩ := h
      refine ⟨rfl, rfl, ?_⟩
      generalize getF (ofF a wn) wk = A at *
      generalize getF (ofF b wn) wk = B at *
      cases B with
      | some v =>
        refine .inl ⟨rfl, rfl, fun e => ?_⟩
        subst e
        exact hc.elim (fun h => h rfl) (fun h => h rfl)
      | none =>
        refine .inr ⟨rfl, rfl, ?_, rfl⟩
        cases A with
        | some v => rfl
        | none => exact (hc.elim (fun h => h rfl) (fun h => h rfl)).elim
    case isFalse => cases h
  · rintro ⟨rfl, rfl, h⟩
    generalize getF (ofF a xn) xk = A at *
    generalize getF (ofF b xn) xk = B at *
    rcases h with ⟨rfl, rfl, h⟩ | ⟨rfl, rfl, h, rfl⟩
    · rw [if_pos]
      · rfl
      · cases A with
        | none => exact .inl (by simp)
        | some v => exact .inr (fun e => h (congrArg some e))
    · rw [if_pos]
      · rfl
      · cases A with
        | none => cases h
        | some v => exact .inl (by simp)
/-- The places of both forests, sorted, each once: what has changed at them are the changes. -/
theorem chg_spots {a b : FL} (ha : Forest a) (hb : Forest b) {s : List Plc} (hp : ∀ x, x ∈ s ↔ x ∈ spotsF a ++ spotsF b) (hs : Sorted s) : (compactL s).filterMap (chgO a b) = changesL a b := by
  have hbare : ∀ y ∈ s, Bare y := fun y hy => (List.mem_append.1 ((hp y).1 hy)).elim (spots_bare a y) (spots_bare b y)
  have hname : ∀ y ∈ compactL s, (1 ≤ y.name.length ∧ y.name.length ≤ 8) ∧ (1 ≤ y.key.length ∧ y.key.length ≤ 16) := by
    intro y hy
    have hy := (mem_compact s y hbare).1 hy
    rcases List.mem_append.1 ((hp y).1 hy) with h | h
    · obtain ⟨v, hv⟩ := Option.isSome_iff_exists.1 ((mem_spots ha y).1 h).2
      have := in_name ha hv
      exact ⟨this.1, this.2.1⟩
    · obtain ⟨v, hv⟩ := Option.isSome_iff_exists.1 ((mem_spots hb y).1 h).2
      have := in_name hb hv
      exact ⟨this.1, this.2.1⟩
  refine changes_ext ha hb ?_ ?_
  · refine List.Pairwise.filterMap _ ?_ (compact_rises s hbare hs)
    intro x y hxy x2 hx y2 hy
    have e1 := chgO_place hx
    have e2 := chgO_place hy
    rw [plt_iff, e1.1, e1.2, e2.1, e2.2, ← plt_iff]; exact hxy
  · intro x
    rw [List.mem_filterMap]
    constructor
    · rintro ⟨w, hw, he⟩
      have hn := hname w hw
      exact ((chg_iff ha hb w x hn.1 hn.2).1 he).2.2
    · intro h
      have hin : (⟨x.name, x.key, [], false⟩ : Plc) ∈ compactL s := by
        rw [mem_compact s _ hbare, hp, List.mem_append]
        rcases h with ⟨_, h, _⟩ | ⟨_, _, h, _⟩
        · exact .inr ((mem_spots hb _).2 ⟨⟨rfl, rfl⟩, by show (getF (ofF b x.name) x.key).isSome = true; rw [h]; rfl⟩)
        · exact .inl ((mem_spots ha _).2 ⟨⟨rfl, rfl⟩, h⟩)
      have hn := hname _ hin
      exact ⟨_, hin, (chg_iff ha hb _ x hn.1 hn.2).2 ⟨rfl, rfl, h⟩⟩
end Go.Proofs.Ytljdconhplgipab

/-
  The places of several forests, one behind the other: with no program.
-/
namespace Go.Proofs.Ytljdconhplgipab
open Go.RowKit
/-- The places of the first m forests. -/
def spN (g : Nat → FL) : Nat → List Plc
  | 0 => []
  | m + 1 => spN g m ++ spotsF (g m)
/-- .. and of the first t tenants of the next one, and of the first k pairs of the next tenant. -/
def spT (g : Nat → FL) (m t : Nat) : List Plc := spN g m ++ ((g m).take t).flatMap spotsT
def spK (g : Nat → FL) (m t k : Nat) : List Plc := spT g m t ++ (spotsT ((g m).getD t ([], []))).take k
theorem spT_zero (g : Nat → FL) (m : Nat) : spT g m 0 = spN g m := by rw [spT, List.take_zero, List.flatMap_nil, List.append_nil]
theorem spT_end (g : Nat → FL) (m : Nat) : spT g m (g m).length = spN g (m + 1) := by rw [spT, List.take_length]; rfl
theorem spK_zero (g : Nat → FL) (m t : Nat) : spK g m t 0 = spT g m t := by rw [spK, List.take_zero, List.append_nil]
theorem spK_next (g : Nat → FL) (m t k : Nat) (h : k < ((g m).getD t ([], [])).2.length) : spK g m t (k + 1) = spK g m t k ++ [⟨((g m).getD t ([], [])).1, (((g m).getD t ([], [])).2.getD k ([], [])).1, [], false⟩] := by
  have hl : k < (spotsT ((g m).getD t ([], []))).length := by simpa [spotsT] using h
  rw [spK, spK, List.take_succ_eq_append_getElem hl, List.append_assoc]
  generalize (g m).getD t ([], []) = T at *
  congr 2
  simp [spotsT, h]
theorem spK_end (g : Nat → FL) (m t : Nat) (ht : t < (g m).length) : spK g m t ((g m).getD t ([], [])).2.length = spT g m (t + 1) := by
  rw [spK, show ((g m).getD t ([], [])).2.length = (spotsT ((g m).getD t ([], []))).length by simp [spotsT], List.take_length, spT, spT, List.take_succ_eq_append_getElem ht, List.flatMap_append, List.append_assoc, show (g m)[t] = (g m).getD t ([], []) by simp [ht]]
  simp
theorem tens_len : ∀ (l : FL), (∀ t ∈ l, t.2.length ≤ 60) → (l.flatMap spotsT).length ≤ 60 * l.length
  | [], _ => by simp
  | t :: l, h => by
    have h1 := h t (List.mem_cons_self ..)
    have h2 := tens_len l fun x hx => h x (List.mem_cons_of_mem _ hx)
    rw [List.flatMap_cons, List.length_append, List.length_cons]
    have : (spotsT t).length = t.2.length := by simp [spotsT]
    omega
theorem spN_len (g : Nat → FL) (hg : ∀ m, Forest (g m)) : ∀ m, (spN g m).length ≤ 480 * m
  | 0 => by simp [spN]
  | m + 1 => by
    rw [spN, List.length_append]
    have h1 := spN_len g hg m
    have h2 := tens_len (g m) fun t ht => ((hg m).tens t ht).2.2.room
    have h3 := (hg m).room
    unfold spotsF
    omega
theorem spK_len (g : Nat → FL) (hg : ∀ m, Forest (g m)) (m t k : Nat) (hm : m ≤ 1000) (hk : k ≤ 60) : (spK g m t k).length ≤ 1000000 := by
  have h1 := spN_len g hg m
  have h2 := tens_len ((g m).take t) fun x hx => ((hg m).tens x (List.mem_of_mem_take hx)).2.2.room
  have h3 : ((g m).take t).length ≤ 8 := by rw [List.length_take]; have := (hg m).room; omega
  rw [spK, spT, List.length_append, List.length_append, List.length_take]
  omega
theorem spN_two (g : Nat → FL) : spN g 2 = spotsF (g 0) ++ spotsF (g 1) := by simp [spN]
end Go.Proofs.Ytljdconhplgipab

/-
  What history.Changes gathers, place by place: with no program.
-/
namespace Go.Proofs.Ytljdconhplgipab
open Go.RowKit
theorem behE_two (l : List Cmt) (i j : Int) : behE l [i, j] = chgE l i j := by
  unfold behE chgE foldE
  by_cases h : histE l = 0
  · simp only [if_pos h]
    show (if 0 ≤ i ∧ i ≤ (l.length : Int) then (if 0 ≤ j ∧ j ≤ (l.length : Int) then 0 else 2) else 2) = _
    by_cases h1 : 0 ≤ i ∧ i ≤ (l.length : Int)
    · rw [if_pos h1, if_pos h1, if_pos rfl]
    · rw [if_neg h1, if_neg h1, if_neg (by omega)]
  · simp only [if_neg h]
def chgTo (a b : FL) (L : List Plc) (k : Nat) : List Plc := (L.take k).filterMap (chgO a b)
theorem chgTo_next (a b : FL) (L : List Plc) (k : Nat) (h : k < L.length) : chgTo a b L (k + 1) = chgTo a b L k ++ (chgO a b (L.getD k noPlc)).toList := by
  unfold chgTo
  rw [List.take_succ_eq_append_getElem h, List.filterMap_append, show L[k] = L.getD k noPlc by simp [h]]
  congr 1
theorem chgTo_end (a b : FL) (L : List Plc) : chgTo a b L L.length = L.filterMap (chgO a b) := by rw [chgTo, List.take_length]
theorem chgTo_len (a b : FL) (L : List Plc) (k : Nat) : (chgTo a b L k).length ≤ L.length := by
  unfold chgTo
  refine Nat.le_trans (List.length_filterMap_le _ _) ?_
  rw [List.length_take]; omega
theorem compactFrom_len : ∀ (l : List Plc) (a : Plc), (compactFrom a l).length ≤ l.length
  | [], _ => Nat.le_refl _
  | b :: l, a => by
    have := compactFrom_len l b
    rw [compactFrom]
    split
    · rw [List.length_cons]; omega
    · rw [List.length_cons, List.length_cons]; omega
theorem compact_len (l : List Plc) : (compactL l).length ≤ l.length := by
  cases l with
  | nil => exact Nat.le_refl _
  | cons a l => rw [compactL, List.length_cons, List.length_cons]; have := compactFrom_len l a; omega
/-- A place of both forests is one that may be asked for. -/
theorem spot_name {a b : FL} (ha : Forest a) (hb : Forest b) {s : List Plc} (hp : ∀ x, x ∈ s ↔ x ∈ spotsF a ++ spotsF b) {y : Plc} (hy : y ∈ compactL s) : ((1 ≤ y.name.length ∧ y.name.length ≤ 8) ∧ (1 ≤ y.key.length ∧ y.key.length ≤ 16)) ∧ Bare y := by
  have hbare : ∀ y ∈ s, Bare y := fun y hy => (List.mem_append.1 ((hp y).1 hy)).elim (spots_bare a y) (spots_bare b y)
  have hy := (mem_compact s y hbare).1 hy
  refine ⟨?_, hbare y hy⟩
  rcases List.mem_append.1 ((hp y).1 hy) with h | h
  · obtain ⟨v, hv⟩ := Option.isSome_iff_exists.1 ((mem_spots ha y).1 h).2
    have := in_name ha hv
    exact ⟨this.1, this.2.1⟩
  · obtain ⟨v, hv⟩ := Option.isSome_iff_exists.1 ((mem_spots hb y).1 h).2
    have := in_name hb hv
    exact ⟨this.1, this.2.1⟩
theorem chgO_yes {a b : FL} {w : Plc} (h : fgetB a w.name w.key ≠ fgetB b w.name w.key ∨ fgetV a w.name w.key ≠ fgetV b w.name w.key) : (chgO a b w).toList = [⟨w.name, w.key, fgetV b w.name w.key, !fgetB b w.name w.key⟩] := by rw [chgO, if_pos h]; rfl
theorem chgO_no {a b : FL} {w : Plc} (h : ¬ (fgetB a w.name w.key ≠ fgetB b w.name w.key ∨ fgetV a w.name w.key ≠ fgetV b w.name w.key)) : (chgO a b w).toList = [] := by rw [chgO, if_neg h]; rfl
end Go.Proofs.Ytljdconhplgipab
