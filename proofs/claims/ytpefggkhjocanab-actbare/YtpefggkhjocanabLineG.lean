/-
  Texts of lines, with no program: what P10.3 and P10.4 say, and what comes of it.
-/
import Derived.Test.YtpefggkhjocanabLineF
namespace Go.Proofs.Ytpefggkhjocanab
open Go.RowKit
def showB (l : List Ac) : List UInt8 := l.flatMap fun a => lineF a ++ [10]
theorem showB_cons (a : Ac) (l : List Ac) : showB (a :: l) = lineF a ++ 10 :: showB l := by simp [showB]
theorem showB_append (l k : List Ac) : showB (l ++ k) = showB l ++ showB k := by simp [showB]
/-- The first act that may not be: its place and what is wrong. -/
def badA : Nat → List Ac → Option (Nat × Int)
  | _, [] => none
  | n, a :: l => if actE a = 0 then badA (n + 1) l else some (n, actE a)
def showE (l : List Ac) : Int := if 100000 < l.length then 1 else match badA 0 l with | none => 0 | some (_, e) => e
def showI (l : List Ac) : Nat := if 100000 < l.length then 0 else match badA 0 l with | none => 0 | some (i, _) => i
def showT (l : List Ac) : List UInt8 := if showE l = 0 then showB l else []
theorem badA_bad : ∀ (l : List Ac) (n i : Nat) (e : Int), badA n l = some (i, e) → e ≠ 0
  | [], _, _, _, h => by cases h
  | a :: l, n, i, e, h => by
    rw [badA] at h
    by_cases ha : actE a = 0
    · rw [if_pos ha] at h; exact badA_bad l _ _ _ h
    · rw [if_neg ha] at h
      simp at h
      rw [← h.2]; exact ha
theorem badA_none : ∀ (l : List Ac) (n : Nat), badA n l = none ↔ ∀ a ∈ l, ActOK a
  | [], _ => by simp [badA]
  | a :: l, n => by
    rw [badA]
    by_cases ha : actE a = 0
    · rw [if_pos ha, badA_none l (n + 1)]
      simp only [List.mem_cons, forall_eq_or_imp]
      exact ⟨fun h => ⟨(act_iff a).1 ha, h⟩, fun h => h.2⟩
    · rw [if_neg ha]
      exact ⟨fun h => (by cases h), fun h => absurd ((act_iff a).2 (h a (by simp))) ha⟩
/-- As the loop goes. -/
theorem badA_step (l : List Ac) (m : Nat) (hm : m < l.length) : badA m (l.drop m) = if actE (l.getD m noAc) = 0 then badA (m + 1) (l.drop (m + 1)) else some (m, actE (l.getD m noAc)) := by
  rw [List.drop_eq_getElem_cons hm, badA, show l[m] = l.getD m noAc by simp [hm]]
theorem showB_step (l : List Ac) (m : Nat) (hm : m < l.length) : showB (l.take (m + 1)) = showB (l.take m) ++ lineF (l.getD m noAc) ++ [10] := by
  rw [List.take_succ_eq_append_getElem hm, showB_append, show l[m] = l.getD m noAc by simp [hm], List.append_assoc]
  congr 1
  simp [showB]
theorem show_ok {l : List Ac} (h : ∀ a ∈ l, ActOK a) (hl : l.length ≤ 100000) : showE l = 0 ∧ showI l = 0 ∧ showT l = showB l := by
  have hb := (badA_none l 0).2 h
  have he : showE l = 0 := by rw [showE, if_neg (by omega), hb]
  exact ⟨he, by rw [showI, if_neg (by omega), hb], by rw [showT, if_pos he]⟩
/-- Reading: acts so far, the line so far, what is left; an error, its place, the acts. -/
def rdA : List Ac → List UInt8 → List UInt8 → Int × Nat × List Ac
  | acc, cur, [] => if cur.length = 0 then (0, 0, acc) else if acc.length = 100000 then (11, 100000, []) else (4, acc.length, [])
  | acc, cur, c :: r => if c = 10 then (if acc.length = 100000 then (11, 100000, []) else if (lineA cur).kind = 0 then (4, acc.length, []) else rdA (acc ++ [lineA cur]) [] r) else rdA acc (cur ++ [c]) r
def readE (t : List UInt8) : Int := if 2000000 < t.length then 1 else (rdA [] [] t).1
def readI (t : List UInt8) : Nat := if 2000000 < t.length then 0 else (rdA [] [] t).2.1
def readL (t : List UInt8) : List Ac := if 2000000 < t.length then [] else (rdA [] [] t).2.2
theorem rdA_run : ∀ (s : List UInt8) (acc : List Ac) (cur r : List UInt8), (∀ c ∈ s, c ≠ 10) → rdA acc cur (s ++ r) = rdA acc (cur ++ s) r
  | [], acc, cur, r, _ => by rw [List.nil_append, List.append_nil]
  | c :: s, acc, cur, r, h => by
    rw [List.cons_append, rdA, if_neg (h c (by simp)), rdA_run s acc (cur ++ [c]) r fun x hx => h x (by simp [hx])]
    rw [List.append_assoc]; rfl
theorem rdA_line {a : Ac} (h : ActOK a) (acc : List Ac) (r : List UInt8) (hl : acc.length < 100000) : rdA acc [] (lineF a ++ 10 :: r) = rdA (acc ++ [a]) [] r := by
  rw [rdA_run _ _ _ _ lineF_no, List.nil_append, rdA, if_pos rfl, if_neg (by omega), lineA_lineF h, if_neg (by have := h.kind; omega)]
theorem rdA_show : ∀ (l : List Ac) (acc : List Ac) (r : List UInt8), (∀ a ∈ l, ActOK a) → acc.length + l.length ≤ 100000 → rdA acc [] (showB l ++ r) = rdA (acc ++ l) [] r
  | [], acc, r, _, _ => by rw [List.append_nil]; rfl
  | a :: l, acc, r, h, hl => by
    rw [List.length_cons] at hl
    rw [showB_cons, List.append_assoc, List.cons_append, rdA_line (h a (by simp)) acc _ (by omega), rdA_show l (acc ++ [a]) r (fun x hx => h x (by simp [hx])) (by rw [List.length_append, List.length_singleton]; omega), List.append_assoc]
    rfl
theorem rdA_bad {w : List UInt8} (hw : ∀ c ∈ w, c ≠ 10) (hb : (lineA w).kind = 0) (acc : List Ac) (r : List UInt8) (hl : acc.length < 100000) : rdA acc [] (w ++ 10 :: r) = (4, acc.length, []) := by
  rw [rdA_run _ _ _ _ hw, List.nil_append, rdA, if_pos rfl, if_neg (by omega), if_pos hb]
theorem rdA_err : ∀ (r : List UInt8) (acc : List Ac) (cur : List UInt8), (rdA acc cur r).1 ≠ 0 → (rdA acc cur r).2.2 = []
  | [], acc, cur, h => by
    rw [rdA] at h ⊢
    by_cases h1 : cur.length = 0
    · rw [if_pos h1] at h; exact absurd rfl h
    · rw [if_neg h1]
      by_cases h2 : acc.length = 100000
      · rw [if_pos h2]
      · rw [if_neg h2]
  | c :: r, acc, cur, h => by
    rw [rdA] at h ⊢
    by_cases h1 : c = 10
    · rw [if_pos h1] at h ⊢
      by_cases h2 : acc.length = 100000
      · rw [if_pos h2]
      · rw [if_neg h2] at h ⊢
        by_cases h3 : (lineA cur).kind = 0
        · rw [if_pos h3]
        · rw [if_neg h3] at h ⊢
          exact rdA_err r _ _ h
    · rw [if_neg h1] at h ⊢
      exact rdA_err r _ _ h
theorem rdA_fixed : ∀ (r : List UInt8) (acc : List Ac) (cur : List UInt8), (rdA acc cur r).1 = 0 → acc.length ≤ 100000 → (rdA acc cur r).2.1 = 0 ∧ ∃ cs, (rdA acc cur r).2.2 = acc ++ cs ∧ (∀ a ∈ cs, ActOK a) ∧ cur ++ r = showB cs ∧ (acc ++ cs).length ≤ 100000
  | [], acc, cur, h, hl => by
    rw [rdA] at h ⊢
    by_cases h1 : cur.length = 0
    · rw [if_pos h1]
      exact ⟨rfl, [], by rw [List.append_nil], fun a ha => (by simp at ha), by rw [List.eq_nil_of_length_eq_zero h1]; rfl, by rw [List.append_nil]; exact hl⟩
    · rw [if_neg h1] at h
      by_cases h2 : acc.length = 100000
      · rw [if_pos h2] at h; cases h
      · rw [if_neg h2] at h; cases h
  | c :: r, acc, cur, h, hl => by
    rw [rdA] at h ⊢
    by_cases h1 : c = 10
    · rw [if_pos h1] at h ⊢
      by_cases h2 : acc.length = 100000
      · rw [if_pos h2] at h; cases h
      · rw [if_neg h2] at h ⊢
        by_cases h3 : (lineA cur).kind = 0
        · rw [if_pos h3] at h; cases h
        · rw [if_neg h3] at h ⊢
          obtain ⟨a1, a2⟩ := lineF_lineA h3
          obtain ⟨k1, cs, k2, k3, k4, k5⟩ := rdA_fixed r (acc ++ [lineA cur]) [] h (by rw [List.length_append, List.length_singleton]; omega)
          refine ⟨k1, lineA cur :: cs, by rw [k2, List.append_assoc]; rfl, fun a ha => ?_, ?_, by rw [List.append_assoc] at k5; exact k5⟩
          · rcases List.mem_cons.1 ha with rfl | ha
            · exact a1
            · exact k3 a ha
          · rw [showB_cons, a2, ← k4, h1]; rfl
    · rw [if_neg h1] at h ⊢
      obtain ⟨k1, cs, k2, k3, k4, k5⟩ := rdA_fixed r acc (cur ++ [c]) h hl
      exact ⟨k1, cs, k2, k3, by rw [← k4, List.append_assoc]; rfl, k5⟩
/-- ACTS ARE READ AS THEY WERE SHOWN. -/
theorem read_show {l : List Ac} (h : ∀ a ∈ l, ActOK a) (hl : l.length ≤ 100000) (ht : (showB l).length ≤ 2000000) : readE (showB l) = 0 ∧ readI (showB l) = 0 ∧ readL (showB l) = l := by
  have e : rdA [] [] (showB l) = (0, 0, l) := by
    have := rdA_show l [] [] h (by simpa using hl)
    rw [List.append_nil, List.nil_append] at this
    rw [this, rdA, if_pos (by rfl)]
  exact ⟨by rw [readE, if_neg (by omega), e], by rw [readI, if_neg (by omega), e], by rw [readL, if_neg (by omega), e]⟩
/-- AND SHOWN AS THEY WERE READ. -/
theorem show_read {t : List UInt8} (h : readE t = 0) : readI t = 0 ∧ (∀ a ∈ readL t, ActOK a) ∧ (readL t).length ≤ 100000 ∧ showB (readL t) = t := by
  unfold readE at h
  by_cases hl : 2000000 < t.length
  · rw [if_pos hl] at h; cases h
  · rw [if_neg hl] at h
    obtain ⟨k1, cs, k2, k3, k4, k5⟩ := rdA_fixed t [] [] h (by simp)
    rw [List.nil_append] at k2 k4 k5
    have e : readL t = cs := by rw [readL, if_neg hl, k2]
    rw [e]
    exact ⟨by rw [readI, if_neg hl, k1], k3, k5, k4.symm⟩
theorem read_err {t : List UInt8} (h : readE t ≠ 0) : readL t = [] := by
  unfold readE at h
  unfold readL
  by_cases hl : 2000000 < t.length
  · rw [if_pos hl]
  · rw [if_neg hl] at h ⊢
    exact rdA_err t [] [] h
/-- A LINE THAT IS NONE IS TOLD BY ITS PLACE. -/
theorem read_bad {l : List Ac} (h : ∀ a ∈ l, ActOK a) (hl : l.length < 100000) {w : List UInt8} (hw : ∀ c ∈ w, c ≠ 10) (hb : (lineA w).kind = 0) (r : List UInt8) (ht : (showB l ++ (w ++ 10 :: r)).length ≤ 2000000) : readE (showB l ++ (w ++ 10 :: r)) = 4 ∧ readI (showB l ++ (w ++ 10 :: r)) = l.length ∧ readL (showB l ++ (w ++ 10 :: r)) = [] := by
  have e : rdA [] [] (showB l ++ (w ++ 10 :: r)) = (4, l.length, []) := by
    rw [rdA_show l [] _ h (by simp; omega), List.nil_append, rdA_bad hw hb l r hl]
  exact ⟨by rw [readE, if_neg (by omega), e], by rw [readI, if_neg (by omega), e], by rw [readL, if_neg (by omega), e]⟩
/-- How long lines are. -/
theorem lineF_len {a : Ac} (h : ActOK a) : (lineF a).length ≤ 12 + 2 * a.data.length := by
  have hk := h.kind
  unfold lineF
  by_cases h1 : a.kind = 1
  · rw [if_pos h1]
    have hs := h.sess h1
    have := decD_len 5 a.sess.toNat (by have : a.sess.toNat ≤ 7 := (by omega); show _ < 1000000; omega)
    have hx := hexL_len a.data
    simp only [List.length_append, List.length_cons, wAsk, List.length_nil]
    omega
  · rw [if_neg h1]
    by_cases h2 : a.kind = 2
    · rw [if_pos h2]; simp [wSync]; omega
    · rw [if_neg h2]
      by_cases h3 : a.kind = 3
      · rw [if_pos h3]
        have hs := h.keep h3
        have := decD_len 5 a.keep.toNat (by have : a.keep.toNat ≤ 200000 := (by omega); show _ < 1000000; omega)
        simp only [List.length_append, List.length_cons, wCrash, List.length_nil]
        omega
      · rw [if_neg h3]
        by_cases h4 : a.kind = 4
        · rw [if_pos h4]; simp [wStart]; omega
        · rw [if_neg h4]; simp
theorem showB_len : ∀ (l : List Ac) (m : Nat), (∀ a ∈ l, ActOK a ∧ a.data.length ≤ m) → (showB l).length ≤ (13 + 2 * m) * l.length
  | [], m, _ => by simp [showB]
  | a :: l, m, h => by
    have h1 := h a (by simp)
    have h2 := lineF_len h1.1
    have ih := showB_len l m fun x hx => h x (by simp [hx])
    rw [showB_cons, List.length_append, List.length_cons, List.length_cons, Nat.mul_succ]
    omega
/-- What canopykeep.Act makes: of a kind (0 to 3), a number for each word, bytes. -/
def acOf (k s q : Nat) (d : List UInt8) : Ac := if k = 0 then ⟨1, (s : Int), 0, d.take 80⟩ else if k = 2 then ⟨3, 0, (q : Int), []⟩ else ⟨(k : Int) + 1, 0, 0, []⟩
theorem acOf_ok {k s q : Nat} (hk : k < 4) (hs : s < 8) (hq : q < 1000) (d : List UInt8) : ActOK (acOf k s q d) ∧ (acOf k s q d).data.length ≤ 80 := by
  unfold acOf
  by_cases h0 : k = 0
  · rw [if_pos h0]
    refine ⟨⟨(by show (1 : Int) ≤ 1 ∧ (1 : Int) ≤ 4; omega), fun _ => (by show 0 ≤ (s : Int) ∧ (s : Int) ≤ 7; omega), fun h => (by cases h), by show (d.take 80).length ≤ 4000; rw [List.length_take]; omega, fun h => absurd rfl h, fun _ => rfl, fun h => absurd rfl h⟩, by show (d.take 80).length ≤ 80; rw [List.length_take]; omega⟩
  · rw [if_neg h0]
    by_cases h2 : k = 2
    · rw [if_pos h2]
      refine ⟨⟨(by show (1 : Int) ≤ 3 ∧ (3 : Int) ≤ 4; omega), fun h => (by cases h), fun _ => (by show 0 ≤ (q : Int) ∧ (q : Int) ≤ 200000; omega), (by simp), fun _ => rfl, fun h => absurd rfl h, fun _ => rfl⟩, by simp⟩
    · rw [if_neg h2]
      refine ⟨⟨by show (1 : Int) ≤ (k : Int) + 1 ∧ (k : Int) + 1 ≤ 4; omega, fun h => ?_, fun h => ?_, by simp, fun _ => rfl, fun _ => rfl, fun _ => rfl⟩, by simp⟩
      · replace h : (k : Int) + 1 = 1 := h; omega
      · replace h : (k : Int) + 1 = 3 := h; omega
/-- ActBare. -/
theorem bare_sess {a : Ac} (h : ActOK a) : decide (actE ⟨a.kind, 3, a.keep, a.data⟩ = 0) = decide (a.kind = 1) := by
  by_cases h1 : a.kind = 1
  · rw [decide_eq_true h1, decide_eq_true]
    exact (act_iff _).2 ⟨h.kind, fun _ => by show (0 : Int) ≤ 3 ∧ (3 : Int) ≤ 7; omega, h.keep, h.data, fun e => absurd h1 e, h.noKeep, h.noData⟩
  · rw [decide_eq_false h1, decide_eq_false]
    intro e
    have := ((act_iff _).1 e).noSess h1
    replace this : (3 : Int) = 0 := this
    omega
theorem bare_keep {a : Ac} (h : ActOK a) : decide (actE ⟨a.kind, a.sess, 9, a.data⟩ = 0) = decide (a.kind = 3) := by
  by_cases h1 : a.kind = 3
  · rw [decide_eq_true h1, decide_eq_true]
    exact (act_iff _).2 ⟨h.kind, h.sess, fun _ => by show (0 : Int) ≤ 9 ∧ (9 : Int) ≤ 200000; omega, h.data, h.noSess, fun e => absurd h1 e, h.noData⟩
  · rw [decide_eq_false h1, decide_eq_false]
    intro e
    have := ((act_iff _).1 e).noKeep h1
    replace this : (9 : Int) = 0 := this
    omega
theorem bare_data {a : Ac} (h : ActOK a) (x : UInt8) : decide (actE ⟨a.kind, a.sess, a.keep, [x]⟩ = 0) = decide (a.kind = 1) := by
  by_cases h1 : a.kind = 1
  · rw [decide_eq_true h1, decide_eq_true]
    exact (act_iff _).2 ⟨h.kind, h.sess, h.keep, by simp, fun e => absurd h1 e, h.noKeep, fun e => absurd h1 e⟩
  · rw [decide_eq_false h1, decide_eq_false]
    intro e
    have := ((act_iff _).1 e).noData h1
    replace this : [x] = [] := this
    cases this
theorem show_long {l : List Ac} (h : 100000 < l.length) : showE l = 1 ∧ showI l = 0 ∧ showT l = [] := by
  have e : showE l = 1 := by rw [showE, if_pos h]
  exact ⟨e, by rw [showI, if_pos h], by rw [showT, e, if_neg (by decide)]⟩
theorem show_end {l : List Ac} (h : l.length ≤ 100000) (hb : badA 0 l = none) : showE l = 0 ∧ showI l = 0 ∧ showT l = showB l := by
  have e : showE l = 0 := by rw [showE, if_neg (by omega), hb]
  exact ⟨e, by rw [showI, if_neg (by omega), hb], by rw [showT, if_pos e]⟩
theorem show_bad {l : List Ac} (h : l.length ≤ 100000) {i : Nat} {e : Int} (hb : badA 0 l = some (i, e)) (he : e ≠ 0) : showE l = e ∧ showI l = i ∧ showT l = [] := by
  have h1 : showE l = e := by rw [showE, if_neg (by omega), hb]
  exact ⟨h1, by rw [showI, if_neg (by omega), hb], by rw [showT, h1, if_neg he]⟩
theorem show_go {l : List Ac} {m : Nat} (hm : m < l.length) (hb : badA 0 l = badA m (l.drop m)) :
    (actE (l.getD m noAc) = 0 → badA 0 l = badA (m + 1) (l.drop (m + 1))) ∧ (actE (l.getD m noAc) ≠ 0 → badA 0 l = some (m, actE (l.getD m noAc))) := by
  rw [hb, badA_step l m hm]
  exact ⟨fun h => by rw [if_pos h], fun h => by rw [if_neg h]⟩
end Go.Proofs.Ytpefggkhjocanab
