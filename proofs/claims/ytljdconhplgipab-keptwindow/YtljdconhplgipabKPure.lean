/-
  Trees that are put to and taken from: what the laws of canopykeep rest on. No program is named.
-/
import Derived.Test.YtljdconhplgipabKTree
namespace Go.Proofs.Ytljdconhplgipab
theorem putE_ok (t : PL) (p : Pr) (h : Tree t) (hp : (1 ≤ p.1.length ∧ p.1.length ≤ 16) ∧ p.2.length ≤ 32) (hl : t.length < 60) : putE t p = 0 ∧ putF t p = putL t p ∧ Tree (putL t p) := by
  have h0 : putE0 t p = 0 := by rw [putE0, if_pos ((tree_iff t).2 h)]; exact (pairFault_iff p).2 hp
  have hlen := put_len t p
  have h1 : putE t p = 0 := by rw [putE, if_pos h0, if_neg (by omega)]
  exact ⟨h1, by rw [putF, if_pos h1], ⟨by omega, put_pairs t p h.pairs hp, put_rises t p h.rises⟩⟩
theorem delF_ok (t : PL) (k : List UInt8) (h : Tree t) (hk : 1 ≤ k.length ∧ k.length ≤ 16) : getE t k = 0 ∧ delF t k = delL t k ∧ Tree (delL t k) := by
  have h1 := getE_ok h hk
  refine ⟨h1, by rw [delF, if_pos h1], ⟨Nat.le_trans (del_len t k) h.room, fun p hp => h.pairs p (List.mem_filter.1 hp).1, del_rises t k h.rises⟩⟩
theorem rangeF_ok (t : PL) (f u : List UInt8) (h : Tree t) (hf : 1 ≤ f.length ∧ f.length ≤ 16) (hu : 1 ≤ u.length ∧ u.length ≤ 16) : rangeE t f u = 0 ∧ rangeF t f u = rangeL t f u ∧ Tree (rangeL t f u) := by
  have h1 : rangeE t f u = 0 := by rw [rangeE, if_pos (getE_ok h hf)]; exact (keyFault_iff _).2 hu
  refine ⟨h1, by rw [rangeF, if_pos h1], ⟨Nat.le_trans (range_len t f u) h.room, fun p hp => h.pairs p (List.mem_filter.1 hp).1, range_rises t f u h.rises⟩⟩
theorem get_ok (t : PL) (k : List UInt8) (h : Tree t) (hk : 1 ≤ k.length ∧ k.length ≤ 16) : getE t k = 0 ∧ getB t k = (getF t k).isSome ∧ getV t k = (getF t k).getD [] := by
  have h1 := getE_ok h hk
  exact ⟨h1, by rw [getB, h1]; simp, by rw [getV, if_pos h1]⟩
theorem tree_fault (t : PL) (h : Tree t) : pairsFaultF t = 0 := (tree_iff t).2 h
theorem put_comm (t : PL) (p q : Pr) (h : Rises t) (hne : p.1 ≠ q.1) : putL (putL t p) q = putL (putL t q) p := by
  refine rises_ext _ _ (put_rises _ _ (put_rises _ _ h)) (put_rises _ _ (put_rises _ _ h)) fun k => ?_
  rw [get_put _ _ _ (put_rises _ _ h), get_put _ _ _ h, get_put _ _ _ (put_rises _ _ h), get_put _ _ _ h]
  by_cases h1 : q.1 = k
  · rw [if_pos h1, if_pos h1, if_neg (fun h2 => hne (h2.trans h1.symm))]
  · rw [if_neg h1, if_neg h1]
theorem put_same (t : PL) (p q : Pr) (h : Rises t) (he : p.1 = q.1) : putL (putL t p) q = putL t q := by
  refine rises_ext _ _ (put_rises _ _ (put_rises _ _ h)) (put_rises _ _ h) fun k => ?_
  rw [get_put _ _ _ (put_rises _ _ h), get_put _ _ _ h, get_put _ _ _ h]
  by_cases h1 : q.1 = k
  · rw [if_pos h1, if_pos h1]
  · rw [if_neg h1, if_neg h1, if_neg (by rw [he]; exact h1)]
theorem del_put (t : PL) (p : Pr) (h : Rises t) : delL (putL t p) p.1 = delL t p.1 := by
  refine rises_ext _ _ (del_rises _ _ (put_rises _ _ h)) (del_rises _ _ h) fun k => ?_
  rw [get_del, get_del, get_put _ _ _ h]
  by_cases h1 : p.1 = k
  · rw [if_pos h1, if_pos h1]
  · rw [if_neg h1, if_neg h1, if_neg h1]
theorem put_some (t : PL) (p : Pr) : putL t p ≠ [] := by
  cases t with
  | nil => simp [putL]
  | cons q r =>
    rw [putL]
    by_cases h1 : klt q.1 p.1 = true
    · rw [if_pos h1]; simp
    · rw [if_neg h1]
      by_cases h2 : q.1 = p.1
      · rw [if_pos h2]; simp
      · rw [if_neg h2]; simp
theorem del_none (t : PL) (k : List UInt8) (h : getF t k = none) : delL t k = t := by
  induction t with
  | nil => rfl
  | cons q r ih =>
    rw [get_cons] at h
    by_cases e : q.1 = k
    · rw [if_pos e] at h; cases h
    · rw [if_neg e] at h
      have := ih h
      unfold delL at this ⊢
      rw [List.filter_cons_of_pos (by simp [e]), this]
theorem put_len_new (t : PL) (p : Pr) (h : getF t p.1 = none) : (putL t p).length = t.length + 1 := by
  induction t with
  | nil => simp [putL]
  | cons q r ih =>
    rw [get_cons] at h
    by_cases e : q.1 = p.1
    · rw [if_pos e] at h; cases h
    · rw [if_neg e] at h
      rw [putL]
      by_cases h1 : klt q.1 p.1 = true
      · rw [if_pos h1]; simp [ih h]
      · rw [if_neg h1, if_neg e]; simp
theorem del_len_old (t : PL) (k : List UInt8) (hr : Rises t) (h : (getF t k).isSome = true) : (delL t k).length + 1 = t.length := by
  induction t with
  | nil => simp [getF] at h
  | cons q r ih =>
    have hp := List.pairwise_cons.1 hr
    rw [get_cons] at h
    by_cases e : q.1 = k
    · have hn : getF r k = none := get_head_none r k fun p hp' => by rw [← e]; exact hp.1 p hp'
      have := del_none r k hn
      unfold delL at this ⊢
      rw [List.filter_cons_of_neg (by simp [e]), this]; simp
    · rw [if_neg e] at h
      have := ih hp.2 h
      unfold delL at this ⊢
      rw [List.filter_cons_of_pos (by simp [e])]
      simp; omega
end Go.Proofs.Ytljdconhplgipab
