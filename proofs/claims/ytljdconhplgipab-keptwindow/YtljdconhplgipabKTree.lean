/-
  A tree out of raw items. No program is named.
-/
import Derived.Test.YtljdconhplgipabFitsF
namespace Go.Proofs.Ytljdconhplgipab
/-- A pair out of an item. -/
def itemP (it : Pr) : Pr := (keyF it.1, it.2.take 32)
theorem itemP_ok (it : Pr) : (1 ≤ (itemP it).1.length ∧ (itemP it).1.length ≤ 16) ∧ (itemP it).2.length ≤ 32 := by
  refine ⟨keyF_len it.1, ?_⟩
  simp [itemP]; omega
/-- The tree of items. -/
def mkT (l : PL) : PL := l.foldl (fun t it => putL t (itemP it)) []
theorem mkT_snoc (l : PL) (it : Pr) : mkT (l ++ [it]) = putL (mkT l) (itemP it) := by simp [mkT]
theorem mkT_take (l : PL) (m : Nat) (h : m < l.length) : mkT (l.take (m + 1)) = putL (mkT (l.take m)) (itemP (l.getD m ([], []))) := by
  rw [List.take_succ_eq_append_getElem h, mkT_snoc]; simp [h]
theorem put_pairs (t : PL) (p : Pr) (h : ∀ q ∈ t, (1 ≤ q.1.length ∧ q.1.length ≤ 16) ∧ q.2.length ≤ 32) (hp : (1 ≤ p.1.length ∧ p.1.length ≤ 16) ∧ p.2.length ≤ 32) : ∀ q ∈ putL t p, (1 ≤ q.1.length ∧ q.1.length ≤ 16) ∧ q.2.length ≤ 32 := by
  intro q hq
  rcases mem_put t p q hq with rfl | hq
  · exact hp
  · exact h q hq
theorem mkT_pre (l : PL) (n : Nat) (hn : l.length ≤ n) (h60 : n ≤ 60) : Tree (mkT l) ∧ (mkT l).length ≤ l.length := by
  suffices H : ∀ (l t : PL), Rises t → (∀ q ∈ t, (1 ≤ q.1.length ∧ q.1.length ≤ 16) ∧ q.2.length ≤ 32) → Rises (l.foldl (fun t it => putL t (itemP it)) t) ∧ (∀ q ∈ l.foldl (fun t it => putL t (itemP it)) t, (1 ≤ q.1.length ∧ q.1.length ≤ 16) ∧ q.2.length ≤ 32) ∧ (l.foldl (fun t it => putL t (itemP it)) t).length ≤ t.length + l.length by
    obtain ⟨h1, h2, h3⟩ := H l [] List.Pairwise.nil (by simp)
    have h4 : (mkT l).length ≤ l.length := by
      unfold mkT
      simpa using h3
    exact ⟨⟨by omega, h2, h1⟩, h4⟩
  intro l
  induction l with
  | nil => intro t h1 h2; exact ⟨h1, h2, by simp⟩
  | cons it r ih =>
    intro t h1 h2
    obtain ⟨g1, g2, g3⟩ := ih (putL t (itemP it)) (put_rises t _ h1) (put_pairs t _ h2 (itemP_ok it))
    refine ⟨g1, g2, Nat.le_trans g3 ?_⟩
    have := put_len t (itemP it)
    simp; omega
theorem mkT_tree (l : PL) (n : Nat) (hn : n ≤ 60) : Tree (mkT (l.take n)) := (mkT_pre _ n (by simp; omega) hn).1
theorem mkT_len (l : PL) (n : Nat) (hn : n ≤ 60) : (mkT (l.take n)).length ≤ n := Nat.le_trans (mkT_pre (l.take n) n (by simp; omega) hn).2 (by simp; omega)
/-- Put, by the place where it comes to stand. -/
theorem put_pos : ∀ (t : PL) (p : Pr) (k : Nat), k ≤ t.length → (∀ j, j < k → klt (t.getD j ([], [])).1 p.1 = true) → (k < t.length → klt (t.getD k ([], [])).1 p.1 = false) →
    putL t p = if k < t.length ∧ (t.getD k ([], [])).1 = p.1 then t.set k p else t.take k ++ ([p] ++ t.drop k)
  | [], p, k, hk, _, _ => by
    obtain rfl : k = 0 := by simpa using hk
    simp [putL]
  | q :: r, p, 0, _, _, h2 => by
    have h := h2 (by simp)
    simp only [List.getD_cons_zero] at h
    rw [putL, if_neg (by rw [h]; simp)]
    by_cases e : q.1 = p.1
    · rw [if_pos e, if_pos ⟨by simp, by simpa using e⟩]; simp
    · rw [if_neg e, if_neg (fun h => e (by simpa using h.2))]; simp
  | q :: r, p, k + 1, hk, h1, h2 => by
    have h := h1 0 (by omega)
    simp only [List.getD_cons_zero] at h
    rw [putL, if_pos h, put_pos r p k (by simpa using hk) (fun j hj => by simpa using h1 (j + 1) (by omega)) (fun hk => by simpa using h2 (by simpa using hk))]
    by_cases e : k < r.length ∧ (r.getD k ([], [])).1 = p.1
    · rw [if_pos e, if_pos ⟨by simpa using e.1, by simpa using e.2⟩]; simp
    · rw [if_neg e, if_neg (fun h => e ⟨by simpa using h.1, by simpa using h.2⟩)]; simp
end Go.Proofs.Ytljdconhplgipab
