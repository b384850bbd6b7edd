/-
  Frames and recovery, with no program. D: the four bytes that stand behind.
-/
import Derived.Test.YtljdconhplgipabTapeF
namespace Go.Proofs.Ytljdconhplgipab
open Go.RowKit
/-- Bytes behind their length in two bytes. -/
def lenB (b : List UInt8) : List UInt8 := UInt8.ofNat (b.length / 256) :: UInt8.ofNat (b.length % 256) :: b
theorem lenB_len (b : List UInt8) : (lenB b).length = b.length + 2 := rfl
def frameB (D : List UInt8 → List UInt8) (c : Cmt) : List UInt8 := lenB (commitB c) ++ D (lenB (commitB c))
def sizeD (r : List UInt8) : Nat := 256 * (r.getD 0 0).toNat + (r.getD 1 0).toNat
def frameD (D : List UInt8 → List UInt8) (r : List UInt8) : Option (Cmt × List UInt8) :=
  if r.length < 6 then none else if r.length < sizeD r + 6 ∨ 4000 < sizeD r + 2 then none else
    if D (r.take (sizeD r + 2)) = (r.drop (sizeD r + 2)).take 4 then (if decE ((r.drop 2).take (sizeD r)) = 0 then some (decC ((r.drop 2).take (sizeD r)), r.drop (sizeD r + 6)) else none) else none
theorem frame_less {D : List UInt8 → List UInt8} {r r2 : List UInt8} {c : Cmt} (h : frameD D r = some (c, r2)) : ∃ m, 6 ≤ m ∧ m ≤ r.length ∧ r2 = r.drop m ∧ commitE c = 0 := by
  unfold frameD at h
  by_cases h1 : r.length < 6
  · rw [if_pos h1] at h; cases h
  rw [if_neg h1] at h
  by_cases h2 : r.length < sizeD r + 6 ∨ 4000 < sizeD r + 2
  · rw [if_pos h2] at h; cases h
  rw [if_neg h2] at h
  by_cases h3 : D (r.take (sizeD r + 2)) = (r.drop (sizeD r + 2)).take 4
  · rw [if_pos h3] at h
    by_cases h4 : decE ((r.drop 2).take (sizeD r)) = 0
    · rw [if_pos h4] at h
      simp only [Option.some.injEq, Prod.mk.injEq] at h
      obtain ⟨rfl, rfl⟩ := h
      exact ⟨sizeD r + 6, by omega, by omega, rfl, (commit_fixed h4).1⟩
    · rw [if_neg h4] at h; cases h
  · rw [if_neg h3] at h; cases h
theorem lenB_size {b : List UInt8} (h : b.length < 65536) (x : List UInt8) : sizeD (lenB b ++ x) = b.length := by
  show 256 * (UInt8.ofNat (b.length / 256)).toNat + (UInt8.ofNat (b.length % 256)).toNat = b.length
  simp only [UInt8.toNat_ofNat']
  omega
theorem frame_len {D : List UInt8 → List UInt8} (hD : ∀ x, (D x).length = 4) (c : Cmt) : (frameB D c).length = (commitB c).length + 6 := by
  unfold frameB
  rw [List.length_append, hD, lenB_len]
theorem frame_back {D : List UInt8 → List UInt8} (hD : ∀ x, (D x).length = 4) {c : Cmt} (h : commitE c = 0) (r : List UInt8) : frameD D (frameB D c ++ r) = some (c, r) := by
  obtain ⟨s1, s2⟩ := commit_size h
  obtain ⟨d1, d2⟩ := commit_back h
  have hl := frame_len hD c
  have hz : sizeD (frameB D c ++ r) = (commitB c).length := by
    unfold frameB
    rw [List.append_assoc]
    exact lenB_size (by omega) _
  have ht : (frameB D c ++ r).take ((commitB c).length + 2) = lenB (commitB c) := by
    unfold frameB
    rw [List.append_assoc]
    exact List.take_left' (lenB_len _)
  have hd : (frameB D c ++ r).drop ((commitB c).length + 2) = D (lenB (commitB c)) ++ r := by
    unfold frameB
    rw [List.append_assoc]
    exact List.drop_left' (lenB_len _)
  have hm : ((frameB D c ++ r).drop 2).take (commitB c).length = commitB c := by
    unfold frameB
    rw [List.append_assoc]
    exact List.take_left' rfl
  have he : (frameB D c ++ r).drop ((commitB c).length + 6) = r := List.drop_left' hl
  have hlen : (frameB D c ++ r).length = (commitB c).length + 6 + r.length := by rw [List.length_append, hl]
  unfold frameD
  rw [if_neg (by omega), hz, if_neg (by omega), ht, hd, hm, he, if_pos (List.take_left' (hD _)).symm, if_pos d1, d2]
theorem frame_torn {D : List UInt8 → List UInt8} (hD : ∀ x, (D x).length = 4) {c : Cmt} (h : commitE c = 0) (k : Nat) (hk : k < (frameB D c).length) : frameD D ((frameB D c).take k) = none := by
  obtain ⟨s1, s2⟩ := commit_size h
  have hl := frame_len hD c
  have hkl : ((frameB D c).take k).length = k := by simp; omega
  unfold frameD
  by_cases h6 : k < 6
  · rw [if_pos (by omega)]
  · have hz : sizeD ((frameB D c).take k) = (commitB c).length := by
      have hz : sizeD (frameB D c ++ []) = (commitB c).length := by
        unfold frameB
        rw [List.append_assoc]
        exact lenB_size (by omega) _
      rw [List.append_nil] at hz
      rw [← hz]
      unfold sizeD
      simp only [List.getD_eq_getElem?_getD, List.getElem?_take]
      rw [if_pos (by omega), if_pos (by omega)]
    rw [if_neg (by omega), hz, if_pos (by omega)]
/-- What is recovered from here on, the next turn being this one; and what is left. -/
def recL (D : List UInt8 → List UInt8) (turn : Nat) (r : List UInt8) : List Cmt × List UInt8 :=
  match h : frameD D r with
  | some (c, r2) => if c.turn = (turn : Int) then (c :: (recL D (turn + 1) r2).1, (recL D (turn + 1) r2).2) else ([], r)
  | none => ([], r)
termination_by r.length
decreasing_by
  all_goals
    obtain ⟨m, h1, h2, h3, _⟩ := frame_less h
    rw [h3, List.length_drop]
    omega
theorem rec_go {D : List UInt8 → List UInt8} {turn : Nat} {r r2 : List UInt8} {c : Cmt} (h : frameD D r = some (c, r2)) (ht : c.turn = (turn : Int)) : recL D turn r = (c :: (recL D (turn + 1) r2).1, (recL D (turn + 1) r2).2) := by
  rw [recL]
  split
  · next c' r' h' =>
    rw [h] at h'
    simp only [Option.some.injEq, Prod.mk.injEq] at h'
    obtain ⟨rfl, rfl⟩ := h'
    rw [if_pos ht]
  · next h' => rw [h] at h'; cases h'
theorem rec_other {D : List UInt8 → List UInt8} {turn : Nat} {r r2 : List UInt8} {c : Cmt} (h : frameD D r = some (c, r2)) (ht : c.turn ≠ (turn : Int)) : recL D turn r = ([], r) := by
  rw [recL]
  split
  · next c' r' h' =>
    rw [h] at h'
    simp only [Option.some.injEq, Prod.mk.injEq] at h'
    obtain ⟨rfl, rfl⟩ := h'
    rw [if_neg ht]
  · rfl
theorem rec_stop {D : List UInt8 → List UInt8} {turn : Nat} {r : List UInt8} (h : frameD D r = none) : recL D turn r = ([], r) := by
  rw [recL]
  split
  · next c' r' h' => rw [h] at h'; cases h'
  · rfl
theorem frame_nil (D : List UInt8 → List UInt8) : frameD D [] = none := by unfold frameD; rw [if_pos (by simp)]
/-- Commits that may be, turn by turn. -/
def InTurn : Nat → List Cmt → Prop
  | _, [] => True
  | t, c :: cs => c.turn = (t : Int) ∧ commitE c = 0 ∧ InTurn (t + 1) cs
theorem InTurn.take : ∀ {t : Nat} {cs : List Cmt} (_ : InTurn t cs) (j : Nat), InTurn t (cs.take j)
  | _, [], _, j => by rw [List.take_nil]; trivial
  | _, c :: cs, _, 0 => trivial
  | t, c :: cs, h, j + 1 => ⟨h.1, h.2.1, InTurn.take h.2.2 j⟩
theorem InTurn.snoc : ∀ {t : Nat} {cs : List Cmt} {c : Cmt} (_ : InTurn t cs) (_ : c.turn = ((t + cs.length : Nat) : Int)) (_ : commitE c = 0), InTurn t (cs ++ [c])
  | t, [], c, _, h1, h2 => ⟨by simpa using h1, h2, trivial⟩
  | t, a :: cs, c, h, h1, h2 => ⟨h.1, h.2.1, InTurn.snoc h.2.2 (by rw [h1]; simp; omega) h2⟩
theorem InTurn.at : ∀ {t : Nat} {cs : List Cmt} (_ : InTurn t cs) (i : Nat) (_ : i < cs.length), (cs.getD i noCmt).turn = ((t + i : Nat) : Int) ∧ commitE (cs.getD i noCmt) = 0
  | t, [], _, i, hi => by simp at hi
  | t, c :: cs, h, 0, _ => ⟨by simpa using h.1, h.2.1⟩
  | t, c :: cs, h, i + 1, hi => by
    have := InTurn.at h.2.2 i (by simpa using hi)
    rw [show t + (i + 1) = t + 1 + i by omega]
    simpa using this
def flatT (D : List UInt8 → List UInt8) (cs : List Cmt) : List UInt8 := cs.flatMap (frameB D)
theorem flatT_cons (D : List UInt8 → List UInt8) (c : Cmt) (cs : List Cmt) : flatT D (c :: cs) = frameB D c ++ flatT D cs := List.flatMap_cons
theorem flatT_append (D : List UInt8 → List UInt8) (a b : List Cmt) : flatT D (a ++ b) = flatT D a ++ flatT D b := List.flatMap_append
theorem flatT_one (D : List UInt8 → List UInt8) (c : Cmt) : flatT D [c] = frameB D c := by simp [flatT]
theorem rec_frames {D : List UInt8 → List UInt8} (hD : ∀ x, (D x).length = 4) : ∀ {t : Nat} {cs : List Cmt} (_ : InTurn t cs) (r : List UInt8), recL D t (flatT D cs ++ r) = (cs ++ (recL D (t + cs.length) r).1, (recL D (t + cs.length) r).2)
  | t, [], _, r => rfl
  | t, c :: cs, h, r => by
    rw [flatT_cons, List.append_assoc, rec_go (frame_back hD h.2.1 _) h.1, rec_frames hD h.2.2 r, List.length_cons, show t + (cs.length + 1) = t + 1 + cs.length by omega]
    rfl
theorem rec_all {D : List UInt8 → List UInt8} (hD : ∀ x, (D x).length = 4) {t : Nat} {cs : List Cmt} (h : InTurn t cs) : recL D t (flatT D cs) = (cs, []) := by
  have := rec_frames hD h []
  rw [List.append_nil, rec_stop (frame_nil D)] at this
  simpa using this
/-- What is left is what is behind. -/
theorem rec_left (D : List UInt8 → List UInt8) : ∀ (n : Nat) (t : Nat) (r : List UInt8) (_ : r.length ≤ n), ∃ m, m ≤ r.length ∧ (recL D t r).2 = r.drop m
  | 0, t, r, h => by
    have : r = [] := List.eq_nil_of_length_eq_zero (by omega)
    subst this
    exact ⟨0, by simp, by rw [rec_stop (frame_nil D)]; rfl⟩
  | n + 1, t, r, h => by
    cases hf : frameD D r with
    | none => exact ⟨0, by omega, by rw [rec_stop hf]; rfl⟩
    | some q =>
      obtain ⟨c, r2⟩ := q
      by_cases ht : c.turn = (t : Int)
      · obtain ⟨m, h1, h2, h3, _⟩ := frame_less hf
        obtain ⟨m2, k1, k2⟩ := rec_left D n (t + 1) r2 (by rw [h3, List.length_drop]; omega)
        refine ⟨m + m2, ?_, ?_⟩
        · rw [h3, List.length_drop] at k1; omega
        · rw [rec_go hf ht]
          show (recL D (t + 1) r2).2 = _
          rw [k2, h3, List.drop_drop]
      · exact ⟨0, by omega, by rw [rec_other hf ht]; rfl⟩
/-- How many bytes are recovered. -/
def recN (D : List UInt8 → List UInt8) (r : List UInt8) : Nat := r.length - (recL D 1 r).2.length
/-- Of a torn tape the whole commits count. -/
theorem rec_torn {D : List UInt8 → List UInt8} (hD : ∀ x, (D x).length = 4) : ∀ {t : Nat} {cs : List Cmt} (_ : InTurn t cs) (k : Nat), ∃ j, j ≤ cs.length ∧ recL D t ((flatT D cs).take k) = (cs.take j, ((flatT D cs).take k).drop (flatT D (cs.take j)).length) ∧ (flatT D (cs.take j)).length ≤ k ∧ (flatT D (cs.take j)).length ≤ (flatT D cs).length ∧ (j < cs.length → k < (flatT D (cs.take (j + 1))).length)
  | t, [], _, k => ⟨0, by simp, by
      show recL D t (([] : List UInt8).take k) = _
      rw [List.take_nil, rec_stop (frame_nil D)]
      simp [flatT], by simp [flatT], by simp [flatT], fun h => by simp at h⟩
  | t, c :: cs, h, k => by
    by_cases hk : k < (frameB D c).length
    · refine ⟨0, by simp, ?_, by simp [flatT], by simp [flatT], fun _ => ?_⟩
      · rw [flatT_cons, List.take_append_of_le_length (by omega), rec_stop (frame_torn hD h.2.1 k hk)]
        simp [flatT]
      · show k < (flatT D [c]).length
        rw [flatT_one]; exact hk
    · obtain ⟨j, h1, h2, h3, h4, h5⟩ := rec_torn hD h.2.2 (k - (frameB D c).length)
      have ht : (flatT D (c :: cs)).take k = frameB D c ++ (flatT D cs).take (k - (frameB D c).length) := by
        rw [flatT_cons, List.take_append, List.take_of_length_le (by omega)]
      refine ⟨j + 1, by simp; omega, ?_, ?_, ?_, fun hj => ?_⟩
      · rw [ht, rec_go (frame_back hD h.2.1 _) h.1, h2, List.take_succ_cons, flatT_cons]
        rw [List.length_append, ← List.drop_drop, List.drop_left' rfl]
      · rw [List.take_succ_cons, flatT_cons, List.length_append]; omega
      · rw [List.take_succ_cons, flatT_cons, flatT_cons, List.length_append, List.length_append]; omega
      · have := h5 (by simpa using hj)
        rw [List.take_succ_cons, flatT_cons, List.length_append]; omega
theorem flatT_take_le (D : List UInt8 → List UInt8) (cs : List Cmt) (i j : Nat) (h : i ≤ j) : (flatT D (cs.take i)).length ≤ (flatT D (cs.take j)).length := by
  have : cs.take i = (cs.take j).take i := by rw [List.take_take, Nat.min_eq_left h]
  rw [this]
  conv => rhs; rw [← List.take_append_drop i (cs.take j), flatT_append]
  rw [List.length_append]; omega
/-- Commits that lie whole ahead of the tear are recovered. -/
theorem rec_torn_least {D : List UInt8 → List UInt8} {cs : List Cmt} {k j i : Nat} (hi : i ≤ cs.length) (hj : j < cs.length → k < (flatT D (cs.take (j + 1))).length) (hk : (flatT D (cs.take i)).length ≤ k) : i ≤ j := by
  by_cases h : i ≤ j
  · exact h
  · have := flatT_take_le D cs (j + 1) i (by omega)
    have := hj (by omega)
    omega
theorem flatT_size {D : List UInt8 → List UInt8} (hD : ∀ x, (D x).length = 4) : ∀ {t : Nat} {cs : List Cmt} (_ : InTurn t cs), (flatT D cs).length ≤ 600 * cs.length
  | t, [], _ => by simp [flatT]
  | t, c :: cs, h => by
    have := flatT_size hD h.2.2
    have h1 := frame_len hD c
    have h2 := commit_size h.2.1
    rw [flatT_cons, List.length_append, List.length_cons]
    omega
theorem flatT_grows (D : List UInt8 → List UInt8) (cs : List Cmt) (i : Nat) (h : i < cs.length) : (flatT D (cs.take (i + 1))).length = (flatT D (cs.take i)).length + (frameB D (cs.getD i noCmt)).length := by
  rw [List.take_succ_eq_append_getElem h, flatT_append, List.length_append, flatT_one, show cs[i] = cs.getD i noCmt by simp [h]]
end Go.Proofs.Ytljdconhplgipab
