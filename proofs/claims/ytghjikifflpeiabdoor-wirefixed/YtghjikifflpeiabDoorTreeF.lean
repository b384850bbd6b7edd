/-
  What tree.Get, Put, Delete, Range answer, by the document: an error, and what comes with it. No program is named.
-/
import Derived.Test.YtghjikifflpeiabDoorTrees
namespace Go.Proofs.YtghjikifflpeiabDoor
/-- What pairs and a key are refused for. -/
def getE (l : PL) (k : List UInt8) : Int := if pairsFaultF l = 0 then keyFaultF k.length else pairsFaultF l
theorem getE_tree {l : PL} {k : List UInt8} (h : getE l k = 0) : Tree l := by
  unfold getE at h
  by_cases h0 : pairsFaultF l = 0
  · exact (tree_iff l).1 h0
  · rw [if_neg h0] at h; exact absurd h h0
theorem keyFault_iff (n : Nat) : keyFaultF n = 0 ↔ 1 ≤ n ∧ n ≤ 16 := by
  unfold keyFaultF
  by_cases h : 1 ≤ n ∧ n ≤ 16
  · rw [if_pos h]; exact ⟨fun _ => h, fun _ => rfl⟩
  · rw [if_neg h]
    constructor
    · intro h2; cases h2
    · intro h2; exact absurd h2 h
theorem getE_key {l : PL} {k : List UInt8} (h : getE l k = 0) : 1 ≤ k.length ∧ k.length ≤ 16 := by
  have ht := (tree_iff l).2 (getE_tree h)
  unfold getE at h
  rw [if_pos ht] at h
  exact (keyFault_iff _).1 h
theorem getE_ok {l : PL} {k : List UInt8} (h : Tree l) (hk : 1 ≤ k.length ∧ k.length ≤ 16) : getE l k = 0 := by
  unfold getE
  rw [if_pos ((tree_iff l).2 h)]
  exact (keyFault_iff _).2 hk
/-- Get: whether there is one, and its bytes. -/
def getB (l : PL) (k : List UInt8) : Bool := getE l k == 0 && (getF l k).isSome
def getV (l : PL) (k : List UInt8) : List UInt8 := if getE l k = 0 then (getF l k).getD [] else []
/-- Delete. -/
def delF (l : PL) (k : List UInt8) : PL := if getE l k = 0 then delL l k else []
theorem del_take (l : PL) (k : List UInt8) (m : Nat) (h : m < l.length) : delL (l.take (m + 1)) k = if (l.getD m ([], [])).1 = k then delL (l.take m) k else delL (l.take m) k ++ [l.getD m ([], [])] := by
  rw [List.take_succ_eq_append_getElem h, show l[m] = l.getD m ([], []) by simp [h], delL, List.filter_append]
  generalize l.getD m ([], []) = P
  by_cases e : P.1 = k
  · rw [if_pos e, List.filter_cons_of_neg (by simp [e])]; simp [delL]
  · rw [if_neg e, List.filter_cons_of_pos (by simp [e])]; simp [delL]
theorem del_len (l : PL) (k : List UInt8) : (delL l k).length ≤ l.length := List.length_filter_le _ _
/-- Range. -/
def rangeE (l : PL) (f t : List UInt8) : Int := if getE l f = 0 then keyFaultF t.length else getE l f
theorem rangeE_get {l : PL} {f t : List UInt8} (h : rangeE l f t = 0) : getE l f = 0 := by
  unfold rangeE at h
  by_cases h0 : getE l f = 0
  · exact h0
  · rw [if_neg h0] at h; exact absurd h h0
def rangeF (l : PL) (f t : List UInt8) : PL := if rangeE l f t = 0 then rangeL l f t else []
theorem range_take (l : PL) (f t : List UInt8) (m : Nat) (h : m < l.length) : rangeL (l.take (m + 1)) f t = if (!klt (l.getD m ([], [])).1 f && !klt t (l.getD m ([], [])).1) = true then rangeL (l.take m) f t ++ [l.getD m ([], [])] else rangeL (l.take m) f t := by
  rw [List.take_succ_eq_append_getElem h, show l[m] = l.getD m ([], []) by simp [h], rangeL, List.filter_append]
  generalize l.getD m ([], []) = P
  by_cases e : (!klt P.1 f && !klt t P.1) = true
  · rw [if_pos e, List.filter_cons_of_pos (p := fun q : Pr => !klt q.1 f && !klt t q.1) e]; simp [rangeL]
  · rw [if_neg e, List.filter_cons_of_neg (p := fun q : Pr => !klt q.1 f && !klt t q.1) e]; simp [rangeL]
theorem range_len (l : PL) (f t : List UInt8) : (rangeL l f t).length ≤ l.length := List.length_filter_le _ _
/-- Put. -/
def putE0 (l : PL) (p : Pr) : Int := if pairsFaultF l = 0 then pairFaultF p else pairsFaultF l
def putE (l : PL) (p : Pr) : Int := if putE0 l p = 0 then (if 60 < (putL l p).length then 11 else 0) else putE0 l p
def putF (l : PL) (p : Pr) : PL := if putE l p = 0 then putL l p else []
theorem put_len (l : PL) (p : Pr) : (putL l p).length ≤ l.length + 1 := by
  induction l with
  | nil => simp [putL]
  | cons q r ih =>
    rw [putL]
    by_cases h1 : klt q.1 p.1 = true
    · rw [if_pos h1]; simp; omega
    · rw [if_neg h1]
      by_cases h2 : q.1 = p.1
      · rw [if_pos h2]; simp
      · rw [if_neg h2]; simp
end Go.Proofs.YtghjikifflpeiabDoor
