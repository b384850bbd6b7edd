/-
  Commits out of their turns, turns that are kept, with no program: what HistoryOrder and KeptWindow rest on.
-/
import Derived.Test.YtljdconhplgipabHistF
namespace Go.Proofs.Ytljdconhplgipab
open Go.RowKit
theorem histFrom_goes : ∀ (a b : List Cmt) (f : FL) (i : Nat), Goes f i a → histFrom f i (a ++ b) = histFrom (foldH f a) (i + a.length) b
  | [], _, _, _, _ => rfl
  | c :: a, b, f, i, h => by
    show histFrom f i (c :: (a ++ b)) = _
    rw [histFrom, if_pos h.1, if_pos h.2.1, if_pos h.2.2.1, histFrom_goes a b _ _ h.2.2.2, List.length_cons, show i + 1 + a.length = i + (a.length + 1) by omega]
    rfl
/-- A commit whose turn is another one. -/
def turned (c : Cmt) (d : Int) : Cmt := ⟨c.turn + d, c.writes⟩
theorem turned_ok {c : Cmt} (h : commitE c = 0) {d : Int} (h1 : 1 ≤ d) (h2 : c.turn + d ≤ 1048576) : commitE (turned c d) = 0 := by
  obtain ⟨k1, k2, k3⟩ := (commit_iff c).1 h
  exact (commit_iff _).2 ⟨⟨by show 1 ≤ c.turn + d; omega, h2⟩, k2, k3⟩
theorem hist_order {cs : List Cmt} (h : Goes [] 0 cs) (hl : cs.length ≤ 300) (i : Nat) (hi : i < cs.length) {d : Int} (h1 : 1 ≤ d) (h2 : d ≤ 1000) : histE (cs.set i (turned (cs.getD i noCmt) d)) = 3 := by
  obtain ⟨k1, k2, _⟩ := h.at i hi
  have hlen : (cs.set i (turned (cs.getD i noCmt) d)).length = cs.length := List.length_set
  rw [histE, hlen, if_neg (by omega)]
  have e : cs.set i (turned (cs.getD i noCmt) d) = cs.take i ++ turned (cs.getD i noCmt) d :: cs.drop (i + 1) := by
    rw [List.set_eq_take_append_cons_drop, if_pos hi]
  rw [e, histFrom_goes _ _ _ _ (h.take i), histFrom, if_pos (turned_ok k1 h1 (by rw [k2]; omega)), if_neg]
  intro e2
  have e3 : (cs.getD i noCmt).turn + d = ((0 + (cs.take i).length + 1 : Nat) : Int) := e2
  rw [k2, List.length_take, Nat.min_eq_left (by omega)] at e3
  omega
theorem order_fold {l : List Cmt} (h : histE l = 3) (k : Int) : foldE l k = 3 := by rw [foldE, h, if_neg (by decide)]
/-- How many turns from -2 on, ahead of t, are kept. -/
def cntK (n t : Int) : Int := max 0 (min t (n + 1) - max 0 (n - 5))
theorem kept_iff (n t : Int) : keptF n t = true ↔ 0 ≤ t ∧ t ≤ n ∧ n - t < 6 := by unfold keptF; rw [decide_eq_true_iff]
theorem cnt_start (n : Int) (h : 0 ≤ n) : cntK n (-2) = 0 := by unfold cntK; omega
theorem cnt_yes {n t : Int} (h : keptF n t = true) : cntK n (t + 1) = cntK n t + 1 := by
  have := (kept_iff n t).1 h
  unfold cntK
  omega
theorem cnt_no {n t : Int} (h : keptF n t = false) : cntK n (t + 1) = cntK n t := by
  have : ¬ (0 ≤ t ∧ t ≤ n ∧ n - t < 6) := fun e => by rw [(kept_iff n t).2 e] at h; cases h
  unfold cntK
  omega
theorem cnt_end (n : Int) (h : 0 ≤ n) : cntK n (n + 3) = min (n + 1) 6 := by unfold cntK; omega
theorem kept_self (n : Int) (h : 0 ≤ n) : keptF n n = true := (kept_iff n n).2 ⟨h, by omega, by omega⟩
end Go.Proofs.Ytljdconhplgipab
