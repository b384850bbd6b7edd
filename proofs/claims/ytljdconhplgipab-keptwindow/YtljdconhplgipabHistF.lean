/-
  Histories, with no program: what P7 asks of commits, and the forests behind them.
-/
import Derived.Test.YtljdconhplgipabTapeK
namespace Go.Proofs.Ytljdconhplgipab
open Go.RowKit
/-- What P7.1 refuses of commits, from the i-th on, behind the tenants of those ahead. -/
def histFrom : FL → Nat → List Cmt → Int
  | _, _, [] => 0
  | f, i, c :: cs => if commitE c = 0 then (if c.turn = ((i + 1 : Nat) : Int) then (if appliedE f c.writes = 0 then histFrom (appliedF f c.writes) (i + 1) cs else appliedE f c.writes) else 3) else commitE c
def histE (l : List Cmt) : Int := if 300 < l.length then 1 else histFrom [] 0 l
/-- The tenants behind commits. -/
def foldH : FL → List Cmt → FL
  | f, [] => f
  | f, c :: cs => foldH (appliedF f c.writes) cs
theorem foldH_append : ∀ (a b : List Cmt) (f : FL), foldH f (a ++ b) = foldH (foldH f a) b
  | [], _, _ => rfl
  | _ :: a, b, _ => foldH_append a b _
theorem foldH_snoc (cs : List Cmt) (f : FL) (c : Cmt) : foldH f (cs ++ [c]) = appliedF (foldH f cs) c.writes := by rw [foldH_append]; rfl
theorem foldH_next (l : List Cmt) (i : Nat) (h : i < l.length) : foldH [] (l.take (i + 1)) = appliedF (foldH [] (l.take i)) (l.getD i noCmt).writes := by
  rw [List.take_succ_eq_append_getElem h, foldH_snoc, show l[i] = l.getD i noCmt by simp [h]]
/-- One commit of the walk. -/
theorem hist_step (l : List Cmt) (i : Nat) (h : i < l.length) : histFrom (foldH [] (l.take i)) i (l.drop i) = if commitE (l.getD i noCmt) = 0 then (if (l.getD i noCmt).turn = ((i + 1 : Nat) : Int) then (if appliedE (foldH [] (l.take i)) (l.getD i noCmt).writes = 0 then histFrom (foldH [] (l.take (i + 1))) (i + 1) (l.drop (i + 1)) else appliedE (foldH [] (l.take i)) (l.getD i noCmt).writes) else 3) else commitE (l.getD i noCmt) := by
  rw [List.drop_eq_getElem_cons h, histFrom, show l[i] = l.getD i noCmt by simp [h], foldH_next l i h]
theorem hist_end (l : List Cmt) : histFrom (foldH [] (l.take l.length)) l.length (l.drop l.length) = 0 := by rw [List.drop_length, histFrom]
/-- Commits, from the i-th on, that are refused nothing. -/
def Goes : FL → Nat → List Cmt → Prop
  | _, _, [] => True
  | f, i, c :: cs => commitE c = 0 ∧ c.turn = ((i + 1 : Nat) : Int) ∧ appliedE f c.writes = 0 ∧ Goes (appliedF f c.writes) (i + 1) cs
theorem histFrom_iff : ∀ (cs : List Cmt) (f : FL) (i : Nat), (∀ c ∈ cs, True) → (histFrom f i cs = 0 ↔ Goes f i cs)
  | [], _, _, _ => ⟨fun _ => trivial, fun _ => rfl⟩
  | c :: cs, f, i, h => by
    rw [histFrom, Goes]
    by_cases h1 : commitE c = 0
    · rw [if_pos h1]
      by_cases h2 : c.turn = ((i + 1 : Nat) : Int)
      · rw [if_pos h2]
        by_cases h3 : appliedE f c.writes = 0
        · rw [if_pos h3, histFrom_iff cs _ _ (fun x _ => trivial)]
          exact ⟨fun h => ⟨h1, h2, h3, h⟩, fun h => h.2.2.2⟩
        · rw [if_neg h3]
          exact ⟨fun h => absurd h h3, fun h => absurd h.2.2.1 h3⟩
      · rw [if_neg h2]
        exact ⟨fun h => by omega, fun h => absurd h.2.1 h2⟩
    · rw [if_neg h1]
      exact ⟨fun h => absurd h h1, fun h => absurd h.1 h1⟩
theorem hist_iff (l : List Cmt) : histE l = 0 ↔ l.length ≤ 300 ∧ Goes [] 0 l := by
  unfold histE
  by_cases h : 300 < l.length
  · rw [if_pos h]
    exact ⟨fun e => by omega, fun e => by omega⟩
  · rw [if_neg h, histFrom_iff _ _ _ (fun _ _ => trivial)]
    exact ⟨fun e => ⟨by omega, e⟩, fun e => e.2⟩
theorem Goes.take : ∀ {cs : List Cmt} {f : FL} {i : Nat} (_ : Goes f i cs) (j : Nat), Goes f i (cs.take j)
  | [], _, _, _, j => by rw [List.take_nil]; trivial
  | _ :: _, _, _, _, 0 => trivial
  | _ :: _, _, _, h, j + 1 => ⟨h.1, h.2.1, h.2.2.1, Goes.take h.2.2.2 j⟩
theorem Goes.at : ∀ {cs : List Cmt} {f : FL} {i : Nat} (_ : Goes f i cs) (j : Nat) (_ : j < cs.length), commitE (cs.getD j noCmt) = 0 ∧ (cs.getD j noCmt).turn = ((i + j + 1 : Nat) : Int) ∧ appliedE (foldH f (cs.take j)) (cs.getD j noCmt).writes = 0
  | [], _, _, _, j, hj => by simp at hj
  | c :: cs, f, i, h, 0, _ => ⟨h.1, h.2.1, h.2.2.1⟩
  | c :: cs, f, i, h, j + 1, hj => by
    have := Goes.at h.2.2.2 j (by simpa using hj)
    rw [show i + (j + 1) + 1 = i + 1 + j + 1 by omega]
    simpa [foldH] using this
/-- A write that is taken leaves a forest. -/
theorem appliedF_forest {l : FL} (h : Forest l) (ws : List Plc) : Forest (appliedF l ws) := by
  unfold appliedF
  by_cases h0 : appliedE l ws = 0
  · rw [if_pos h0]
    unfold appliedE at h0
    rw [if_pos ((forest_iff l).2 h)] at h0
    by_cases h10 : 10 < ws.length
    · rw [if_pos h10] at h0; omega
    · rw [if_neg h10] at h0
      exact apply_forest ws l h h0
  · rw [if_neg h0]; exact forest_nil
theorem foldH_forest : ∀ (cs : List Cmt) (f : FL), Forest f → Forest (foldH f cs)
  | [], _, h => h
  | c :: cs, _, h => foldH_forest cs _ (appliedF_forest h c.writes)
/-- What P7.2 answers. -/
def foldE (l : List Cmt) (turn : Int) : Int := if histE l = 0 then (if 0 ≤ turn ∧ turn ≤ (l.length : Int) then 0 else 2) else histE l
def foldT (l : List Cmt) (turn : Int) : FL := if foldE l turn = 0 then foldH [] (l.take turn.toNat) else []
theorem foldT_forest (l : List Cmt) (turn : Int) : Forest (foldT l turn) := by
  unfold foldT
  split
  · exact foldH_forest _ _ forest_nil
  · exact forest_nil
/-- What P7.4 answers. -/
def keptF (n t : Int) : Bool := decide (0 ≤ t ∧ t ≤ n ∧ n - t < 6)
theorem fold_ok {l : List Cmt} (h : histE l = 0) (k : Nat) (hk : k ≤ l.length) : foldE l (k : Int) = 0 ∧ foldT l (k : Int) = foldH [] (l.take k) := by
  have e : foldE l (k : Int) = 0 := by rw [foldE, if_pos h, if_pos (by omega)]
  exact ⟨e, by rw [foldT, if_pos e, Int.toNat_natCast]⟩
/-- What canopykeep.Commits keeps is a history. -/
theorem foldC_goes : ∀ (cs : List Cmt) (f g : FL) (i : Nat), InTurn (i + 1) cs → foldC f cs = some g → Goes f i cs ∧ foldH f cs = g
  | [], f, g, i, _, h => by
    simp only [foldC, Option.some.injEq] at h
    exact ⟨trivial, h⟩
  | c :: cs, f, g, i, ht, h => by
    rw [foldC] at h
    by_cases h0 : appliedE f c.writes = 0
    · rw [if_pos h0] at h
      obtain ⟨h1, h2⟩ := foldC_goes cs _ g (i + 1) ht.2.2 h
      exact ⟨⟨ht.2.1, ht.1, h0, h1⟩, h2⟩
    · rw [if_neg h0] at h; cases h
end Go.Proofs.Ytljdconhplgipab
