/-
  Texts of this proof, joined: RootF, TCRoot, ProofF.
-/
import Derived.Test.YtedmhejnbapklaaDoorParts
import Derived.Test.YtedmhejnbapklaaDoorPart2
import Derived.Test.YtedmhejnbapklaaDoorPairMem
/-
  The digest of a tree, by the document.
-/
namespace Go.Proofs.YtedmhejnbapklaaDoor
def rootK : Nat → PL → List UInt8
  | 0, _ => []
  | f + 1, l => if l.length = 0 then sumF [0] else if l.length = 1 then sumF (joinF 1 [(l.getD 0 ([], [])).1, (l.getD 0 ([], [])).2])
    else sumF (joinF 2 [[UInt8.ofNat (forkBit l).toNat], rootK f (sideL l (forkBit l).toNat false), rootK f (sideL l (forkBit l).toNat true)])
/-- The digest of a tree. -/
def rootL (l : PL) : List UInt8 := rootK (l.length + 1) l
theorem rootK_fuel : ∀ (f : Nat) (l : PL), Tree l → l.length < f → rootK f l = rootL l
  | 0, _, _, h => by omega
  | f + 1, l, hT, h => by
    rw [rootL, rootK, rootK]
    by_cases h0 : l.length = 0
    · rw [if_pos h0, if_pos h0]
    · rw [if_neg h0, if_neg h0]
      by_cases h1 : l.length = 1
      · rw [if_pos h1, if_pos h1]
      · rw [if_neg h1, if_neg h1]
        have hs := sides_less hT (by omega)
        rw [rootK_fuel f _ (side_tree hT _ false) (by have := hs false; omega), rootK_fuel f _ (side_tree hT _ true) (by have := hs true; omega)]
        have key : ∀ x, rootK l.length (sideL l (forkBit l).toNat x) = rootL (sideL l (forkBit l).toNat x) := fun x => by
          obtain ⟨n, hn⟩ : ∃ n, l.length = n + 1 := ⟨l.length - 1, by omega⟩
          have hx := hs x
          rw [rootL]
          by_cases hf : l.length ≤ f
          · have e1 := rootK_fuel l.length (sideL l (forkBit l).toNat x) (side_tree hT _ x) hx
            rw [e1, rootL]
          · omega
        rw [key false, key true]
  termination_by f => f
theorem rootL_none (l : PL) (h : l.length = 0) : rootL l = sumF [0] := by rw [rootL, rootK, if_pos h]
theorem rootL_one (l : PL) (h : l.length = 1) : rootL l = sumF (joinF 1 [(l.getD 0 ([], [])).1, (l.getD 0 ([], [])).2]) := by rw [rootL, rootK, if_neg (by omega), if_pos h]
theorem rootL_fork (l : PL) (hT : Tree l) (h : 2 ≤ l.length) : rootL l = sumF (joinF 2 [[UInt8.ofNat (forkBit l).toNat], rootL (sideL l (forkBit l).toNat false), rootL (sideL l (forkBit l).toNat true)]) := by
  have hs := sides_less hT h
  rw [rootL, rootK, if_neg (by omega), if_neg (by omega), rootK_fuel _ _ (side_tree hT _ false) (hs false), rootK_fuel _ _ (side_tree hT _ true) (hs true)]
theorem rootL_len (l : PL) : (rootL l).length = 32 := by
  rw [rootL, rootK]
  by_cases h0 : l.length = 0
  · rw [if_pos h0]; exact sumF_len _
  · rw [if_neg h0]
    by_cases h1 : l.length = 1
    · rw [if_pos h1]; exact sumF_len _
    · rw [if_neg h1]; exact sumF_len _
/-- Root: an error, or the digest. -/
def rootF (l : PL) : List UInt8 := if pairsFaultF l = 0 then rootL l else []
theorem joinF_two (k : UInt8) (a b : List UInt8) : (joinF k [a, b]).length = a.length + b.length + 5 := by simp [joinF, jpartF]; omega
theorem joinF_three (k : UInt8) (a b c : List UInt8) : (joinF k [a, b, c]).length = a.length + b.length + c.length + 7 := by simp [joinF, jpartF]; omega
end Go.Proofs.YtedmhejnbapklaaDoor

/-
  What tree.Root must keep.
-/
namespace Go.Proofs.YtedmhejnbapklaaDoor
open Go.RowKit
/-- tree.Root keeps P3.6. -/
def TRootOK : Prop := ∀ (w : World) (v : Value) (l : PL), PairsIs w v l → Fits l → Tabs w → Calls Tryd.prog 20 #[v] w fun e w' => ∃ x, e = .returned (.tuple #[x, .int .i64 (pairsFaultF l)]) ∧ SliceIs w' x (rootF l) ∧ w.grownBy w' none
end Go.Proofs.YtedmhejnbapklaaDoor

/-
  What proof.Prove and proof.Verify answer, by the document; that what was proved holds, and tells what Get tells. No program is named.
-/
namespace Go.Proofs.YtedmhejnbapklaaDoor
/-- The side on which a key is. -/
abbrev mine (l : PL) (k : List UInt8) : PL := sideL l (forkBit l).toNat (kbit k (forkBit l).toNat)
abbrev theirs (l : PL) (k : List UInt8) : PL := sideL l (forkBit l).toNat (!kbit k (forkBit l).toNat)
def stepOf (l : PL) (k : List UInt8) : Stp := ⟨forkBit l, kbit k (forkBit l).toNat, rootL (theirs l k)⟩
def stepsK : Nat → PL → List UInt8 → List Stp
  | 0, _, _ => []
  | f + 1, l, k => if l.length < 2 then [] else stepOf l k :: stepsK f (mine l k) k
def endK : Nat → PL → List UInt8 → Pr
  | 0, l, _ => l.getD 0 ([], [])
  | f + 1, l, k => if l.length < 2 then l.getD 0 ([], []) else endK f (mine l k) k
def stepsL (l : PL) (k : List UInt8) : List Stp := stepsK l.length l k
def endL (l : PL) (k : List UInt8) : Pr := endK l.length l k
theorem mine_less {l : PL} (hT : Tree l) (h2 : 2 ≤ l.length) (k : List UInt8) : (mine l k).length < l.length := sides_less hT h2 _
theorem mine_some {l : PL} (hT : Tree l) (h2 : 2 ≤ l.length) (k : List UInt8) : 0 < (mine l k).length := by
  have hs := side_range hT h2
  cases hb : kbit k (forkBit l).toNat with
  | false => rw [mine, hb, side_false hT h2, List.length_take]; omega
  | true => rw [mine, hb, side_true hT h2, List.length_drop]; omega
theorem steps_fuel : ∀ (f : Nat) (l : PL) (k : List UInt8), Tree l → l.length ≤ f → stepsK f l k = stepsL l k ∧ endK f l k = endL l k := by
  intro f
  induction f with
  | zero => intro l k _ h; rw [stepsL, endL, show l.length = 0 by omega]; exact ⟨rfl, rfl⟩
  | succ f ih =>
    intro l k hT h
    by_cases h2 : l.length < 2
    · rw [stepsL, endL, stepsK, endK, if_pos h2, if_pos h2]
      match l, h2 with
      | [], _ => exact ⟨rfl, rfl⟩
      | [q], _ => exact ⟨by simp [stepsK], by simp [endK]⟩
      | _ :: _ :: _, h2 => exact absurd h2 (by simp)
    · have hm := mine_less hT (by omega) k
      have key : ∀ g, (mine l k).length ≤ g → g ≤ f → stepsK g (mine l k) k = stepsL (mine l k) k ∧ endK g (mine l k) k = endL (mine l k) k := by
        intro g hg hgf
        by_cases e : g = f
        · subst e; exact ih _ k (side_tree hT _ _) hg
        · -- a smaller one: by the same walk at g
          have aux : ∀ g, ∀ (m : PL), Tree m → m.length ≤ g → stepsK g m k = stepsK (g + 1) m k ∧ endK g m k = endK (g + 1) m k := by
            intro g
            induction g with
            | zero => intro m _ hm; rw [stepsK, stepsK, endK, endK, if_pos (by omega), if_pos (by omega)]; exact ⟨rfl, rfl⟩
            | succ g ihg =>
              intro m hTm hm
              by_cases h2m : m.length < 2
              · rw [stepsK, stepsK, endK, endK, if_pos h2m, if_pos h2m, if_pos h2m, if_pos h2m]; exact ⟨rfl, rfl⟩
              · have hl := mine_less hTm (by omega) k
                obtain ⟨e1, e2⟩ := ihg (mine m k) (side_tree hTm _ _) (by omega)
                rw [stepsK, endK, if_neg h2m, if_neg h2m, e1, e2]
                rw [stepsK.eq_2 _ _ (g + 1), endK.eq_2 _ _ (g + 1), if_neg h2m, if_neg h2m]
                exact ⟨rfl, rfl⟩
          have up : ∀ d, stepsK g (mine l k) k = stepsK (g + d) (mine l k) k ∧ endK g (mine l k) k = endK (g + d) (mine l k) k := by
            intro d
            induction d with
            | zero => exact ⟨rfl, rfl⟩
            | succ d ihd =>
              obtain ⟨a1, a2⟩ := aux (g + d) (mine l k) (side_tree hT _ _) (by omega)
              exact ⟨ihd.1.trans a1, ihd.2.trans a2⟩
          obtain ⟨u1, u2⟩ := up (f - g)
          rw [show g + (f - g) = f by omega] at u1 u2
          obtain ⟨i1, i2⟩ := ih (mine l k) k (side_tree hT _ _) (by omega)
          exact ⟨u1.trans i1, u2.trans i2⟩
      obtain ⟨n, hn⟩ : ∃ n, l.length = n + 1 := ⟨l.length - 1, by omega⟩
      rw [stepsL, endL, hn, stepsK, endK, stepsK, endK, if_neg h2, if_neg h2, if_neg h2, if_neg h2, (key f (by omega) (Nat.le_refl _)).1, (key f (by omega) (Nat.le_refl _)).2, (key n (by omega) (by omega)).1, (key n (by omega) (by omega)).2]
      exact ⟨rfl, rfl⟩
theorem steps_few (l : PL) (k : List UInt8) (h : l.length < 2) : stepsL l k = [] ∧ endL l k = l.getD 0 ([], []) := by
  match l, h with
  | [], _ => exact ⟨rfl, rfl⟩
  | [q], _ => exact ⟨by simp [stepsL, stepsK], by simp [endL, endK]⟩
  | _ :: _ :: _, h => exact absurd h (by simp)
theorem steps_more {l : PL} (k : List UInt8) (hT : Tree l) (h : 2 ≤ l.length) : stepsL l k = stepOf l k :: stepsL (mine l k) k ∧ endL l k = endL (mine l k) k := by
  obtain ⟨n, hn⟩ : ∃ n, l.length = n + 1 := ⟨l.length - 1, by omega⟩
  have hm := mine_less hT h k
  obtain ⟨e1, e2⟩ := steps_fuel n (mine l k) k (side_tree hT _ _) (by omega)
  constructor
  · rw [stepsL, hn, stepsK, if_neg (by omega), e1]
  · rw [endL, hn, endK, if_neg (by omega), e2]
/-- Induction over a tree and the side on which a key is. -/
theorem mine_induct (k : List UInt8) {P : PL → Prop} (one : ∀ q : Pr, Tree [q] → P [q]) (more : ∀ l, Tree l → 2 ≤ l.length → P (mine l k) → P l) (l : PL) (hT : Tree l) (h0 : 0 < l.length) : P l := by
  have key : ∀ n, ∀ l : PL, l.length ≤ n → Tree l → 0 < l.length → P l := by
    intro n
    induction n with
    | zero => intro l h _ h0; omega
    | succ n ih =>
      intro l h hT h0
      by_cases h2 : 2 ≤ l.length
      · exact more l hT h2 (ih _ (by have := mine_less hT h2 k; omega) (side_tree hT _ _) (mine_some hT h2 k))
      · match l, h0, h2 with
        | [q], _, _ => exact one q hT
        | _ :: _ :: _, _, h2 => simp at h2
  exact key l.length l (Nat.le_refl _) hT h0
/-- The digest from a proof's end up to its beginning. -/
def leafD (p : Pr) : List UInt8 := sumF (joinF 1 [p.1, p.2])
def forkD (b : Int) (x y : List UInt8) : List UInt8 := sumF (joinF 2 [[UInt8.ofNat b.toNat], x, y])
def upS (s : Stp) (d : List UInt8) : List UInt8 := if s.right then forkD s.bit s.other d else forkD s.bit d s.other
def upL : List Stp → Pr → List UInt8
  | [], p => leafD p
  | s :: r, p => upS s (upL r p)
theorem upL_len (l : List Stp) (p : Pr) : (upL l p).length = 32 := by
  cases l with
  | nil => rw [upL, leafD]; exact sumF_len _
  | cons s r =>
    rw [upL, upS]
    unfold forkD
    split <;> exact sumF_len _
theorem up_root (k : List UInt8) {l : PL} (hT : Tree l) (h0 : 0 < l.length) : upL (stepsL l k) (endL l k) = rootL l := by
  refine mine_induct k (P := fun l => upL (stepsL l k) (endL l k) = rootL l) ?_ ?_ l hT h0
  · intro q _
    rw [(steps_few [q] k (by simp)).1, (steps_few [q] k (by simp)).2, upL, rootL_one _ (by simp), leafD]
  · intro l hT h2 ih
    rw [(steps_more k hT h2).1, (steps_more k hT h2).2, upL, ih, rootL_fork l hT h2, upS, stepOf]
    cases hb : kbit k (forkBit l).toNat with
    | true => simp [forkD, mine, theirs, hb]
    | false => simp [forkD, mine, theirs, hb]
/-- The pair at the end is one of the tree. -/
theorem end_mem (k : List UInt8) {l : PL} (hT : Tree l) (h0 : 0 < l.length) : endL l k ∈ l := by
  refine mine_induct k (P := fun l => endL l k ∈ l) ?_ ?_ l hT h0
  · intro q _; rw [(steps_few [q] k (by simp)).2]; simp
  · intro l hT h2 ih
    rw [(steps_more k hT h2).2]
    exact (List.mem_filter.1 ih).1
theorem fork_mine {l : PL} (k : List UInt8) (hT : Tree l) (h2 : 2 ≤ l.length) (h2' : 2 ≤ (mine l k).length) : forkBit l < forkBit (mine l k) := by
  have hT' := side_tree hT (forkBit l).toNat (kbit k (forkBit l).toNat)
  have hr := forkBit_range hT h2
  have hr' : 0 ≤ forkBit (mine l k) ∧ forkBit (mine l k) ≤ 144 := forkBit_range hT' h2'
  obtain ⟨e1, e2⟩ := fork_ends hT' h2'
  by_cases hlt : forkBit l < forkBit (mine l k)
  · exact hlt
  · exfalso
    -- the first and the last one of the side are two of the tree: they have the same bits up to the tree's own
    have m1 : (mine l k).getD 0 ([], []) ∈ mine l k := by
      rw [show (mine l k).getD 0 ([], []) = (mine l k)[0]'(by omega) by simp [show 0 < (mine l k).length by omega]]; exact List.getElem_mem _
    have m2 : (mine l k).getD ((mine l k).length - 1) ([], []) ∈ mine l k := by
      rw [show (mine l k).getD ((mine l k).length - 1) ([], []) = (mine l k)[(mine l k).length - 1]'(by omega) by simp [show (mine l k).length - 1 < (mine l k).length by omega]]; exact List.getElem_mem _
    change kbit ((mine l k).getD 0 ([], [])).1 (forkBit (mine l k)).toNat = false at e1
    change kbit ((mine l k).getD ((mine l k).length - 1) ([], [])).1 (forkBit (mine l k)).toNat = true at e2
    generalize (mine l k).getD 0 ([], []) = p at *
    generalize (mine l k).getD ((mine l k).length - 1) ([], []) = q at *
    obtain ⟨p1, p2⟩ := List.mem_filter.1 m1
    obtain ⟨q1, q2⟩ := List.mem_filter.1 m2
    have same : kbit p.1 (forkBit (mine l k)).toNat = kbit q.1 (forkBit (mine l k)).toNat := by
      by_cases he : forkBit (mine l k) = forkBit l
      · rw [he]; simp at p2 q2; rw [p2, q2]
      · obtain ⟨i, hi, rfl⟩ := List.mem_iff_getElem.1 p1
        obtain ⟨j, hj, rfl⟩ := List.mem_iff_getElem.1 q1
        have a := fork_same hT h2 i hi (forkBit (mine l k)).toNat (by omega)
        have b := fork_same hT h2 j hj (forkBit (mine l k)).toNat (by omega)
        rw [show l.getD i ([], []) = l[i] by simp [hi]] at a
        rw [show l.getD j ([], []) = l[j] by simp [hj]] at b
        exact a.symm.trans b
    rw [e1, e2] at same
    cases same
/-- Each step may stand where it stands. -/
theorem steps_may (k : List UInt8) {l : PL} (hT : Tree l) (h0 : 0 < l.length) : ∀ i, i < (stepsL l k).length → StepMay k (endL l k).1 (stepsL l k) i := by
  refine mine_induct k (P := fun l => ∀ i, i < (stepsL l k).length → StepMay k (endL l k).1 (stepsL l k) i) ?_ ?_ l hT h0
  · intro q _ i hi; rw [(steps_few [q] k (by simp)).1] at hi; simp at hi
  · intro l hT h2 ih i hi
    have hr := forkBit_range hT h2
    have hT' := side_tree hT (forkBit l).toNat (kbit k (forkBit l).toNat)
    rw [(steps_more k hT h2).1] at hi ⊢
    rw [(steps_more k hT h2).2]
    cases i with
    | zero =>
      refine ⟨⟨by simpa [stepOf] using hr.1, by simpa [stepOf] using hr.2⟩, by simpa [stepOf] using rootL_len _, fun h => by omega, by simp [stepOf], ?_⟩
      have hm := end_mem k hT' (mine_some hT h2 k)
      have := (List.mem_filter.1 hm).2
      simpa [stepOf] using this
    | succ i =>
      have hi' : i < (stepsL (mine l k) k).length := by simpa using hi
      obtain ⟨g1, g2, g3, g4, g5⟩ := ih i hi'
      refine ⟨by simpa using g1, by simpa using g2, fun _ => ?_, by simpa using g4, by simpa using g5⟩
      cases i with
      | zero =>
        have h2' : 2 ≤ (mine l k).length := by
          by_cases h : (mine l k).length < 2
          · rw [(steps_few _ k h).1] at hi'; simp at hi'
          · omega
        have := fork_mine k hT h2 h2'
        simp only [Nat.add_sub_cancel, List.getD_cons_zero, List.getD_cons_succ]
        rw [(steps_more k hT' h2').1]
        simpa [stepOf] using this
      | succ i =>
        have := g3 (by omega)
        simpa using this
/-- Another key that goes the same way comes to the same end. -/
theorem end_same (k b : List UInt8) {l : PL} (hT : Tree l) (h0 : 0 < l.length) (h : ∀ s ∈ stepsL l k, kbit b s.bit.toNat = s.right) : endL l k = endL l b := by
  revert h
  refine mine_induct k (P := fun l => (∀ s ∈ stepsL l k, kbit b s.bit.toNat = s.right) → endL l k = endL l b) ?_ ?_ l hT h0
  · intro q _ _; rw [(steps_few [q] k (by simp)).2, (steps_few [q] b (by simp)).2]
  · intro l hT h2 ih h
    rw [(steps_more k hT h2).1] at h
    have hb : kbit b (forkBit l).toNat = kbit k (forkBit l).toNat := by simpa [stepOf] using h _ (List.mem_cons_self)
    rw [(steps_more k hT h2).2, (steps_more b hT h2).2, ih fun s hs => h s (List.mem_cons_of_mem _ hs), mine, mine, hb]
/-- A key that is there is at its own end. -/
theorem end_there (k : List UInt8) {l : PL} (hT : Tree l) (h0 : 0 < l.length) (p : Pr) (hp : p ∈ l) (hk : p.1 = k) : endL l k = p := by
  revert hp
  refine mine_induct k (P := fun l => p ∈ l → endL l k = p) ?_ ?_ l hT h0
  · intro q _ hp; rw [(steps_few [q] k (by simp)).2]; simp at hp; simp [hp]
  · intro l hT h2 ih hp
    rw [(steps_more k hT h2).2]
    exact ih (List.mem_filter.2 ⟨hp, by simp [hk]⟩)
theorem get_mem {l : PL} (hT : Tree l) (p : Pr) (hp : p ∈ l) : getF l p.1 = some p.2 := by
  obtain ⟨i, hi, rfl⟩ := List.mem_iff_getElem.1 hp
  rw [show l[i] = l.getD i ([], []) by simp [hi]]
  exact get_at l _ i hi (fun j hj => klt_ne (rises_step l hT.rises j i hj hi)) rfl
theorem get_not {l : PL} (k : List UInt8) (h : ∀ p ∈ l, p.1 ≠ k) : getF l k = none :=
  get_none l k fun j hj => h _ (by rw [show l.getD j ([], []) = l[j] by simp [hj]]; exact List.getElem_mem _)
/-- What the end tells is what Get tells. -/
theorem end_get (k : List UInt8) {l : PL} (hT : Tree l) (h0 : 0 < l.length) : getF l k = if (endL l k).1 = k then some (endL l k).2 else none := by
  by_cases h : (endL l k).1 = k
  · rw [if_pos h]
    have := get_mem hT _ (end_mem k hT h0)
    rw [h] at this; exact this
  · rw [if_neg h]
    refine get_not k fun p hp e => ?_
    rw [end_there k hT h0 p hp e] at h
    exact h e
theorem get_side {l : PL} (hT : Tree l) (b : Nat) (k : List UInt8) : getF (sideL l b (kbit k b)) k = getF l k := by
  by_cases h : ∃ p ∈ l, p.1 = k
  · obtain ⟨p, hp, hk⟩ := h
    have a := get_mem hT p hp
    have c := get_mem (side_tree hT b (kbit k b)) p (List.mem_filter.2 ⟨hp, by simp [hk]⟩)
    rw [hk] at a c
    rw [a, c]
  · rw [get_not k (l := l) (fun p hp e => h ⟨p, hp, e⟩), get_not k (l := sideL l b (kbit k b)) fun p hp e => h ⟨p, (List.mem_filter.1 hp).1, e⟩]
theorem steps_len (k : List UInt8) {l : PL} (hT : Tree l) (h0 : 0 < l.length) : (stepsL l k).length < l.length := by
  refine mine_induct k (P := fun l => (stepsL l k).length < l.length) ?_ ?_ l hT h0
  · intro q _; rw [(steps_few [q] k (by simp)).1]; simp
  · intro l hT h2 ih
    rw [(steps_more k hT h2).1, List.length_cons]
    have := mine_less hT h2 k
    omega
/-- Prove: an error, or the proof. -/
def proveL (l : PL) (k : List UInt8) : Prf := if l.length = 0 then ⟨true, [], ([], [])⟩ else ⟨false, stepsL l k, endL l k⟩
def proveF (l : PL) (k : List UInt8) : Prf := if getE l k = 0 then proveL l k else noPrf
/-- Verify: an error, or what is found. -/
def rootP (p : Prf) : List UInt8 := if p.empty then sumF [0] else upL p.steps p.pair
noncomputable def verE (root k : List UInt8) (p : Prf) : Int := if root.length = 32 then (if proofE k p = 0 then (if rootP p = root then 0 else 8) else proofE k p) else 1
def foundF (k : List UInt8) (p : Prf) : Bool := !p.empty && p.pair.1 == k
noncomputable def verB (root k : List UInt8) (p : Prf) : Bool := verE root k p == 0 && foundF k p
noncomputable def verV (root k : List UInt8) (p : Prf) : List UInt8 := if verB root k p = true then p.pair.2 else []
theorem prove_empty (l : PL) (k : List UInt8) : (proveL l k).empty = decide (l.length = 0) := by
  unfold proveL
  by_cases h : l.length = 0 <;> simp [h]
theorem prove_may {l : PL} (hT : Tree l) (k : List UInt8) : May k (proveL l k) := by
  unfold proveL
  by_cases h : l.length = 0
  · rw [if_pos h]; exact .inl ⟨rfl, rfl, rfl, rfl⟩
  · rw [if_neg h]; exact .inr ⟨rfl, (pairFault_iff _).2 (hT.pairs _ (end_mem k hT (by omega))), steps_may k hT (by omega)⟩
theorem prove_root {l : PL} (hT : Tree l) (k : List UInt8) : rootP (proveL l k) = rootL l := by
  unfold proveL rootP
  by_cases h : l.length = 0
  · rw [if_pos h, if_pos rfl, rootL_none l h]
  · rw [if_neg h]; simpa using up_root k hT (by omega)
theorem prove_found {l : PL} (hT : Tree l) (k : List UInt8) : foundF k (proveL l k) = (getF l k).isSome ∧ (foundF k (proveL l k) = true → (proveL l k).pair.2 = (getF l k).getD []) := by
  unfold proveL foundF
  by_cases h : l.length = 0
  · rw [if_pos h, show l = [] from List.length_eq_zero_iff.1 h]; simp [get_nil]
  · rw [if_neg h, end_get k hT (by omega)]
    by_cases e : (endL l k).1 = k
    · simp [e]
    · simp [e]
/-- Each proof that was made holds, and tells what Get tells. -/
theorem prove_holds {l : PL} (hT : Tree l) (k : List UInt8) (hk : 1 ≤ k.length ∧ k.length ≤ 16) :
    proofE k (proveL l k) = 0 ∧ verE (rootL l) k (proveL l k) = 0 ∧ verB (rootL l) k (proveL l k) = (getF l k).isSome ∧ verV (rootL l) k (proveL l k) = (getF l k).getD [] := by
  have e0 := proofE_may ((keyFault_iff _).2 hk) (prove_may hT k)
  have e1 : verE (rootL l) k (proveL l k) = 0 := by rw [verE, if_pos (rootL_len l), if_pos e0, if_pos (prove_root hT k)]
  obtain ⟨f1, f2⟩ := prove_found hT k
  have e2 : verB (rootL l) k (proveL l k) = (getF l k).isSome := by rw [verB, e1, f1]; rfl
  refine ⟨e0, e1, e2, ?_⟩
  rw [verV, e2]
  cases hg : getF l k with
  | none => simp
  | some x =>
    have := f2 (by rw [f1, hg]; rfl)
    rw [hg] at this
    simpa using this
/-- A proof for another key is none, or tells what Get tells. -/
theorem prove_else {l : PL} (hT : Tree l) (a b : List UInt8) (hb : 1 ≤ b.length ∧ b.length ≤ 16) :
    (proofE b (proveL l a) = 4 ∧ verE (rootL l) b (proveL l a) = 4) ∨
      (verE (rootL l) b (proveL l a) = 0 ∧ verB (rootL l) b (proveL l a) = (getF l b).isSome ∧ verV (rootL l) b (proveL l a) = (getF l b).getD []) := by
  have hk := (keyFault_iff _).2 hb
  by_cases hm : May b (proveL l a)
  · right
    have e0 := proofE_may hk hm
    have e1 : verE (rootL l) b (proveL l a) = 0 := by rw [verE, if_pos (rootL_len l), if_pos e0, if_pos (prove_root hT a)]
    have he : proveL l a = proveL l a ∧ (proveL l a).empty = (proveL l b).empty ∧ (proveL l a).pair = (proveL l b).pair := by
      refine ⟨rfl, by rw [prove_empty, prove_empty], ?_⟩
      unfold proveL at hm ⊢
      by_cases h : l.length = 0
      · rw [if_pos h, if_pos h]
      · rw [if_neg h] at hm ⊢
        rw [if_neg h]
        rcases hm with ⟨h1, _⟩ | ⟨_, _, h2⟩
        · cases h1
        · refine end_same a b hT (by omega) fun s hs => ?_
          obtain ⟨i, hi, rfl⟩ := List.mem_iff_getElem.1 hs
          have := (h2 i hi).2.2.2.1
          rw [show (stepsL l a).getD i noStp = (stepsL l a)[i] by simp [hi]] at this
          exact this
    obtain ⟨f1, f2⟩ := prove_found hT b
    have ef : foundF b (proveL l a) = foundF b (proveL l b) := by unfold foundF; rw [he.2.1, he.2.2]
    have e2 : verB (rootL l) b (proveL l a) = (getF l b).isSome := by rw [verB, e1, ef, f1]; rfl
    refine ⟨e1, e2, ?_⟩
    rw [verV, e2, he.2.2]
    cases hg : getF l b with
    | none => simp
    | some x =>
      have := f2 (by rw [f1, hg]; rfl)
      rw [hg] at this
      simpa using this
  · left
    have e0 := proofE_not hk hm
    exact ⟨e0, by rw [verE, if_pos (rootL_len l), if_neg (by rw [e0]; decide), e0]⟩
/-- Without its first step it proves in the side on which the key is. -/
theorem prove_side {l : PL} (hT : Tree l) (h2 : 2 ≤ l.length) (k : List UInt8) :
    (proveL l k).steps = stepOf l k :: (proveL (mine l k) k).steps ∧ (proveL (mine l k) k).pair = (proveL l k).pair ∧ (proveL (mine l k) k).empty = false ∧ (proveL l k).empty = false ∧ getF (mine l k) k = getF l k := by
  have hs := mine_some hT h2 k
  unfold proveL
  rw [if_neg (by omega), if_neg (by omega)]
  exact ⟨(steps_more k hT h2).1, (steps_more k hT h2).2.symm, rfl, rfl, get_side hT _ k⟩
end Go.Proofs.YtedmhejnbapklaaDoor
