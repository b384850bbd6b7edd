/-
  What the keeping statements of tapes rest on, with no program.
-/
import Derived.Test.YtljdconhplgipabTapeB
import Derived.Test.YtljdconhplgipabForestK
namespace Go.Proofs.Ytljdconhplgipab
open Go.RowKit
/-- Commits done one behind the other: the tenants behind them. -/
def foldC : FL → List Cmt → Option FL
  | f, [] => some f
  | f, c :: cs => if appliedE f c.writes = 0 then foldC (appliedF f c.writes) cs else none
theorem foldC_snoc : ∀ (cs : List Cmt) (f g : FL) (c : Cmt), foldC f cs = some g → appliedE g c.writes = 0 → foldC f (cs ++ [c]) = some (appliedF g c.writes)
  | [], f, g, c, h, he => by
    simp only [foldC, Option.some.injEq] at h
    subst h
    show (if appliedE f c.writes = 0 then foldC (appliedF f c.writes) [] else none) = _
    rw [if_pos he]; rfl
  | a :: cs, f, g, c, h, he => by
    rw [foldC] at h
    show (if appliedE f a.writes = 0 then foldC (appliedF f a.writes) (cs ++ [c]) else none) = _
    by_cases h0 : appliedE f a.writes = 0
    · rw [if_pos h0] at h ⊢
      exact foldC_snoc cs _ _ c h he
    · rw [if_neg h0] at h; cases h
/-- So few writes have room. -/
theorem apply_fits : ∀ (ws : List Plc) (l : FL) (m : Nat), Forest l → (∀ w ∈ ws, writeE w = 0) → Small m l → m + ws.length ≤ 60 → l.length + ws.length ≤ 8 → applyE l ws = 0
  | [], l, m, _, _, _, _, _ => rfl
  | w :: ws, l, m, h, hv, hs, hm, h8 => by
    have hw := hv w (by simp)
    have hl := written_len l w
    simp only [List.length_cons] at hm h8
    have h2 : writtenE l w = 0 := by
      rw [writtenE_small h hw hs (by omega), if_neg (by omega)]
    rw [applyE, if_pos hw, if_pos h2]
    exact apply_fits ws _ (m + 1) (written_forest h hw h2) (fun x hx => hv x (List.mem_cons_of_mem _ hx)) (small_written h.rises hs w) (by omega) (by omega)
/-- How many writes the next commit takes. -/
def cutN (ws : List Plc) (i : Nat) : Nat := min (1 + (ws.getD i noPlc).key.length % 3) (ws.length - i)
theorem cutN_le (ws : List Plc) (i : Nat) (h : i < ws.length) : 1 ≤ cutN ws i ∧ cutN ws i ≤ 3 ∧ i + cutN ws i ≤ ws.length := by
  unfold cutN
  omega
def cutW (ws : List Plc) (i : Nat) : List Plc := (ws.drop i).take (cutN ws i)
theorem cutW_len (ws : List Plc) (i : Nat) (h : i < ws.length) : (cutW ws i).length = cutN ws i := by
  have := cutN_le ws i h
  unfold cutW
  simp; omega
theorem cutW_ok {ws : List Plc} (hw : ∀ w ∈ ws, writeE w = 0) (i : Nat) : ∀ w ∈ cutW ws i, writeE w = 0 := fun w h => hw w (List.mem_of_mem_drop (List.mem_of_mem_take h))
theorem cut_commit {ws : List Plc} (hw : ∀ w ∈ ws, writeE w = 0) (i : Nat) (h : i < ws.length) (m : Nat) (hm : m < 1000) : commitE ⟨((m + 1 : Nat) : Int), cutW ws i⟩ = 0 := by
  have h1 := cutN_le ws i h
  have h2 := cutW_len ws i h
  refine (commit_iff _).2 ⟨by show (1 : Int) ≤ ((m + 1 : Nat) : Int) ∧ ((m + 1 : Nat) : Int) ≤ 1048576; omega, ?_, cutW_ok hw i⟩
  show 1 ≤ (cutW ws i).length ∧ (cutW ws i).length ≤ 10
  omega
/-- What is kept of commits that are made of writes. -/
structure CmtsOf (ws : List Plc) (i : Nat) (cs : List Cmt) (f : FL) : Prop where
  turn : InTurn 1 cs
  few : cs.length ≤ i
  fold : foldC [] cs = some f
  first : 0 < i → cs ≠ []
  none : i = 0 → cs = []
  forest : Forest f
  small : Small i f
  short : ∀ c ∈ cs, c.writes.length ≤ 3 ∧ ∀ w ∈ c.writes, writeE w = 0
theorem cmtsOf_nil (ws : List Plc) : CmtsOf ws 0 [] [] := ⟨trivial, by simp, rfl, fun h => by omega, fun _ => rfl, forest_nil, small_nil, fun c h => by simp at h⟩
theorem CmtsOf.go {ws : List Plc} {i : Nat} {cs : List Cmt} {f : FL} (h : CmtsOf ws i cs f) (hw : ∀ w ∈ ws, writeE w = 0) (hi : i < ws.length) (hl : ws.length ≤ 50) (he : appliedE f (cutW ws i) = 0) : CmtsOf ws (i + cutN ws i) (cs ++ [⟨((cs.length + 1 : Nat) : Int), cutW ws i⟩]) (appliedF f (cutW ws i)) := by
  have h1 := cutN_le ws i hi
  have h2 := cutW_len ws i hi
  have h3 := h.few
  have he' : applyE f (cutW ws i) = 0 := by rw [← applied_ok h.forest _ (by omega)]; exact he
  have hf : appliedF f (cutW ws i) = applyL f (cutW ws i) := by rw [appliedF, if_pos he]
  refine ⟨h.turn.snoc (by show ((cs.length + 1 : Nat) : Int) = _; omega) (cut_commit hw i hi cs.length (by omega)), by simp; omega, foldC_snoc _ _ _ ⟨_, cutW ws i⟩ h.fold he, fun _ => by simp, fun e => by omega, ?_, ?_, fun c hc => ?_⟩
  · rw [hf]; exact apply_forest _ _ h.forest he'
  · rw [hf, ← h2]; exact apply_small _ _ _ h.forest he' h.small
  · rcases List.mem_append.1 hc with hc | hc
    · exact h.short c hc
    · simp only [List.mem_cons, List.not_mem_nil, or_false] at hc
      subst hc
      exact ⟨by show (cutW ws i).length ≤ 3; omega, cutW_ok hw i⟩
theorem CmtsOf.skip {ws : List Plc} {i : Nat} {cs : List Cmt} {f : FL} (h : CmtsOf ws i cs f) (hw : ∀ w ∈ ws, writeE w = 0) (hi : i < ws.length) (he : appliedE f (cutW ws i) ≠ 0) : CmtsOf ws (i + cutN ws i) cs f := by
  have h1 := cutN_le ws i hi
  have h2 := cutW_len ws i hi
  have h3 := h.few
  have h0 : 0 < i := by
    rcases Nat.eq_zero_or_pos i with h0 | h0
    · exfalso
      have := h.none h0
      subst this
      have hf := h.fold
      simp only [foldC, Option.some.injEq] at hf
      subst hf
      apply he
      rw [applied_ok forest_nil _ (by omega)]
      exact apply_fits _ _ 0 forest_nil (cutW_ok hw i) small_nil (by omega) (by simp; omega)
    · exact h0
  exact ⟨h.turn, by omega, h.fold, fun _ => h.first h0, fun e => by omega, h.forest, h.small.mono (by omega), h.short⟩
/-- A tape with these commits. -/
theorem app_next {D : List UInt8 → List UInt8} (hD : ∀ x, (D x).length = 4) {t : Tap} {c : Cmt} (hc : commitE c = 0) (hs : 0 ≤ t.synced ∧ t.synced ≤ (t.data.length : Int)) (hl : t.data.length ≤ 190000) : appE D t c = 0 ∧ appT D t c = ⟨t.data ++ frameB D c, t.synced⟩ := by
  have h1 := frame_len hD c
  have h2 := commit_size hc
  have hm : mayT t = true := (mayT_iff t).2 ⟨by omega, hs⟩
  have he : appE D t c = 0 := by rw [appE, if_pos hm, if_pos hc, if_neg (by omega)]
  exact ⟨he, by rw [appT, if_pos he]⟩
theorem frame_grows {D : List UInt8 → List UInt8} (hD : ∀ x, (D x).length = 4) {c : Cmt} (hc : commitE c = 0) : 6 ≤ (frameB D c).length ∧ (frameB D c).length ≤ 600 := by
  have h1 := frame_len hD c
  have h2 := commit_size hc
  omega
theorem flatT_next (D : List UInt8 → List UInt8) (cs : List Cmt) (i : Nat) (h : i < cs.length) : flatT D (cs.take (i + 1)) = flatT D (cs.take i) ++ frameB D (cs.getD i noCmt) := by
  rw [List.take_succ_eq_append_getElem h, flatT_append, flatT_one, show cs[i] = cs.getD i noCmt by simp [h]]
/-- What Recover answers of a tape that may be. -/
theorem rec_of {D : List UInt8 → List UInt8} {t : Tap} (hm : mayT t = true) {cs : List Cmt} {r : List UInt8} {n : Nat} (h : recL D 1 t.data = (cs, r)) (hn : recN D t.data = n) : recE t = 0 ∧ recC D t = cs ∧ recT D t = ⟨t.data.take n, if t.synced > (n : Int) then (n : Int) else t.synced⟩ := by
  refine ⟨by rw [recE, if_pos hm], by rw [recC, if_pos hm, h], by rw [recT, if_pos hm, hn]⟩
/-- A whole tape is recovered whole. -/
theorem rec_whole {D : List UInt8 → List UInt8} (hD : ∀ x, (D x).length = 4) {cs : List Cmt} (h : InTurn 1 cs) (s : Int) (hs : 0 ≤ s ∧ s ≤ ((flatT D cs).length : Int)) (hl : (flatT D cs).length ≤ 200000) : recE ⟨flatT D cs, s⟩ = 0 ∧ recC D ⟨flatT D cs, s⟩ = cs ∧ recT D ⟨flatT D cs, s⟩ = ⟨flatT D cs, s⟩ := by
  have hm : mayT ⟨flatT D cs, s⟩ = true := (mayT_iff _).2 ⟨hl, hs⟩
  have h1 := rec_all hD h
  have hn : recN D (flatT D cs) = (flatT D cs).length := by rw [recN, h1]; simp
  obtain ⟨a, b, c⟩ := rec_of hm h1 hn
  refine ⟨a, b, ?_⟩
  rw [c]
  show (⟨(flatT D cs).take (flatT D cs).length, if s > ((flatT D cs).length : Int) then ((flatT D cs).length : Int) else s⟩ : Tap) = _
  rw [List.take_length, if_neg (by omega)]
/-- A torn tape: the commits that are whole. -/
theorem rec_part {D : List UInt8 → List UInt8} (hD : ∀ x, (D x).length = 4) {cs : List Cmt} (h : InTurn 1 cs) (k : Nat) (s : Int) (hk : k ≤ (flatT D cs).length) (hs : 0 ≤ s ∧ s ≤ (k : Int)) (hl : (flatT D cs).length ≤ 200000) :
    ∃ j, j ≤ cs.length ∧ (flatT D (cs.take j)).length ≤ k ∧ (j < cs.length → k < (flatT D (cs.take (j + 1))).length) ∧ recE ⟨(flatT D cs).take k, s⟩ = 0 ∧ recC D ⟨(flatT D cs).take k, s⟩ = cs.take j ∧ recT D ⟨(flatT D cs).take k, s⟩ = ⟨flatT D (cs.take j), if s > ((flatT D (cs.take j)).length : Int) then ((flatT D (cs.take j)).length : Int) else s⟩ := by
  obtain ⟨j, h1, h2, h3, h4, h5⟩ := rec_torn hD h k
  have hkl : ((flatT D cs).take k).length = k := by simp; omega
  have hm : mayT ⟨(flatT D cs).take k, s⟩ = true := (mayT_iff _).2 ⟨by show ((flatT D cs).take k).length ≤ _; omega, by show 0 ≤ s ∧ s ≤ (((flatT D cs).take k).length : Int); omega⟩
  have hn : recN D ((flatT D cs).take k) = (flatT D (cs.take j)).length := by
    rw [recN, h2, hkl]
    show k - (((flatT D cs).take k).drop _).length = _
    rw [List.length_drop, hkl]; omega
  obtain ⟨a, b, c⟩ := rec_of hm h2 hn
  refine ⟨j, h1, h3, h5, a, b, ?_⟩
  rw [c]
  have e : ((flatT D cs).take k).take (flatT D (cs.take j)).length = flatT D (cs.take j) := by
    rw [List.take_take, Nat.min_eq_left h3]
    conv => lhs; rw [← List.take_append_drop j cs, flatT_append]
    rw [show (cs.take j ++ cs.drop j).take j = cs.take j by rw [List.take_append_drop]]
    exact List.take_left' rfl
  show (⟨((flatT D cs).take k).take _, _⟩ : Tap) = _
  rw [e]
/-- One more commit behind commits: in its turn it is recovered, else not. -/
theorem rec_more {D : List UInt8 → List UInt8} (hD : ∀ x, (D x).length = 4) {cs : List Cmt} (h : InTurn 1 cs) {c : Cmt} (hc : commitE c = 0) (s : Int) (hs : 0 ≤ s ∧ s ≤ ((flatT D cs).length : Int)) (hl : (flatT D cs).length ≤ 190000) :
    recE ⟨flatT D cs ++ frameB D c, s⟩ = 0 ∧ recC D ⟨flatT D cs ++ frameB D c, s⟩ = if c.turn = ((cs.length + 1 : Nat) : Int) then cs ++ [c] else cs := by
  have h1 := frame_grows hD hc
  have hm : mayT ⟨flatT D cs ++ frameB D c, s⟩ = true := (mayT_iff _).2 ⟨by show (flatT D cs ++ frameB D c).length ≤ _; rw [List.length_append]; omega, by show 0 ≤ s ∧ s ≤ ((flatT D cs ++ frameB D c).length : Int); rw [List.length_append]; omega⟩
  refine ⟨by rw [recE, if_pos hm], ?_⟩
  rw [recC, if_pos hm]
  show (recL D 1 (flatT D cs ++ frameB D c)).1 = _
  rw [rec_frames hD h]
  have hf := frame_back hD hc []
  rw [List.append_nil] at hf
  by_cases ht : c.turn = ((cs.length + 1 : Nat) : Int)
  · rw [if_pos ht, rec_go hf (by rw [ht]; omega), rec_stop (frame_nil D)]
  · rw [if_neg ht, rec_other hf (by intro e; apply ht; rw [e]; omega)]
    simp
end Go.Proofs.Ytljdconhplgipab
