/-
  Forests that are written to: what the laws of canopykeep rest on. No program is named.
-/
import Derived.Test.YtljdconhplgipabForestF
import Derived.Test.YtljdconhplgipabKPure
namespace Go.Proofs.Ytljdconhplgipab
theorem writeF_ok (p : Plc) : writeE (writeF p) = 0 := by
  obtain ⟨h1, h2, h3⟩ := writeF_len p
  refine (writeE_iff _).2 ⟨h1, h2, ?_⟩
  by_cases hg : (writeF p).gone = true
  · rw [if_pos hg]
    have hg' : p.gone = true := hg
    show (if p.gone = true then [] else p.value.take 32) = []
    rw [if_pos hg']
  · rw [if_neg hg]; exact h3
/-- No tenant has more pairs than so many. -/
def Small (m : Nat) (l : FL) : Prop := ∀ n, (ofF l n).length ≤ m
theorem small_nil : Small 0 [] := fun n => by rw [of_nil]; simp
theorem Small.mono {m m' : Nat} {l : FL} (h : Small m l) (hm : m ≤ m') : Small m' l := fun n => Nat.le_trans (h n) hm
theorem next_len (l : FL) (w : Plc) : (nextL l w).length ≤ (ofF l w.name).length + 1 := by
  unfold nextL
  by_cases hg : w.gone = true
  · rw [if_pos hg]; have := del_len (ofF l w.name) w.key; omega
  · rw [if_neg hg]; exact put_len _ _
theorem small_written {l : FL} {m : Nat} (hr : t_Rises l) (h : Small m l) (w : Plc) : Small (m + 1) (writtenL l w) := fun n => by
  rw [written_of hr]
  by_cases e : w.name = n
  · rw [if_pos e]
    have := next_len l w
    have := h w.name
    omega
  · rw [if_neg e]; have := h n; omega
theorem next_ok {l : FL} {m : Nat} (h : Forest l) {w : Plc} (hw : writeE w = 0) (hs : Small m l) (hm : m < 60) : nextE l w = 0 := by
  obtain ⟨_, hk, hv⟩ := (writeE_iff w).1 hw
  have hT := of_tree h w.name
  have hl := hs w.name
  unfold nextE
  by_cases hg : w.gone = true
  · rw [if_pos hg]; exact getE_ok hT hk
  · rw [if_neg hg] at hv ⊢
    exact (putE_ok _ _ hT ⟨hk, hv⟩ (by omega)).1
theorem writtenE_small {l : FL} {m : Nat} (h : Forest l) {w : Plc} (hw : writeE w = 0) (hs : Small m l) (hm : m < 60) : writtenE l w = if 8 < (writtenL l w).length then 11 else 0 := by
  rw [writtenE, if_pos (next_ok h hw hs hm)]
theorem written_len (l : FL) (w : Plc) : (writtenL l w).length ≤ l.length + 1 := by
  unfold writtenL
  by_cases hn : (nextL l w).length = 0
  · rw [if_pos hn]; have := t_del_len l w.name; omega
  · rw [if_neg hn]; exact t_put_len _ _
/-- What a key of a name has behind a write. -/
theorem get_written {l : FL} (h : Forest l) (w : Plc) (n k : List UInt8) : getF (ofF (writtenL l w) n) k = if w.name = n ∧ w.key = k then (if w.gone = true then none else some w.value) else getF (ofF l n) k := by
  rw [written_of h.rises]
  by_cases e : w.name = n
  · subst e
    rw [if_pos rfl]
    unfold nextL
    by_cases hg : w.gone = true
    · rw [if_pos hg, if_pos hg, get_del]
      by_cases e2 : w.key = k
      · rw [if_pos e2, if_pos ⟨rfl, e2⟩]
      · rw [if_neg e2, if_neg (fun h => e2 h.2)]
    · rw [if_neg hg, if_neg hg, get_put _ _ _ (of_tree h _).rises]
      by_cases e2 : w.key = k
      · rw [if_pos e2, if_pos ⟨rfl, e2⟩]
      · rw [if_neg e2, if_neg (fun h => e2 h.2)]
  · rw [if_neg e, if_neg (fun h => e h.1)]
/-- Forests are told by what keys of names have. -/
theorem forest_ext2 {l m : FL} (hl : Forest l) (hm : Forest m) (h : ∀ n k, getF (ofF l n) k = getF (ofF m n) k) : l = m :=
  forest_ext hl hm fun n => rises_ext _ _ (of_tree hl n).rises (of_tree hm n).rises (h n)
/-- The forest that writes make; those that have no room are left out. -/
def mkF (ws : List Plc) : FL := ws.foldl (fun f w => if writtenE f w = 0 then writtenL f w else f) []
theorem mkF_snoc (ws : List Plc) (w : Plc) : mkF (ws ++ [w]) = if writtenE (mkF ws) w = 0 then writtenL (mkF ws) w else mkF ws := by
  unfold mkF
  rw [List.foldl_append]
  rfl
theorem mkF_take (ws : List Plc) (m : Nat) (h : m < ws.length) : mkF (ws.take (m + 1)) = if writtenE (mkF (ws.take m)) (ws.getD m noPlc) = 0 then writtenL (mkF (ws.take m)) (ws.getD m noPlc) else mkF (ws.take m) := by
  rw [List.take_succ_eq_append_getElem h, mkF_snoc]; simp [h]
theorem mkF_ok (ws : List Plc) (h : ∀ w ∈ ws, writeE w = 0) : Forest (mkF ws) ∧ Small ws.length (mkF ws) := by
  suffices H : ∀ (ws : List Plc) (f : FL) (m : Nat), (∀ w ∈ ws, writeE w = 0) → Forest f → Small m f → Forest (ws.foldl (fun f w => if writtenE f w = 0 then writtenL f w else f) f) ∧ Small (m + ws.length) (ws.foldl (fun f w => if writtenE f w = 0 then writtenL f w else f) f) by
    have := H ws [] 0 h forest_nil small_nil
    rw [Nat.zero_add] at this
    exact this
  intro ws
  induction ws with
  | nil => intro f m _ h1 h2; exact ⟨h1, h2⟩
  | cons w r ih =>
    intro f m h h1 h2
    rw [List.foldl_cons]
    have hw := h w (by simp)
    have hr : ∀ x ∈ r, writeE x = 0 := fun x hx => h x (List.mem_cons_of_mem _ hx)
    by_cases he : writtenE f w = 0
    · rw [if_pos he]
      have := ih _ (m + 1) hr (written_forest h1 hw he) (small_written h1.rises h2 w)
      rw [show m + (w :: r).length = m + 1 + r.length by simp; omega]
      exact this
    · rw [if_neg he]
      have := ih _ (m + 1) hr h1 (h2.mono (by omega))
      rw [show m + (w :: r).length = m + 1 + r.length by simp; omega]
      exact this
/-- Forests out of places. -/
def mkP (l : List Plc) (n : Nat) : FL := mkF ((l.take n).map writeF)
theorem mkP_ok (l : List Plc) (n : Nat) : Forest (mkP l n) ∧ Small n (mkP l n) := by
  have := mkF_ok ((l.take n).map writeF) (fun w hw => by
    obtain ⟨p, _, rfl⟩ := List.mem_map.1 hw
    exact writeF_ok p)
  refine ⟨this.1, this.2.mono ?_⟩
  simp; omega
theorem apply_append : ∀ (x y : List Plc) (l : FL), applyE l (x ++ y) = (if applyE l x = 0 then applyE (applyL l x) y else applyE l x) ∧ applyL l (x ++ y) = applyL (applyL l x) y
  | [], y, l => by simp [applyE, applyL]
  | w :: x, y, l => by
    obtain ⟨h1, h2⟩ := apply_append x y (writtenL l w)
    rw [List.cons_append, applyE, applyE, applyL, applyL, h1, h2]
    refine ⟨?_, rfl⟩
    by_cases hw : writeE w = 0
    · rw [if_pos hw, if_pos hw]
      by_cases he : writtenE l w = 0
      · rw [if_pos he, if_pos he]
      · rw [if_neg he, if_neg he, if_neg he]
    · rw [if_neg hw, if_neg hw, if_neg hw]
theorem apply_forest : ∀ (ws : List Plc) (l : FL), Forest l → applyE l ws = 0 → Forest (applyL l ws)
  | [], l, h, _ => h
  | w :: ws, l, h, he => by
    rw [applyE] at he
    by_cases hw : writeE w = 0
    · rw [if_pos hw] at he
      by_cases h2 : writtenE l w = 0
      · rw [if_pos h2] at he
        exact apply_forest ws _ (written_forest h hw h2) he
      · rw [if_neg h2] at he; exact absurd he h2
    · rw [if_neg hw] at he; exact absurd he hw
theorem apply_small : ∀ (ws : List Plc) (l : FL) (m : Nat), Forest l → applyE l ws = 0 → Small m l → Small (m + ws.length) (applyL l ws)
  | [], l, m, _, _, hs => hs
  | w :: ws, l, m, h, he, hs => by
    rw [applyE] at he
    by_cases hw : writeE w = 0
    · rw [if_pos hw] at he
      by_cases h2 : writtenE l w = 0
      · rw [if_pos h2] at he
        have := apply_small ws _ (m + 1) (written_forest h hw h2) he (small_written h.rises hs w)
        rw [show m + (w :: ws).length = m + 1 + ws.length by simp; omega]
        exact this
      · rw [if_neg h2] at he; exact absurd he h2
    · rw [if_neg hw] at he; exact absurd he hw
theorem apply_full : ∀ (ws : List Plc) (l : FL) (m : Nat), Forest l → (∀ w ∈ ws, writeE w = 0) → Small m l → m + ws.length ≤ 60 → applyE l ws = 0 ∨ applyE l ws = 11
  | [], l, m, _, _, _, _ => .inl rfl
  | w :: ws, l, m, h, hv, hs, hm => by
    have hw := hv w (by simp)
    have hm' : m < 60 := by simp at hm; omega
    rw [applyE, if_pos hw]
    by_cases h2 : writtenE l w = 0
    · rw [if_pos h2]
      exact apply_full ws _ (m + 1) (written_forest h hw h2) (fun x hx => hv x (List.mem_cons_of_mem _ hx)) (small_written h.rises hs w) (by simp at hm; omega)
    · rw [if_neg h2]
      refine .inr ?_
      have := writtenE_small h hw hs hm'
      rw [this] at h2 ⊢
      by_cases h8 : 8 < (writtenL l w).length
      · rw [if_pos h8]
      · rw [if_neg h8] at h2; exact absurd rfl h2
theorem applied_ok {l : FL} (h : Forest l) (ws : List Plc) (hn : ws.length ≤ 10) : appliedE l ws = applyE l ws := by
  rw [appliedE, if_pos ((forest_iff l).2 h), if_neg (by omega)]
theorem applied_l {l : FL} (h : Forest l) (ws : List Plc) (hn : ws.length ≤ 10) : appliedF l ws = if applyE l ws = 0 then applyL l ws else [] := by
  rw [appliedF, applied_ok h ws hn]
theorem apply_one {l : FL} {w : Plc} (hw : writeE w = 0) : applyE l [w] = writtenE l w ∧ applyL l [w] = writtenL l w := by
  refine ⟨?_, rfl⟩
  rw [applyE, if_pos hw]
  by_cases h : writtenE l w = 0
  · rw [if_pos h, h]; rfl
  · rw [if_neg h]
theorem apply_two {l : FL} {a b : Plc} (ha : writeE a = 0) (hb : writeE b = 0) : applyE l [a, b] = (if writtenE l a = 0 then writtenE (writtenL l a) b else writtenE l a) ∧ applyL l [a, b] = writtenL (writtenL l a) b := by
  refine ⟨?_, rfl⟩
  rw [applyE, if_pos ha]
  by_cases h : writtenE l a = 0
  · rw [if_pos h, if_pos h]; exact (apply_one hb).1
  · rw [if_neg h, if_neg h]
/-- One write: room alone may lack. -/
theorem apply_room {l : FL} {m : Nat} (h : Forest l) {w : Plc} (hw : writeE w = 0) (hs : Small m l) (hm : m < 60) (he : applyE l [w] ≠ 0) : applyE l [w] = 11 ∧ l.length = 8 := by
  rw [(apply_one hw).1] at he ⊢
  rw [writtenE_small h hw hs hm] at he ⊢
  by_cases h8 : 8 < (writtenL l w).length
  · rw [if_pos h8]
    have := written_len l w
    have := h.room
    exact ⟨rfl, by omega⟩
  · rw [if_neg h8] at he; exact absurd rfl he
/-- Two writes to two places, in any order. -/
theorem apply_turns {l : FL} (h : Forest l) {a b : Plc} (ha : writeE a = 0) (hb : writeE b = 0) (h1 : applyE l [a, b] = 0) (h2 : applyE l [b, a] = 0) (hne : ¬ (a.name = b.name ∧ a.key = b.key)) : applyL l [a, b] = applyL l [b, a] := by
  have f1 := apply_forest _ _ h h1
  have f2 := apply_forest _ _ h h2
  refine forest_ext2 f1 f2 fun n k => ?_
  have e1 : writtenE l a = 0 := by
    rw [(apply_two ha hb).1] at h1
    by_cases e : writtenE l a = 0
    · exact e
    · rw [if_neg e] at h1; exact h1
  have e2 : writtenE l b = 0 := by
    rw [(apply_two hb ha).1] at h2
    by_cases e : writtenE l b = 0
    · exact e
    · rw [if_neg e] at h2; exact h2
  rw [(apply_two ha hb).2, (apply_two hb ha).2, get_written (written_forest h ha e1), get_written h, get_written (written_forest h hb e2), get_written h]
  by_cases p : b.name = n ∧ b.key = k
  · have hna : ¬ (a.name = n ∧ a.key = k) := fun q => hne ⟨q.1.trans p.1.symm, q.2.trans p.2.symm⟩
    rw [if_pos p, if_neg hna, if_pos p]
  · rw [if_neg p, if_neg p]
/-- A write that changes nothing. -/
theorem written_same {l : FL} (h : Forest l) (w : Plc) (hn : nextL l w = ofF l w.name) : writtenL l w = l := by
  refine t_rises_ext _ _ (written_rises h.rises w) h.rises fun n => ?_
  unfold writtenL
  by_cases h0 : (nextL l w).length = 0
  · rw [if_pos h0, t_get_del]
    by_cases e : w.name = n
    · rw [if_pos e]
      rw [hn, e] at h0
      have h0' : ofF l n = [] := List.eq_nil_of_length_eq_zero h0
      unfold ofF at h0'
      cases hf : l.find? (fun p => p.1 == n) with
      | none => unfold t_getF; rw [hf]; rfl
      | some t =>
        have hg : t_getF l n = some t.2 := by unfold t_getF; rw [hf]; rfl
        rw [hg] at h0'
        exact absurd h0' (h.tens t (List.mem_of_find?_eq_some hf)).2.1
    · rw [if_neg e]
  · rw [if_neg h0, t_get_put _ _ _ h.rises]
    by_cases e : w.name = n
    · rw [if_pos e, hn, e]
      rw [hn, e] at h0
      unfold ofF at h0 ⊢
      cases hf : t_getF l n with
      | none => rw [hf] at h0; exact absurd rfl h0
      | some t => rfl
    · rw [if_neg e]
theorem written_again {l : FL} {m : Nat} (h : Forest l) {w : Plc} (hw : writeE w = 0) (hs : Small m l) (hm : m < 60) (hg : getF (ofF l w.name) w.key = if w.gone = true then none else some w.value) : writtenL l w = l ∧ writtenE l w = 0 := by
  have hn : nextL l w = ofF l w.name := by
    have hr := (of_tree h w.name).rises
    unfold nextL
    by_cases hgo : w.gone = true
    · rw [if_pos hgo] at hg ⊢
      exact del_none _ _ hg
    · rw [if_neg hgo] at hg ⊢
      refine rises_ext _ _ (put_rises _ _ hr) hr fun k => ?_
      rw [get_put _ _ _ hr]
      by_cases e : w.key = k
      · rw [if_pos e, ← e, hg]
      · rw [if_neg e]
  have hl := written_same h w hn
  refine ⟨hl, ?_⟩
  rw [writtenE_small h hw hs hm, hl, if_neg (by have := h.room; omega)]
/-- The same writes again, to one place or to two tenants. -/
theorem apply_again {l : FL} {m : Nat} (h : Forest l) {a : Plc} (ha : writeE a = 0) (hs : Small m l) (hm : m + 1 < 60) (he : applyE l [a] = 0) : applyE (applyL l [a]) [a] = 0 ∧ applyL (applyL l [a]) [a] = applyL l [a] := by
  have e1 : writtenE l a = 0 := by rw [← (apply_one ha).1]; exact he
  have hf := written_forest h ha e1
  obtain ⟨g1, g2⟩ := written_again hf ha (small_written h.rises hs a) hm (by rw [get_written h, if_pos ⟨rfl, rfl⟩])
  rw [(apply_one ha).2, (apply_one ha).1, (apply_one ha).2]
  exact ⟨g2, g1⟩
theorem apply_again2 {l : FL} {m : Nat} (h : Forest l) {a b : Plc} (ha : writeE a = 0) (hb : writeE b = 0) (hs : Small m l) (hm : m + 2 < 60) (hne : b.name ≠ a.name) (he : applyE l [a, b] = 0) : applyE (applyL l [a, b]) [a, b] = 0 ∧ applyL (applyL l [a, b]) [a, b] = applyL l [a, b] := by
  have e0 := (apply_two (l := l) ha hb).1
  rw [he] at e0
  have e1 : writtenE l a = 0 := by
    by_cases e : writtenE l a = 0
    · exact e
    · rw [if_neg e] at e0; exact e0.symm
  rw [if_pos e1] at e0
  have hf := written_forest h ha e1
  have hf2 := written_forest hf hb e0.symm
  have hs2 := small_written hf.rises (small_written h.rises hs a) b
  have ga : getF (ofF (writtenL (writtenL l a) b) a.name) a.key = if a.gone = true then none else some a.value := by
    rw [get_written hf, if_neg (fun q => hne q.1), get_written h, if_pos ⟨rfl, rfl⟩]
  have gb : getF (ofF (writtenL (writtenL l a) b) b.name) b.key = if b.gone = true then none else some b.value := by
    rw [get_written hf, if_pos ⟨rfl, rfl⟩]
  obtain ⟨p1, p2⟩ := written_again hf2 ha hs2 (by omega) ga
  obtain ⟨q1, q2⟩ := written_again hf2 hb hs2 (by omega) gb
  rw [(apply_two ha hb).2, (apply_two ha hb).1, (apply_two ha hb).2, p1, if_pos p2]
  exact ⟨q2, q1⟩
/-- What a name has is not touched by a write to another one. -/
theorem written_apart {l : FL} (h : Forest l) (w : Plc) (n : List UInt8) (hne : w.name ≠ n) : ofF (writtenL l w) n = ofF l n := by
  rw [written_of h.rises, if_neg hne]
end Go.Proofs.Ytljdconhplgipab
