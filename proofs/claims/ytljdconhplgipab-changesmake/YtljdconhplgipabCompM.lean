/-
  What slices.CompactFunc does with a row of writes: the walk with no program, and the row in memory.
-/
import Derived.Test.YtljdconhplgipabPart5
import Derived.Test.YtljdconhplgipabPart2
import Derived.Lib.SliceRun
namespace Go.Proofs.Ytljdconhplgipab
open Go.RowKit
/-- The first walk: nothing was left out up to k. -/
def Cp1 (l : List Plc) (k : Nat) : Prop := 1 ≤ k ∧ k ≤ l.length ∧ compactL l = l.take k ++ compactFrom (l.getD (k - 1) noPlc) (l.drop k)
theorem cp1_start {l : List Plc} (h : 2 ≤ l.length) : Cp1 l 1 := by
  cases l with
  | nil => simp at h
  | cons a l => exact ⟨by omega, by simp, rfl⟩
theorem drop_at {l : List Plc} {k : Nat} (h : k < l.length) : l.drop k = l.getD k noPlc :: l.drop (k + 1) := by
  rw [List.drop_eq_getElem_cons h, show l[k] = l.getD k noPlc by simp [h]]
theorem take_at {l : List Plc} {k : Nat} (h : k < l.length) : l.take (k + 1) = l.take k ++ [l.getD k noPlc] := by
  rw [List.take_succ_eq_append_getElem h, show l[k] = l.getD k noPlc by simp [h]]
theorem Cp1.step {l : List Plc} {k : Nat} (h : Cp1 l k) (hk : k < l.length) (hc : cmpP (l.getD k noPlc) (l.getD (k - 1) noPlc) ≠ 0) : Cp1 l (k + 1) := by
  refine ⟨by omega, hk, ?_⟩
  rw [h.2.2, drop_at hk, compactFrom, if_neg hc, take_at hk, Nat.add_sub_cancel, List.append_assoc]; rfl
theorem Cp1.end {l : List Plc} (h : Cp1 l l.length) : compactL l = l := by
  rw [h.2.2, List.take_length, List.drop_length, compactFrom, List.append_nil]
/-- The second walk: kk writes stand, j were read. -/
def Cp2 (l X : List Plc) (kk j : Nat) : Prop := X.length = l.length ∧ kk < j ∧ j ≤ l.length ∧ X.drop (j - 1) = l.drop (j - 1) ∧ compactL l = X.take kk ++ compactFrom (l.getD (j - 1) noPlc) (l.drop j)
theorem Cp1.turn {l : List Plc} {k : Nat} (h : Cp1 l k) (hk : k < l.length) (hc : cmpP (l.getD k noPlc) (l.getD (k - 1) noPlc) = 0) : Cp2 l l k (k + 1) := by
  refine ⟨rfl, by omega, hk, rfl, ?_⟩
  rw [h.2.2, drop_at hk, compactFrom, if_pos hc, Nat.add_sub_cancel]
theorem Cp2.at {l X : List Plc} {kk j : Nat} (h : Cp2 l X kk j) (i : Nat) (h1 : j - 1 ≤ i) : X.getD i noPlc = l.getD i noPlc := by
  have e := congrArg (fun x => x[i - (j - 1)]?) h.2.2.2.1
  simp only [List.getElem?_drop] at e
  rw [show j - 1 + (i - (j - 1)) = i by omega] at e
  rw [List.getD_eq_getElem?_getD, List.getD_eq_getElem?_getD, e]
theorem Cp2.skip {l X : List Plc} {kk j : Nat} (h : Cp2 l X kk j) (hj : j < l.length) (hc : cmpP (l.getD j noPlc) (l.getD (j - 1) noPlc) = 0) : Cp2 l X kk (j + 1) := by
  obtain ⟨h1, h2, h3, h4, h5⟩ := h
  refine ⟨h1, by omega, hj, ?_, ?_⟩
  · rw [Nat.add_sub_cancel]
    have e := congrArg (List.drop 1) h4
    rw [List.drop_drop, List.drop_drop, show j - 1 + 1 = j by omega] at e
    exact e
  · rw [h5, drop_at hj, compactFrom, if_pos hc, Nat.add_sub_cancel]
theorem Cp2.keep {l X : List Plc} {kk j : Nat} (h : Cp2 l X kk j) (hj : j < l.length) (hc : cmpP (l.getD j noPlc) (l.getD (j - 1) noPlc) ≠ 0) : Cp2 l (X.set kk (l.getD j noPlc)) (kk + 1) (j + 1) := by
  obtain ⟨h1, h2, h3, h4, h5⟩ := h
  refine ⟨by rw [List.length_set, h1], by omega, hj, ?_, ?_⟩
  · rw [Nat.add_sub_cancel, List.drop_set_of_lt (by omega)]
    have e := congrArg (List.drop 1) h4
    rw [List.drop_drop, List.drop_drop, show j - 1 + 1 = j by omega] at e
    exact e
  · have ht : (X.set kk (l.getD j noPlc)).take (kk + 1) = X.take kk ++ [l.getD j noPlc] := by
      rw [take_at (l := X.set kk (l.getD j noPlc)) (by rw [List.length_set]; omega), List.take_set_of_le (Nat.le_refl _)]
      congr 1
      simp [show kk < X.length by omega]
    rw [h5, drop_at hj, compactFrom, if_neg hc, ht, Nat.add_sub_cancel, List.append_assoc]; rfl
theorem Cp2.end {l X : List Plc} {kk : Nat} (h : Cp2 l X kk l.length) : compactL l = X.take kk := by
  rw [h.2.2.2.2, List.drop_length, compactFrom, List.append_nil]
/-- The four cells of a write in its row. -/
theorem OwnV.at {rb : Nat} {w : World} {g n cap : Nat} {l : List Plc} (h : OwnV rb 0 w (.slice (some ⟨g, 0, none⟩) n cap) l) (i : Nat) (hi : i < l.length) : ∃ vn vk vv, (w.cell? ⟨g, i * 4, none⟩ = some vn ∧ w.cell? ⟨g, i * 4 + 1, none⟩ = some vk ∧ w.cell? ⟨g, i * 4 + 2, none⟩ = some (.bool (l.getD i noPlc).gone) ∧ w.cell? ⟨g, i * 4 + 3, none⟩ = some vv) ∧ PartIs 0 w vn (l.getD i noPlc).name ∧ PartIs 0 w vk (l.getD i noPlc).key ∧ PartIs 0 w vv (l.getD i noPlc).value := by
  obtain ⟨us, hl, hr, h3⟩ := h
  rcases hr.2 with ⟨e, _⟩ | ⟨g', cap', cur, e, hb, hg, hn, hm, hs, ht⟩
  · cases e
  · simp only [Value.slice.injEq, Option.some.injEq, Addr.mk.injEq] at e
    obtain ⟨⟨rfl, _⟩, rfl, rfl⟩ := e
    have hcell : ∀ j u, (flatW us)[j]? = some u → w.cell? ⟨g, j, none⟩ = some u := by
      intro j u hj
      have hlt : j < l.length * 4 := by
        have := (List.getElem?_eq_some_iff.1 hj).1
        rw [hr.1] at this
        exact this
      have e2 : (cur.toList.take (l.length * 4))[j]? = (flatW us)[j]? := by rw [ht]
      rw [List.getElem?_take, if_pos hlt, hj] at e2
      simp [World.cell?, hg]
      simpa using e2
    obtain ⟨e1, e2⟩ := mapW_getD hl i hi
    have hlen : us.length = l.length := by rw [← hl]; simp
    obtain ⟨c1, c2, c3, c4⟩ := flatW_get us i (by omega)
    have hp := h3 _ e2
    rw [e1] at c3 hp
    exact ⟨_, _, _, ⟨hcell _ _ c1, hcell _ _ c2, hcell _ _ c3, hcell _ _ c4⟩, hp.1, hp.2.1, hp.2.2⟩
theorem OwnV.frozen {rb : Nat} {w : World} {g n cap : Nat} {l : List Plc} (h : OwnV rb 0 w (.slice (some ⟨g, 0, none⟩) n cap) l) (j : Nat) : w.frozen? ⟨g, j, none⟩ = false := by
  obtain ⟨us, hl, hr, h3⟩ := h
  rcases hr.2 with ⟨e, _⟩ | ⟨g', cap', cur, e, hb, hg, _⟩
  · cases e
  · simp only [Value.slice.injEq, Option.some.injEq, Addr.mk.injEq] at e
    obtain ⟨⟨rfl, _⟩, _⟩ := e
    simp [World.frozen?, hg]
theorem flatW_set : ∀ (us : List WV) (i : Nat) (x : WV), flatW (us.set i x) = ((((flatW us).set (i * 4) x.2.1).set (i * 4 + 1) x.2.2.1).set (i * 4 + 2) (.bool x.1.gone)).set (i * 4 + 3) x.2.2.2
  | [], i, x => by simp [flatW]
  | y :: us, 0, x => by simp [flatW]
  | y :: us, i + 1, x => by
    have ih := flatW_set us i x
    have e : ∀ us : List WV, flatW (y :: us) = y.2.1 :: y.2.2.1 :: .bool y.1.gone :: y.2.2.2 :: flatW us := fun us => by simp [flatW]
    rw [List.set_cons_succ, e, e, ih, show (i + 1) * 4 = i * 4 + 4 by omega]
    rfl
/-- out[k] = p. -/
theorem OwnV.set {rb : Nat} {w : World} {g n cap : Nat} {l : List Plc} (h : OwnV rb 0 w (.slice (some ⟨g, 0, none⟩) n cap) l) (i : Nat) (vn vk vv : Value) (p : Plc) (h1 : PartIs 0 w vn p.name) (h2 : PartIs 0 w vk p.key) (h3 : PartIs 0 w vv p.value) :
    OwnV rb 0 ((((w.setCell ⟨g, i * 4, none⟩ vn).setCell ⟨g, i * 4 + 1, none⟩ vk).setCell ⟨g, i * 4 + 2, none⟩ (.bool p.gone)).setCell ⟨g, i * 4 + 3, none⟩ vv) (.slice (some ⟨g, 0, none⟩) n cap) (l.set i p) := by
  obtain ⟨us, hul, hr, hp⟩ := h
  have hgr : w.grownBy ((((w.setCell ⟨g, i * 4, none⟩ vn).setCell ⟨g, i * 4 + 1, none⟩ vk).setCell ⟨g, i * 4 + 2, none⟩ (.bool p.gone)).setCell ⟨g, i * 4 + 3, none⟩ vv) (some g) := grown_set (grown_set (grown_set (grown_set (grown_refl _ _) _ _) _ _) _ _) _ _
  rcases hr.2 with ⟨e, _⟩ | ⟨g', cap', cur, e, hb, hg, hn, hm, hs, ht⟩
  · cases e
  · simp only [Value.slice.injEq, Option.some.injEq, Addr.mk.injEq] at e
    obtain ⟨⟨rfl, _⟩, rfl, rfl⟩ := e
    have hrow : (some g : Option Nat) = none ∨ ∃ g' cur t fz, (some g : Option Nat) = some g' ∧ 0 ≤ g' ∧ w.heap[g']? = some (.cells cur t fz) ∧ t ≠ 5 := .inr ⟨g, cur, _, _, rfl, Nat.zero_le _, hg, wrT5⟩
    have hus : us.length = l.length := by rw [← hul]; simp
    refine ⟨us.set i (p, vn, vk, vv), by rw [List.map_set, hul], ⟨by rw [flatW_len, List.length_set, List.length_set, hus], .inr ⟨g, cap, _, by rw [List.length_set], hb, set_self (set_self (set_self (set_self hg))), by rw [List.length_set]; exact hn, hm, by simpa using hs, ?_⟩⟩, ?_⟩
    · rw [flatW_set, List.length_set]
      simp only [Array.toList_setIfInBounds]
      rw [List.take_set, List.take_set, List.take_set, List.take_set, ht]
    · intro x hx
      rcases List.mem_or_eq_of_mem_set hx with hx | rfl
      · exact ⟨(hp x hx).1.keptT hgr hrow, (hp x hx).2.1.keptT hgr hrow, (hp x hx).2.2.keptT hgr hrow⟩
      · exact ⟨h1.keptT hgr hrow, h2.keptT hgr hrow, h3.keptT hgr hrow⟩
theorem setCells_grown : ∀ (vs : List Value) (w : World) (g o : Nat), w.grownBy (w.setCells g o vs) (some g)
  | [], w, g, o => grown_refl w _
  | v :: vs, w, g, o => by
    rw [World.setCells]
    have h := setCells_grown vs (w.setCell ⟨g, o, none⟩ v) g (o + 1)
    have h0 := set_grown w g o v
    exact ⟨h.os.trans h0.os, h.tape.trans h0.tape, h.output.trans h0.output, Nat.le_trans h0.size h.size, fun i hi hn => (h.block i (Nat.lt_of_lt_of_le hi h0.size) hn).trans (h0.block i hi hn)⟩
theorem setCell_low {w : World} {g i j : Nat} {v : Value} (h : j < i) : (w.setCell ⟨g, i, none⟩ v).cell? ⟨g, j, none⟩ = w.cell? ⟨g, j, none⟩ := by
  simp only [World.setCell, World.cell?, Array.getElem?_modify, if_true]
  cases hh : w.heap[g]? with
  | none => rfl
  | some o =>
    cases o with
    | cells c e fr => simp [show i ≠ j by omega]
    | _ => rfl
theorem setCells_low : ∀ (vs : List Value) (w : World) (g o j : Nat), j < o → (w.setCells g o vs).cell? ⟨g, j, none⟩ = w.cell? ⟨g, j, none⟩
  | [], _, _, _, _, _ => rfl
  | v :: vs, w, g, o, j, h => by
    rw [World.setCells, setCells_low vs _ g (o + 1) j (by omega), setCell_low h]
/-- The first writes of a row, behind what was done to the later ones. -/
theorem OwnV.first {rb : Nat} {w w' : World} {g n cap : Nat} {l : List Plc} (h : OwnV rb 0 w (.slice (some ⟨g, 0, none⟩) n cap) l) (k : Nat) (hk : k ≤ l.length) (hc : k ≤ cap) (hg : w.grownBy w' (some g)) (hlow : ∀ j, j < k * 4 → w'.cell? ⟨g, j, none⟩ = w.cell? ⟨g, j, none⟩) : WritesIs w' (.slice (some ⟨g, 0, none⟩) k cap) (l.take k) := by
  have hrow : (some g : Option Nat) = none ∨ ∃ g' cur t fz, (some g : Option Nat) = some g' ∧ 0 ≤ g' ∧ w.heap[g']? = some (.cells cur t fz) ∧ t ≠ 5 := by
    rcases h.row with e | ⟨g', cur, fz, e, _, e2⟩
    · cases e
    · exact .inr ⟨g', cur, _, fz, e, Nat.zero_le _, e2, wrT5⟩
  refine ⟨_, cap, by rw [List.length_take, Nat.min_eq_left hk], by rw [List.length_take, Nat.min_eq_left hk]; exact hc, .inr ⟨g, 0, rfl, fun i hi => ?_⟩⟩
  rw [List.length_take, Nat.min_eq_left hk] at hi
  obtain ⟨vn, vk, vv, ⟨c1, c2, c3, c4⟩, p1, p2, p3⟩ := h.at i (by omega)
  have e : (l.take k).getD i noPlc = l.getD i noPlc := by
    rw [List.getD_eq_getElem?_getD, List.getD_eq_getElem?_getD, List.getElem?_take, if_pos hi]
  rw [e, Nat.zero_add]
  exact ⟨vn, vk, vv, by rw [hlow _ (by omega)]; exact c1, by rw [hlow _ (by omega)]; exact c2, by rw [hlow _ (by omega)]; exact c3, by rw [hlow _ (by omega)]; exact c4, (p1.keptT hg hrow).1, (p2.keptT hg hrow).1, (p3.keptT hg hrow).1⟩
end Go.Proofs.Ytljdconhplgipab
