/-
  Decoding a request by places, with no program: as the document's RequestOf goes.
-/
import Derived.Test.YtghjikifflpeiaaDoorWireF
import Derived.Test.YtghjikifflpeiaaDoorTapeH
namespace Go.Proofs.YtghjikifflpeiaaDoor
open Go.RowKit
theorem at_some {b : List UInt8} {o : Option Nat} {m : Nat} (h : (pieceAt b o).2 = some m) : ∃ n, o = some n ∧ pieceL (b.drop n) = some ((pieceAt b o).1, b.drop m) ∧ m ≤ b.length := by
  cases o with
  | none => rw [pieceAt_none] at h; cases h
  | some n =>
    rcases pieceAt_left b n with ⟨p, m', h1, h2, h3, _⟩ | ⟨h1, _⟩
    · rw [h1] at h ⊢
      cases h
      exact ⟨n, rfl, h2, h3⟩
    · rw [h1] at h; cases h
theorem at_none {b : List UInt8} {n : Nat} (h : (pieceAt b (some n)).2 = none) : pieceL (b.drop n) = none := by
  rcases pieceAt_left b n with ⟨p, m', h1, _⟩ | ⟨_, h2⟩
  · rw [h1] at h; cases h
  · exact h2
/-- What the end says. -/
structure EndsAt (b : List UInt8) (o : Option Nat) (r : Rq) : Prop where
  none : o = none → wdecE b = 14 ∧ wdecR b = noRq
  few : ∀ m, o = some m → m ≤ b.length
  more : ∀ m, o = some m → m < b.length → wdecE b = 4 ∧ wdecR b = noRq
  all : ∀ m, o = some m → m = b.length → wdecE b = reqE r ∧ (reqE r = 0 → wdecR b = r) ∧ (reqE r ≠ 0 → wdecR b = noRq)
theorem ends_of {b : List UInt8} {o : Option Nat} {r : Rq} (h1 : ¬ 4000 < b.length) (h2 : ¬ b.length = 0) (hk : 1 ≤ kindD b ∧ kindD b ≤ 8) (hn : o = none → restD (kindD b) (b.drop 1) = none) (hs : ∀ m, o = some m → restD (kindD b) (b.drop 1) = some (r, b.drop m) ∧ m ≤ b.length) : EndsAt b o r := by
  have hw : ∀ m, o = some m → wdecE b = if (b.drop m).length = 0 then reqE r else 4 := fun m hm => by rw [wdecE, if_neg h1, if_neg h2, if_pos hk, (hs m hm).1]
  refine ⟨fun h => ?_, fun m hm => (hs m hm).2, fun m hm hl => ?_, fun m hm hl => ?_⟩
  · have : wdecE b = 14 := by rw [wdecE, if_neg h1, if_neg h2, if_pos hk, hn h]
    exact ⟨this, wdecR_bad (by rw [this]; decide)⟩
  · have e := hw m hm
    rw [if_neg (by rw [List.length_drop]; omega)] at e
    exact ⟨e, wdecR_bad (by rw [e]; decide)⟩
  · have e := hw m hm
    rw [if_pos (by rw [List.length_drop]; omega)] at e
    exact ⟨e, fun h => by rw [wdecR, if_pos (by rw [e]; exact h), (hs m hm).1], fun h => wdecR_bad (by rw [e]; exact h)⟩
theorem ends_bare {b : List UInt8} (h1 : ¬ 4000 < b.length) (h2 : ¬ b.length = 0) (hk : 1 ≤ kindD b ∧ kindD b ≤ 8) (hN : namedK (kindD b) = false) (h3 : ¬ kindD b = 3) (h4 : ¬ kindD b = 4) : EndsAt b (some 1) ⟨kindD b, [], [], [], []⟩ := by
  refine ends_of h1 h2 hk (fun h => by cases h) fun m hm => ?_
  cases hm
  refine ⟨rest_of (r1 := b.drop 1) (r2 := b.drop 1) (r3 := b.drop 1) ?_ ?_ ?_ ?_, by omega⟩
  · rw [hN]; rfl
  · rw [hN]; rfl
  · rw [decide_eq_false h3]; rfl
  · rw [decide_eq_false h4]; rfl
theorem ends_two {b : List UInt8} (h1 : ¬ 4000 < b.length) (h2 : ¬ b.length = 0) (hk : 1 ≤ kindD b ∧ kindD b ≤ 8) (hN : namedK (kindD b) = true) (h3 : ¬ kindD b = 3) (h4 : ¬ kindD b = 4) : EndsAt b (pieceAt b (pieceAt b (some 1)).2).2 ⟨kindD b, (pieceAt b (some 1)).1, (pieceAt b (pieceAt b (some 1)).2).1, [], []⟩ := by
  refine ends_of h1 h2 hk (fun h => ?_) fun m hm => ?_
  · rw [restD, hN]
    show (match pieceL (b.drop 1) with | some (n, r2) => rest2 (kindD b) n r2 | none => none) = none
    cases h5 : (pieceAt b (some 1)).2 with
    | none => rw [at_none h5]
    | some m1 =>
      obtain ⟨n, e1, e2, _⟩ := at_some h5
      cases e1
      rw [e2]
      show rest2 _ _ _ = none
      rw [h5] at h
      rw [rest2, hN]
      show (match pieceL (b.drop m1) with | some (q, r2) => rest3 (kindD b) _ q r2 | none => none) = none
      rw [at_none h]
  · obtain ⟨m1, e1, e2, e3⟩ := at_some hm
    obtain ⟨n, f1, f2, f3⟩ := at_some e1
    cases f1
    refine ⟨rest_of (r1 := b.drop m1) (r2 := b.drop m) (r3 := b.drop m) ?_ ?_ ?_ ?_, e3⟩
    · rw [hN]; exact f2
    · rw [hN]; exact e2
    · rw [decide_eq_false h3]; rfl
    · rw [decide_eq_false h4]; rfl
theorem ends_three {b : List UInt8} (h1 : ¬ 4000 < b.length) (h2 : ¬ b.length = 0) (hk : 1 ≤ kindD b ∧ kindD b ≤ 8) (h : kindD b = 3) : EndsAt b (pieceAt b (pieceAt b (pieceAt b (some 1)).2).2).2 ⟨kindD b, (pieceAt b (some 1)).1, (pieceAt b (pieceAt b (some 1)).2).1, (pieceAt b (pieceAt b (pieceAt b (some 1)).2).2).1, []⟩ := by
  have hN : namedK (kindD b) = true := by rw [h]; decide
  have h4 : ¬ kindD b = 4 := by omega
  refine ends_of h1 h2 hk (fun hn => ?_) fun m hm => ?_
  · rw [restD, hN]
    show (match pieceL (b.drop 1) with | some (n, r2) => rest2 (kindD b) n r2 | none => none) = none
    cases h5 : (pieceAt b (some 1)).2 with
    | none => rw [at_none h5]
    | some m1 =>
      obtain ⟨n, e1, e2, _⟩ := at_some h5
      cases e1
      rw [e2]
      show rest2 _ _ _ = none
      rw [h5] at hn
      rw [rest2, hN]
      show (match pieceL (b.drop m1) with | some (q, r2) => rest3 (kindD b) _ q r2 | none => none) = none
      cases h6 : (pieceAt b (some m1)).2 with
      | none => rw [at_none h6]
      | some m2 =>
        obtain ⟨n, e1, e2, _⟩ := at_some h6
        cases e1
        rw [e2]
        show rest3 _ _ _ _ = none
        rw [h6] at hn
        rw [rest3, decide_eq_true h]
        show (match pieceL (b.drop m2) with | some (l, r2) => rest4 (kindD b) _ _ l r2 | none => none) = none
        rw [at_none hn]
  · obtain ⟨m2, d1, d2, d3⟩ := at_some hm
    obtain ⟨m1, e1, e2, e3⟩ := at_some d1
    obtain ⟨n, f1, f2, f3⟩ := at_some e1
    cases f1
    refine ⟨rest_of (r1 := b.drop m1) (r2 := b.drop m2) (r3 := b.drop m) ?_ ?_ ?_ ?_, d3⟩
    · rw [hN]; exact f2
    · rw [hN]; exact e2
    · rw [decide_eq_true h]; exact d2
    · rw [decide_eq_false h4]; rfl
theorem ends_four {b : List UInt8} (h1 : ¬ 4000 < b.length) (h2 : ¬ b.length = 0) (hk : 1 ≤ kindD b ∧ kindD b ≤ 8) (h : kindD b = 4) : EndsAt b (pieceAt b (pieceAt b (pieceAt b (some 1)).2).2).2 ⟨kindD b, (pieceAt b (some 1)).1, (pieceAt b (pieceAt b (some 1)).2).1, [], (pieceAt b (pieceAt b (pieceAt b (some 1)).2).2).1⟩ := by
  have hN : namedK (kindD b) = true := by rw [h]; decide
  have h3 : ¬ kindD b = 3 := by omega
  refine ends_of h1 h2 hk (fun hn => ?_) fun m hm => ?_
  · rw [restD, hN]
    show (match pieceL (b.drop 1) with | some (n, r2) => rest2 (kindD b) n r2 | none => none) = none
    cases h5 : (pieceAt b (some 1)).2 with
    | none => rw [at_none h5]
    | some m1 =>
      obtain ⟨n, e1, e2, _⟩ := at_some h5
      cases e1
      rw [e2]
      show rest2 _ _ _ = none
      rw [h5] at hn
      rw [rest2, hN]
      show (match pieceL (b.drop m1) with | some (q, r2) => rest3 (kindD b) _ q r2 | none => none) = none
      cases h6 : (pieceAt b (some m1)).2 with
      | none => rw [at_none h6]
      | some m2 =>
        obtain ⟨n, e1, e2, _⟩ := at_some h6
        cases e1
        rw [e2]
        show rest3 _ _ _ _ = none
        rw [h6] at hn
        rw [rest3, decide_eq_false h3]
        show rest4 _ _ _ _ _ = none
        rw [rest4, decide_eq_true h]
        show (match pieceL (b.drop m2) with | some (v, r2) => some ((⟨kindD b, _, _, _, v⟩ : Rq), r2) | none => none) = none
        rw [at_none hn]
  · obtain ⟨m2, d1, d2, d3⟩ := at_some hm
    obtain ⟨m1, e1, e2, e3⟩ := at_some d1
    obtain ⟨n, f1, f2, f3⟩ := at_some e1
    cases f1
    refine ⟨rest_of (r1 := b.drop m1) (r2 := b.drop m2) (r3 := b.drop m2) ?_ ?_ ?_ ?_, d3⟩
    · rw [hN]; exact f2
    · rw [hN]; exact e2
    · rw [decide_eq_false h3]; rfl
    · rw [decide_eq_true h]; exact d2
theorem wof_long {b : List UInt8} (h : 4000 < b.length) : wdecE b = 1 ∧ wdecR b = noRq := by
  have : wdecE b = 1 := by rw [wdecE, if_pos h]
  exact ⟨this, wdecR_bad (by rw [this]; decide)⟩
theorem wof_short {b : List UInt8} (h : b.length = 0) : wdecE b = 14 ∧ wdecR b = noRq := by
  have : wdecE b = 14 := by rw [wdecE, if_neg (by omega), if_pos h]
  exact ⟨this, wdecR_bad (by rw [this]; decide)⟩
theorem wof_kind {b : List UInt8} (h1 : ¬ 4000 < b.length) (h2 : ¬ b.length = 0) (hk : ¬ (1 ≤ kindD b ∧ kindD b ≤ 8)) : wdecE b = 5 ∧ wdecR b = noRq := by
  have : wdecE b = 5 := by rw [wdecE, if_neg h1, if_neg h2, if_neg hk]
  exact ⟨this, wdecR_bad (by rw [this]; decide)⟩
end Go.Proofs.YtghjikifflpeiaaDoor
