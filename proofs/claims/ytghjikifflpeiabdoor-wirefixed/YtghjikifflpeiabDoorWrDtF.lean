/-
  A request's parts, one behind the other, with no program: as wire.decodeTexts goes.
-/
import Derived.Test.YtghjikifflpeiabDoorRqBox
import Derived.Test.YtghjikifflpeiabDoorTapeH
namespace Go.Proofs.YtghjikifflpeiabDoor
open Go.RowKit
/-- What is to come, with so many parts behind. -/
def restTo (k : Int) (m : Nat) (p0 p1 p2 p3 r : List UInt8) : Option (Rq × List UInt8) :=
  match m with
  | 0 => restD k r
  | 1 => rest2 k p0 r
  | 2 => rest3 k p0 p1 r
  | 3 => rest4 k p0 p1 p2 r
  | _ => some (⟨k, p0, p1, p2, p3⟩, r)
theorem partD_false (r : List UInt8) : partD false r = some ([], r) := rfl
theorem partD_true (r : List UInt8) : partD true r = pieceL r := rfl
theorem partD_end (r : List UInt8) (h : r.length = 0) : pieceL r = none := by
  rw [List.eq_nil_of_length_eq_zero h]; rfl
theorem partD_at (r : List UInt8) (h : 0 < r.length) : pieceL r = if 1 + (r.getD 0 0).toNat ≤ r.length then some ((r.take (1 + (r.getD 0 0).toNat)).drop 1, r.drop (1 + (r.getD 0 0).toNat)) else none := by
  have := pieceL_at r 0 h
  rw [Nat.zero_add] at this
  exact this
/-- A step where the kind does not have the part. -/
theorem restTo_not (k : Int) (p0 p1 p2 p3 r : List UInt8) : (hasP k 0 = false → restTo k 0 p0 p1 p2 p3 r = restTo k 1 [] p1 p2 p3 r) ∧ (hasP k 1 = false → restTo k 1 p0 p1 p2 p3 r = restTo k 2 p0 [] p2 p3 r) ∧ (hasP k 2 = false → restTo k 2 p0 p1 p2 p3 r = restTo k 3 p0 p1 [] p3 r) ∧ (hasP k 3 = false → restTo k 3 p0 p1 p2 p3 r = restTo k 4 p0 p1 p2 [] r) := by
  refine ⟨fun h => ?_, fun h => ?_, fun h => ?_, fun h => ?_⟩
  · show restD k r = rest2 k [] r
    rw [restD, show namedK k = false from h]; rfl
  · show rest2 k p0 r = rest3 k p0 [] r
    rw [rest2, show namedK k = false from h]; rfl
  · show rest3 k p0 p1 r = rest4 k p0 p1 [] r
    rw [rest3, show decide (k = 3) = false from h]; rfl
  · show rest4 k p0 p1 p2 r = some (⟨k, p0, p1, p2, []⟩, r)
    rw [rest4, show decide (k = 4) = false from h]; rfl
theorem restTo_none (k : Int) (p0 p1 p2 p3 r : List UInt8) (h0 : pieceL r = none) (m : Nat) (hm : m < 4) (h : hasP k m = true) : restTo k m p0 p1 p2 p3 r = none := by
  match m, hm with
  | 0, _ => show restD k r = none; rw [restD, show namedK k = true from h, partD_true, h0]
  | 1, _ => show rest2 k p0 r = none; rw [rest2, show namedK k = true from h, partD_true, h0]
  | 2, _ => show rest3 k p0 p1 r = none; rw [rest3, show decide (k = 3) = true from h, partD_true, h0]
  | 3, _ => show rest4 k p0 p1 p2 r = none; rw [rest4, show decide (k = 4) = true from h, partD_true, h0]
theorem restTo_some (k : Int) (p0 p1 p2 p3 r p r2 : List UInt8) (h0 : pieceL r = some (p, r2)) : (hasP k 0 = true → restTo k 0 p0 p1 p2 p3 r = restTo k 1 p p1 p2 p3 r2) ∧ (hasP k 1 = true → restTo k 1 p0 p1 p2 p3 r = restTo k 2 p0 p p2 p3 r2) ∧ (hasP k 2 = true → restTo k 2 p0 p1 p2 p3 r = restTo k 3 p0 p1 p p3 r2) ∧ (hasP k 3 = true → restTo k 3 p0 p1 p2 p3 r = restTo k 4 p0 p1 p2 p r2) := by
  refine ⟨fun h => ?_, fun h => ?_, fun h => ?_, fun h => ?_⟩
  · show restD k r = rest2 k p r2
    rw [restD, show namedK k = true from h, partD_true, h0]
  · show rest2 k p0 r = rest3 k p0 p r2
    rw [rest2, show namedK k = true from h, partD_true, h0]
  · show rest3 k p0 p1 r = rest4 k p0 p1 p r2
    rw [rest3, show decide (k = 3) = true from h, partD_true, h0]
  · show rest4 k p0 p1 p2 r = some (⟨k, p0, p1, p2, p⟩, r2)
    rw [rest4, show decide (k = 4) = true from h, partD_true, h0]
/-- What decodeTexts answers. -/
def dtE (k : Int) (b : List UInt8) : Int := match restD k b with | none => 14 | some (_, x) => if x.length = 0 then 0 else 4
def dtR (k : Int) (b : List UInt8) : Rq := match restD k b with | none => noRq | some (r, x) => if x.length = 0 then r else noRq
theorem dt_none {k : Int} {b : List UInt8} (h : restD k b = none) : dtE k b = 14 ∧ dtR k b = noRq := by
  unfold dtE dtR; rw [h]; exact ⟨rfl, rfl⟩
theorem dt_more {k : Int} {b x : List UInt8} {r : Rq} (h : restD k b = some (r, x)) (hx : 0 < x.length) : dtE k b = 4 ∧ dtR k b = noRq := by
  unfold dtE dtR; rw [h]; exact ⟨if_neg (by omega), if_neg (by omega)⟩
theorem dt_some {k : Int} {b x : List UInt8} {r : Rq} (h : restD k b = some (r, x)) (hx : x.length = 0) : dtE k b = 0 ∧ dtR k b = r := by
  unfold dtE dtR; rw [h]; exact ⟨if_pos hx, if_pos hx⟩
theorem dt_kind {k : Int} {b : List UInt8} (h : dtE k b = 0) : (dtR k b).kind = k := by
  match hD : restD k b with
  | none => rw [(dt_none hD).1] at h; cases h
  | some (r, x) =>
    by_cases hx : x.length = 0
    · rw [(dt_some hD hx).2]; exact (rest_fixed hD).2
    · rw [(dt_more hD (by omega)).1] at h; cases h
/-- What Decode answers, over what decodeTexts does. -/
theorem wdec_dt {b : List UInt8} (h1 : ¬ 4000 < b.length) (h2 : ¬ b.length = 0) (hk : 1 ≤ kindD b ∧ kindD b ≤ 8) : wdecE b = (if dtE (kindD b) (b.drop 1) = 0 then reqE (dtR (kindD b) (b.drop 1)) else dtE (kindD b) (b.drop 1)) ∧ (wdecE b = 0 → wdecR b = dtR (kindD b) (b.drop 1)) := by
  match hD : restD (kindD b) (b.drop 1) with
  | none =>
    obtain ⟨e1, e2⟩ := dt_none hD
    have : wdecE b = 14 := by rw [wdecE, if_neg h1, if_neg h2, if_pos hk, hD]
    rw [e1, this]
    exact ⟨rfl, fun h => by cases h⟩
  | some (r, x) =>
    have hw : wdecE b = if x.length = 0 then reqE r else 4 := by rw [wdecE, if_neg h1, if_neg h2, if_pos hk, hD]
    by_cases hx : x.length = 0
    · obtain ⟨e1, e2⟩ := dt_some hD hx
      rw [if_pos hx] at hw
      rw [e1, e2, if_pos rfl]
      exact ⟨hw, fun h => by rw [wdecR, if_pos h, hD]⟩
    · obtain ⟨e1, e2⟩ := dt_more hD (by omega)
      rw [if_neg hx] at hw
      rw [e1, hw]
      exact ⟨rfl, fun h => by cases h⟩
theorem dt_size {k : Int} {b : List UInt8} (hb : b.length ≤ 4000) : (dtR k b).name.length ≤ 4000 ∧ (dtR k b).key.length ≤ 4000 ∧ (dtR k b).last.length ≤ 4000 ∧ (dtR k b).value.length ≤ 4000 := by
  match hD : restD k b with
  | none => rw [(dt_none hD).2]; simp [noRq]
  | some (r, x) =>
    by_cases hx : x.length = 0
    · rw [(dt_some hD hx).2]
      obtain ⟨_, r1, r2, r3, h1, h2, h3, h4⟩ := rest_parts hD
      have key : ∀ {c : Bool} {r p r2 : List UInt8}, partD c r = some (p, r2) → p.length ≤ r.length ∧ r2.length ≤ r.length := by
        intro c r p r2 h
        have hf := part_fixed h
        cases c with
        | false => have := part_none h rfl; subst this; rw [hf]; exact ⟨Nat.zero_le _, by simp [partB]⟩
        | true => rw [hf]; simp [partB, lenAnd]; omega
      have a1 := key h1
      have a2 := key h2
      have a3 := key h3
      have a4 := key h4
      omega
    · rw [(dt_more hD (by omega)).2]; simp [noRq]
end Go.Proofs.YtghjikifflpeiabDoor
