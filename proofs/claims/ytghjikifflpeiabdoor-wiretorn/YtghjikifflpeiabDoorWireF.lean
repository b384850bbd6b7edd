/-
  Requests as bytes, with no program: what chapter 9 says.
-/
import Derived.Test.YtghjikifflpeiabDoorTapeF
namespace Go.Proofs.YtghjikifflpeiabDoor
open Go.RowKit
structure Rq where
  kind : Int
  name : List UInt8
  key : List UInt8
  last : List UInt8
  value : List UInt8
def noRq : Rq := ⟨0, [], [], [], []⟩
def namedK (k : Int) : Bool := decide (2 ≤ k ∧ k ≤ 5) || decide (k = 8)
/-- What P9.2 refuses of the parts that it has. -/
def rqParts (r : Rq) : Int := if namedK r.kind = true then (if nameFaultF r.name.length = 0 then (if keyFaultF r.key.length = 0 then (if r.kind = 3 then keyFaultF r.last.length else 0) else keyFaultF r.key.length) else nameFaultF r.name.length) else 0
def rqForm (r : Rq) : Int := if namedK r.kind = false ∧ 0 < r.name.length + r.key.length then 4 else if (r.kind ≠ 3 ∧ 0 < r.last.length) ∨ (r.kind ≠ 4 ∧ 0 < r.value.length) then 4 else 0
def reqE (r : Rq) : Int := if 1 ≤ r.kind ∧ r.kind ≤ 8 then (if rqParts r = 0 then (if 32 < r.value.length then 1 else rqForm r) else rqParts r) else 5
structure RqOK (r : Rq) : Prop where
  kind : 1 ≤ r.kind ∧ r.kind ≤ 8
  name : namedK r.kind = true → 1 ≤ r.name.length ∧ r.name.length ≤ 8
  key : namedK r.kind = true → 1 ≤ r.key.length ∧ r.key.length ≤ 16
  last : r.kind = 3 → 1 ≤ r.last.length ∧ r.last.length ≤ 16
  value : r.value.length ≤ 32
  noName : namedK r.kind = false → r.name = []
  noKey : namedK r.kind = false → r.key = []
  noLast : r.kind ≠ 3 → r.last = []
  noValue : r.kind ≠ 4 → r.value = []
theorem named3 : namedK 3 = true := by decide
theorem rqParts_iff (r : Rq) : rqParts r = 0 ↔ (namedK r.kind = true → (1 ≤ r.name.length ∧ r.name.length ≤ 8) ∧ (1 ≤ r.key.length ∧ r.key.length ≤ 16) ∧ (r.kind = 3 → 1 ≤ r.last.length ∧ r.last.length ≤ 16)) := by
  unfold rqParts
  by_cases h : namedK r.kind = true
  · rw [if_pos h]
    by_cases h1 : nameFaultF r.name.length = 0
    · rw [if_pos h1]
      by_cases h2 : keyFaultF r.key.length = 0
      · rw [if_pos h2]
        by_cases h3 : r.kind = 3
        · rw [if_pos h3, keyFault_iff]
          exact ⟨fun e _ => ⟨(nameFault_iff _).1 h1, (keyFault_iff _).1 h2, fun _ => e⟩, fun e => (e h).2.2 h3⟩
        · rw [if_neg h3]
          exact ⟨fun _ _ => ⟨(nameFault_iff _).1 h1, (keyFault_iff _).1 h2, fun e => absurd e h3⟩, fun _ => rfl⟩
      · rw [if_neg h2]
        exact ⟨fun e => absurd e h2, fun e => (keyFault_iff _).2 (e h).2.1⟩
    · rw [if_neg h1]
      exact ⟨fun e => absurd e h1, fun e => (nameFault_iff _).2 (e h).1⟩
  · rw [if_neg h]
    exact ⟨fun _ e => absurd e h, fun _ => rfl⟩
theorem len0 {l : List UInt8} (h : ¬ 0 < l.length) : l = [] := List.eq_nil_of_length_eq_zero (by omega)
theorem rqForm_iff (r : Rq) : rqForm r = 0 ↔ (namedK r.kind = false → r.name = [] ∧ r.key = []) ∧ (r.kind ≠ 3 → r.last = []) ∧ (r.kind ≠ 4 → r.value = []) := by
  unfold rqForm
  by_cases h1 : namedK r.kind = false ∧ 0 < r.name.length + r.key.length
  · rw [if_pos h1]
    refine ⟨fun e => (by cases e), fun e => ?_⟩
    have := e.1 h1.1
    rw [this.1, this.2] at h1
    simp at h1
  · rw [if_neg h1]
    by_cases h2 : (r.kind ≠ 3 ∧ 0 < r.last.length) ∨ (r.kind ≠ 4 ∧ 0 < r.value.length)
    · rw [if_pos h2]
      refine ⟨fun e => (by cases e), fun e => ?_⟩
      rcases h2 with h2 | h2
      · rw [e.2.1 h2.1] at h2; simp at h2
      · rw [e.2.2 h2.1] at h2; simp at h2
    · rw [if_neg h2]
      refine ⟨fun _ => ⟨fun h => ?_, fun h => len0 fun e => h2 (.inl ⟨h, e⟩), fun h => len0 fun e => h2 (.inr ⟨h, e⟩)⟩, fun _ => rfl⟩
      have hz : ¬ 0 < r.name.length + r.key.length := fun e => h1 ⟨h, e⟩
      exact ⟨len0 (by omega), len0 (by omega)⟩
theorem req_iff (r : Rq) : reqE r = 0 ↔ RqOK r := by
  unfold reqE
  by_cases h0 : 1 ≤ r.kind ∧ r.kind ≤ 8
  · rw [if_pos h0]
    by_cases h1 : rqParts r = 0
    · rw [if_pos h1]
      have hp := (rqParts_iff r).1 h1
      by_cases h2 : 32 < r.value.length
      · rw [if_pos h2]
        exact ⟨fun e => (by cases e), fun e => by have := e.value; omega⟩
      · rw [if_neg h2, rqForm_iff]
        refine ⟨fun ⟨e1, e2, e3⟩ => ⟨h0, fun h => (hp h).1, fun h => (hp h).2.1, fun h => (hp (by rw [h]; decide)).2.2 h, by omega, fun h => (e1 h).1, fun h => (e1 h).2, e2, e3⟩, fun e => ⟨fun h => ⟨e.noName h, e.noKey h⟩, e.noLast, e.noValue⟩⟩
    · rw [if_neg h1]
      refine ⟨fun e => absurd e h1, fun e => (rqParts_iff r).2 fun h => ⟨e.name h, e.key h, e.last⟩⟩
  · rw [if_neg h0]
    exact ⟨fun e => (by cases e), fun e => absurd e.kind h0⟩
/-- A part that it has, or not. -/
def partB (c : Bool) (p : List UInt8) : List UInt8 := if c = true then lenAnd p else []
def partD (c : Bool) (r : List UInt8) : Option (List UInt8 × List UInt8) := if c = true then pieceL r else some ([], r)
theorem part_back (c : Bool) (p r : List UInt8) (h : c = true → p.length < 256) (h0 : c = false → p = []) : partD c (partB c p ++ r) = some (p, r) := by
  cases c with
  | true => exact piece_lenAnd p r (h rfl)
  | false => rw [h0 rfl]; rfl
theorem part_fixed {c : Bool} {r p r2 : List UInt8} (h : partD c r = some (p, r2)) : r = partB c p ++ r2 := by
  cases c with
  | true => exact piece_fixed h
  | false =>
    obtain ⟨rfl, rfl⟩ : [] = p ∧ r = r2 := by simpa [partD] using h
    rfl
theorem part_more {c : Bool} {r p r2 : List UInt8} (h : partD c r = some (p, r2)) (x : List UInt8) : partD c (r ++ x) = some (p, r2 ++ x) := by
  cases c with
  | true => exact piece_more h x
  | false =>
    obtain ⟨rfl, rfl⟩ : [] = p ∧ r = r2 := by simpa [partD] using h
    rfl
theorem part_none {c : Bool} {r p r2 : List UInt8} (h : partD c r = some (p, r2)) (hc : c = false) : p = [] := by
  subst hc
  have : [] = p ∧ r = r2 := by simpa [partD] using h
  exact this.1.symm
/-- What Encode makes. -/
def restB (r : Rq) : List UInt8 := partB (namedK r.kind) r.name ++ (partB (namedK r.kind) r.key ++ (partB (decide (r.kind = 3)) r.last ++ partB (decide (r.kind = 4)) r.value))
def reqB (r : Rq) : List UInt8 := UInt8.ofNat r.kind.toNat :: restB r
def rest4 (k : Int) (n q l r : List UInt8) : Option (Rq × List UInt8) := match partD (decide (k = 4)) r with | some (v, r2) => some (⟨k, n, q, l, v⟩, r2) | none => none
def rest3 (k : Int) (n q r : List UInt8) : Option (Rq × List UInt8) := match partD (decide (k = 3)) r with | some (l, r2) => rest4 k n q l r2 | none => none
def rest2 (k : Int) (n r : List UInt8) : Option (Rq × List UInt8) := match partD (namedK k) r with | some (q, r2) => rest3 k n q r2 | none => none
def restD (k : Int) (r : List UInt8) : Option (Rq × List UInt8) := match partD (namedK k) r with | some (n, r2) => rest2 k n r2 | none => none
theorem rest_back {r : Rq} (h : RqOK r) (x : List UInt8) : restD r.kind (restB r ++ x) = some (r, x) := by
  have e1 := part_back (namedK r.kind) r.name (partB (namedK r.kind) r.key ++ (partB (decide (r.kind = 3)) r.last ++ (partB (decide (r.kind = 4)) r.value ++ x))) (fun e => by have := h.name e; omega) h.noName
  have e2 := part_back (namedK r.kind) r.key (partB (decide (r.kind = 3)) r.last ++ (partB (decide (r.kind = 4)) r.value ++ x)) (fun e => by have := h.key e; omega) h.noKey
  have e3 := part_back (decide (r.kind = 3)) r.last (partB (decide (r.kind = 4)) r.value ++ x) (fun e => by have := h.last (by simpa using e); omega) (fun e => h.noLast (by simpa using e))
  have e4 := part_back (decide (r.kind = 4)) r.value x (fun _ => by have := h.value; omega) (fun e => h.noValue (by simpa using e))
  rw [restB, List.append_assoc, List.append_assoc, List.append_assoc, restD, e1]
  show rest2 _ _ _ = _
  rw [rest2, e2]
  show rest3 _ _ _ _ = _
  rw [rest3, e3]
  show rest4 _ _ _ _ _ = _
  rw [rest4, e4]
theorem rest_parts {k : Int} {b x : List UInt8} {r : Rq} (h : restD k b = some (r, x)) : r.kind = k ∧ ∃ r1 r2 r3, partD (namedK k) b = some (r.name, r1) ∧ partD (namedK k) r1 = some (r.key, r2) ∧ partD (decide (k = 3)) r2 = some (r.last, r3) ∧ partD (decide (k = 4)) r3 = some (r.value, x) := by
  rw [restD] at h
  match h1 : partD (namedK k) b with
  | none => rw [h1] at h; cases h
  | some (n, r1) =>
    rw [h1] at h
    replace h : rest2 k n r1 = some (r, x) := h
    rw [rest2] at h
    match h2 : partD (namedK k) r1 with
    | none => rw [h2] at h; cases h
    | some (q, r2) =>
      rw [h2] at h
      replace h : rest3 k n q r2 = some (r, x) := h
      rw [rest3] at h
      match h3 : partD (decide (k = 3)) r2 with
      | none => rw [h3] at h; cases h
      | some (l, r3) =>
        rw [h3] at h
        replace h : rest4 k n q l r3 = some (r, x) := h
        rw [rest4] at h
        match h4 : partD (decide (k = 4)) r3 with
        | none => rw [h4] at h; cases h
        | some (v, r4) =>
          rw [h4] at h
          obtain ⟨rfl, rfl⟩ : (⟨k, n, q, l, v⟩ : Rq) = r ∧ r4 = x := by simpa using h
          exact ⟨rfl, r1, r2, r3, rfl, h2, h3, h4⟩
theorem rest_of {k : Int} {b r1 r2 r3 x n q l v : List UInt8} (h1 : partD (namedK k) b = some (n, r1)) (h2 : partD (namedK k) r1 = some (q, r2)) (h3 : partD (decide (k = 3)) r2 = some (l, r3)) (h4 : partD (decide (k = 4)) r3 = some (v, x)) : restD k b = some (⟨k, n, q, l, v⟩, x) := by
  rw [restD, h1]
  show rest2 _ _ _ = _
  rw [rest2, h2]
  show rest3 _ _ _ _ = _
  rw [rest3, h3]
  show rest4 _ _ _ _ _ = _
  rw [rest4, h4]
theorem rest_fixed {k : Int} {b x : List UInt8} {r : Rq} (h : restD k b = some (r, x)) : b = restB r ++ x ∧ r.kind = k := by
  obtain ⟨hk, r1, r2, r3, h1, h2, h3, h4⟩ := rest_parts h
  refine ⟨?_, hk⟩
  rw [restB, hk, part_fixed h1, part_fixed h2, part_fixed h3, part_fixed h4]
  simp [List.append_assoc]
theorem rest_more {k : Int} {b y : List UInt8} {r : Rq} (h : restD k b = some (r, y)) (x : List UInt8) : restD k (b ++ x) = some (r, y ++ x) := by
  obtain ⟨hk, r1, r2, r3, h1, h2, h3, h4⟩ := rest_parts h
  have := rest_of (part_more h1 x) (part_more h2 x) (part_more h3 x) (part_more h4 x)
  rw [this, ← hk]
/-- What P9.4 answers. -/
def kindD (b : List UInt8) : Int := ((b.getD 0 0).toNat : Int)
def wdecE (b : List UInt8) : Int := if 4000 < b.length then 1 else if b.length = 0 then 14 else if 1 ≤ kindD b ∧ kindD b ≤ 8 then (match restD (kindD b) (b.drop 1) with | none => 14 | some (r, x) => if x.length = 0 then reqE r else 4) else 5
def wdecR (b : List UInt8) : Rq := if wdecE b = 0 then (match restD (kindD b) (b.drop 1) with | some (r, _) => r | none => noRq) else noRq
theorem kind_reqB {r : Rq} (h : RqOK r) (x : List UInt8) : kindD (reqB r ++ x) = r.kind ∧ (reqB r ++ x).drop 1 = restB r ++ x := by
  have h0 := h.kind
  refine ⟨?_, rfl⟩
  show (((UInt8.ofNat r.kind.toNat).toNat : Nat) : Int) = r.kind
  simp; omega
theorem partB_len (c : Bool) (p : List UInt8) : (partB c p).length ≤ p.length + 1 := by
  cases c with
  | true => exact Nat.le_refl _
  | false => exact Nat.zero_le _
theorem reqB_len {r : Rq} (h : RqOK r) : (reqB r).length ≤ 78 ∧ 1 ≤ (reqB r).length := by
  have l1 := partB_len (namedK r.kind) r.name
  have l2 := partB_len (namedK r.kind) r.key
  have l3 := partB_len (decide (r.kind = 3)) r.last
  have l4 := partB_len (decide (r.kind = 4)) r.value
  have k1 : r.name.length ≤ 8 := by
    by_cases e : namedK r.kind = true
    · exact (h.name e).2
    · rw [h.noName (by simpa using e)]; simp
  have k2 : r.key.length ≤ 16 := by
    by_cases e : namedK r.kind = true
    · exact (h.key e).2
    · rw [h.noKey (by simpa using e)]; simp
  have k3 : r.last.length ≤ 16 := by
    by_cases e : r.kind = 3
    · exact (h.last e).2
    · rw [h.noLast e]; simp
  have k4 := h.value
  have e : (reqB r).length = 1 + (partB (namedK r.kind) r.name).length + (partB (namedK r.kind) r.key).length + (partB (decide (r.kind = 3)) r.last).length + (partB (decide (r.kind = 4)) r.value).length := by
    rw [reqB, restB, List.length_cons, List.length_append, List.length_append, List.length_append]; omega
  omega
theorem req_back {r : Rq} (h : RqOK r) : wdecE (reqB r) = 0 ∧ wdecR (reqB r) = r := by
  have hl := reqB_len h
  obtain ⟨e1, e2⟩ := kind_reqB h []
  rw [List.append_nil] at e1 e2
  have e3 := rest_back h []
  have e : wdecE (reqB r) = 0 := by
    rw [wdecE, if_neg (by omega), if_neg (by omega), e1, if_pos h.kind, e2, e3]
    show (if ([] : List UInt8).length = 0 then reqE r else 4) = 0
    rw [if_pos (by simp)]
    exact (req_iff r).2 h
  refine ⟨e, ?_⟩
  rw [wdecR, if_pos e, e1, e2, e3]
theorem req_more {r : Rq} (h : RqOK r) (x : List UInt8) (hx : 0 < x.length) (hl : x.length ≤ 3000) : wdecE (reqB r ++ x) = 4 := by
  have hl2 := reqB_len h
  obtain ⟨e1, e2⟩ := kind_reqB h x
  rw [wdecE, if_neg (by rw [List.length_append]; omega), if_neg (by rw [List.length_append]; omega), e1, if_pos h.kind, e2, rest_back h x]
  show (if x.length = 0 then reqE r else 4) = 4
  rw [if_neg (by omega)]
theorem req_torn {r : Rq} (h : RqOK r) (k : Nat) (hk : k < (reqB r).length) : wdecE ((reqB r).take k) = 14 := by
  have hl2 := reqB_len h
  have hlen : ((reqB r).take k).length = k := by rw [List.length_take]; omega
  rw [wdecE, if_neg (by omega)]
  by_cases h0 : k = 0
  · rw [if_pos (by omega)]
  · rw [if_neg (by omega)]
    have hsp : (reqB r).take k ++ (reqB r).drop k = reqB r := List.take_append_drop _ _
    have hkd : kindD ((reqB r).take k) = r.kind := by
      obtain ⟨e1, _⟩ := kind_reqB h []
      rw [List.append_nil] at e1
      rw [← e1]
      match k, h0 with
      | k + 1, _ => rfl
    rw [hkd, if_pos h.kind]
    match hD : restD r.kind (((reqB r).take k).drop 1) with
    | none => rfl
    | some (r', y) =>
      have hm := rest_more hD ((reqB r).drop k)
      have hd : ((reqB r).take k).drop 1 ++ (reqB r).drop k = restB r := by
        match k, h0 with
        | k + 1, _ =>
          show (restB r).take k ++ (restB r).drop k = restB r
          exact List.take_append_drop _ _
      rw [hd] at hm
      have hb := rest_back h []
      rw [List.append_nil, hm] at hb
      have he : y ++ (reqB r).drop k = [] := by
        have := congrArg (fun o => o.map Prod.snd) hb
        simpa using this
      have := congrArg List.length he
      rw [List.length_append, List.length_drop] at this
      simp at this
      omega
theorem req_fixed {b : List UInt8} (h : wdecE b = 0) : reqE (wdecR b) = 0 ∧ reqB (wdecR b) = b := by
  have h' := h
  rw [wdecE] at h
  by_cases h1 : 4000 < b.length
  · rw [if_pos h1] at h; cases h
  · rw [if_neg h1] at h
    by_cases h2 : b.length = 0
    · rw [if_pos h2] at h; cases h
    · rw [if_neg h2] at h
      by_cases h3 : 1 ≤ kindD b ∧ kindD b ≤ 8
      · rw [if_pos h3] at h
        match hD : restD (kindD b) (b.drop 1) with
        | none => rw [hD] at h; cases h
        | some (r, x) =>
          rw [hD] at h
          replace h : (if x.length = 0 then reqE r else 4) = 0 := h
          by_cases hx : x.length = 0
          · rw [if_pos hx] at h
            have hr : wdecR b = r := by rw [wdecR, if_pos h', hD]
            rw [hr]
            refine ⟨h, ?_⟩
            obtain ⟨f1, f2⟩ := rest_fixed hD
            rw [List.eq_nil_of_length_eq_zero hx, List.append_nil] at f1
            rw [reqB, ← f1, f2]
            match b, h2 with
            | c :: b, _ =>
              show UInt8.ofNat ((c.toNat : Nat) : Int).toNat :: b = c :: b
              simp
          · rw [if_neg hx] at h; cases h
      · rw [if_neg h3] at h; cases h
theorem wdecR_bad {b : List UInt8} (h : wdecE b ≠ 0) : wdecR b = noRq := by rw [wdecR, if_neg h]
end Go.Proofs.YtghjikifflpeiabDoor
