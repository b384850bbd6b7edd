/-
  Commits and tapes, with no program: what P6 asks of bytes.
-/
import Derived.Test.YtghjikifflpeiabDoorForestF
namespace Go.Proofs.YtghjikifflpeiabDoor
open Go.RowKit
/-- A commit: its turn, its writes. -/
structure Cmt where
  turn : Int
  writes : List Plc
def noCmt : Cmt := ⟨0, []⟩
/-- What P6.2 refuses of writes, from the i-th on. -/
def wfE : Nat → List Plc → Int
  | _, [] => 0
  | i, w :: ws => if (if 10 ≤ i then (1 : Int) else writeE w) = 0 then wfE (i + 1) ws else (if 10 ≤ i then (1 : Int) else writeE w)
def commitE (c : Cmt) : Int := if 1 ≤ c.turn ∧ c.turn ≤ 1048576 then (if c.writes.length = 0 then 1 else wfE 0 c.writes) else 2
theorem wfE_iff : ∀ (ws : List Plc) (i : Nat), wfE i ws = 0 ↔ (ws = [] ∨ i + ws.length ≤ 10) ∧ ∀ w ∈ ws, writeE w = 0
  | [], i => by simp [wfE]
  | w :: ws, i => by
    have ih := wfE_iff ws (i + 1)
    rw [wfE]
    by_cases h10 : 10 ≤ i
    · rw [if_pos h10, if_neg (by omega)]
      constructor
      · intro h; omega
      · rintro ⟨h | h, _⟩
        · cases h
        · simp at h; omega
    · rw [if_neg h10]
      by_cases hw : writeE w = 0
      · rw [if_pos hw, ih]
        constructor
        · rintro ⟨h1, h2⟩
          refine ⟨.inr ?_, ?_⟩
          · rcases h1 with rfl | h1
            · simp; omega
            · simp; omega
          · intro x hx
            rcases List.mem_cons.1 hx with rfl | hx
            · exact hw
            · exact h2 x hx
        · rintro ⟨h1, h2⟩
          refine ⟨.inr ?_, fun x hx => h2 x (List.mem_cons_of_mem _ hx)⟩
          rcases h1 with h1 | h1
          · cases h1
          · simp at h1; omega
      · rw [if_neg hw]
        constructor
        · intro h; exact absurd h hw
        · rintro ⟨_, h2⟩; exact absurd (h2 w (List.mem_cons_self ..)) hw
theorem commit_iff (c : Cmt) : commitE c = 0 ↔ (1 ≤ c.turn ∧ c.turn ≤ 1048576) ∧ (1 ≤ c.writes.length ∧ c.writes.length ≤ 10) ∧ ∀ w ∈ c.writes, writeE w = 0 := by
  unfold commitE
  by_cases h1 : 1 ≤ c.turn ∧ c.turn ≤ 1048576
  · rw [if_pos h1]
    by_cases h2 : c.writes.length = 0
    · rw [if_pos h2]
      constructor
      · intro h; omega
      · rintro ⟨_, h, _⟩; omega
    · rw [if_neg h2, wfE_iff]
      constructor
      · rintro ⟨h3 | h3, h4⟩
        · rw [h3] at h2; simp at h2
        · exact ⟨h1, ⟨by omega, by omega⟩, h4⟩
      · rintro ⟨_, h3, h4⟩; exact ⟨.inr (by omega), h4⟩
  · rw [if_neg h1]
    constructor
    · intro h; omega
    · rintro ⟨h, _⟩; exact absurd h h1
/-- The walk's step: what is refused of the writes from the i-th on. -/
theorem wfE_drop (ws : List Plc) (i : Nat) (h : i < ws.length) : wfE i (ws.drop i) = if (if 10 ≤ i then (1 : Int) else writeE (ws.getD i noPlc)) = 0 then wfE (i + 1) (ws.drop (i + 1)) else (if 10 ≤ i then (1 : Int) else writeE (ws.getD i noPlc)) := by
  rw [List.drop_eq_getElem_cons h, wfE, show ws[i] = ws.getD i noPlc by simp [h]]
theorem wfE_end (ws : List Plc) : wfE ws.length (ws.drop ws.length) = 0 := by rw [List.drop_length, wfE]
/-- Bytes behind their length. -/
def lenAnd (p : List UInt8) : List UInt8 := UInt8.ofNat p.length :: p
theorem lenAnd_len (p : List UInt8) : (lenAnd p).length = p.length + 1 := rfl
def valueB (w : Plc) : List UInt8 := if w.gone = true then [255] else lenAnd w.value
def writeB (w : Plc) : List UInt8 := lenAnd w.name ++ lenAnd w.key ++ valueB w
def headB (t n : Nat) : List UInt8 := [UInt8.ofNat (t / 65536), UInt8.ofNat (t / 256 % 256), UInt8.ofNat (t % 256), UInt8.ofNat n]
def commitB (c : Cmt) : List UInt8 := headB c.turn.toNat c.writes.length ++ c.writes.flatMap writeB
/-- A piece behind its length, and what is behind it. -/
def pieceL : List UInt8 → Option (List UInt8 × List UInt8)
  | [] => none
  | x :: r => if x.toNat ≤ r.length then some (r.take x.toNat, r.drop x.toNat) else none
def lastD (n k r : List UInt8) : Option (Plc × List UInt8) := if r.head? = some 255 then some (⟨n, k, [], true⟩, r.tail) else match pieceL r with | some (v, r2) => some (⟨n, k, v, false⟩, r2) | none => none
def keyD (n r : List UInt8) : Option (Plc × List UInt8) := match pieceL r with | some (k, r2) => lastD n k r2 | none => none
def writeD (r : List UInt8) : Option (Plc × List UInt8) := match pieceL r with | some (n, r2) => keyD n r2 | none => none
def writesD : Nat → List UInt8 → Option (List Plc × List UInt8)
  | 0, r => some ([], r)
  | n + 1, r => match writeD r with | some (w, r1) => (match writesD n r1 with | some (ws, r2) => some (w :: ws, r2) | none => none) | none => none
theorem byte_len {p : List UInt8} (h : p.length < 256) : (UInt8.ofNat p.length).toNat = p.length := by simp; omega
theorem piece_lenAnd (p r : List UInt8) (h : p.length < 256) : pieceL (lenAnd p ++ r) = some (p, r) := by
  show pieceL (UInt8.ofNat p.length :: (p ++ r)) = _
  rw [pieceL, byte_len h, if_pos (by simp), List.take_left', List.drop_left'] <;> rfl
theorem piece_fixed {r p r2 : List UInt8} (h : pieceL r = some (p, r2)) : r = lenAnd p ++ r2 := by
  cases r with
  | nil => cases h
  | cons x r =>
    rw [pieceL] at h
    by_cases hx : x.toNat ≤ r.length
    · rw [if_pos hx] at h
      simp only [Option.some.injEq, Prod.mk.injEq] at h
      obtain ⟨rfl, rfl⟩ := h
      have hl : (r.take x.toNat).length = x.toNat := by simp; omega
      show x :: r = UInt8.ofNat (r.take x.toNat).length :: (r.take x.toNat ++ r.drop x.toNat)
      rw [hl, List.take_append_drop]
      simp
    · rw [if_neg hx] at h; cases h
theorem piece_more {r p r2 : List UInt8} (h : pieceL r = some (p, r2)) (x : List UInt8) : pieceL (r ++ x) = some (p, r2 ++ x) := by
  cases r with
  | nil => cases h
  | cons y r =>
    rw [pieceL] at h
    by_cases hy : y.toNat ≤ r.length
    · rw [if_pos hy] at h
      simp only [Option.some.injEq, Prod.mk.injEq] at h
      obtain ⟨rfl, rfl⟩ := h
      show pieceL (y :: (r ++ x)) = _
      rw [pieceL, if_pos (by simp; omega), List.take_append_of_le_length hy, List.drop_append_of_le_length hy]
    · rw [if_neg hy] at h; cases h
theorem write_back {w : Plc} (hw : writeE w = 0) (r : List UInt8) : writeD (writeB w ++ r) = some (w, r) := by
  obtain ⟨h1, h2, h3⟩ := (writeE_iff w).1 hw
  unfold writeD writeB
  rw [List.append_assoc, List.append_assoc, piece_lenAnd _ _ (by omega)]
  show keyD w.name (lenAnd w.key ++ (valueB w ++ r)) = _
  unfold keyD
  rw [piece_lenAnd _ _ (by omega)]
  show lastD w.name w.key (valueB w ++ r) = _
  unfold lastD valueB
  by_cases hg : w.gone = true
  · rw [if_pos hg] at h3 ⊢
    rw [if_pos (by rfl)]
    obtain ⟨n, k, v, g⟩ := w
    simp only at hg h3
    subst hg h3
    rfl
  · rw [if_neg hg] at h3 ⊢
    rw [if_neg, piece_lenAnd _ _ (by omega)]
    · obtain ⟨n, k, v, g⟩ := w
      simp only [Bool.not_eq_true] at hg
      subst hg
      rfl
    · show ¬ (some (UInt8.ofNat w.value.length) = some 255)
      intro e
      have := congrArg UInt8.toNat (Option.some.inj e)
      rw [byte_len (by omega)] at this
      have h255 : (255 : UInt8).toNat = 255 := rfl
      omega
theorem writes_back : ∀ (ws : List Plc) (_ : ∀ w ∈ ws, writeE w = 0) (r : List UInt8), writesD ws.length (ws.flatMap writeB ++ r) = some (ws, r)
  | [], _, r => rfl
  | w :: ws, h, r => by
    show writesD (ws.length + 1) ((w :: ws).flatMap writeB ++ r) = _
    rw [writesD, List.flatMap_cons, List.append_assoc, write_back (h w (List.mem_cons_self ..))]
    show (match writesD ws.length (ws.flatMap writeB ++ r) with | some (ws', r2) => some (w :: ws', r2) | none => none) = _
    rw [writes_back ws (fun x hx => h x (List.mem_cons_of_mem _ hx)) r]
theorem write_fixed {r r2 : List UInt8} {w : Plc} (h : writeD r = some (w, r2)) : r = writeB w ++ r2 := by
  unfold writeD at h
  cases h1 : pieceL r with
  | none => rw [h1] at h; cases h
  | some q =>
    obtain ⟨n, ra⟩ := q
    rw [h1] at h
    have h : keyD n ra = some (w, r2) := h
    unfold keyD at h
    cases h2 : pieceL ra with
    | none => rw [h2] at h; cases h
    | some q =>
      obtain ⟨k, rb⟩ := q
      rw [h2] at h
      have h : lastD n k rb = some (w, r2) := h
      rw [piece_fixed h1, piece_fixed h2]
      unfold lastD at h
      by_cases hg : rb.head? = some 255
      · rw [if_pos hg] at h
        simp only [Option.some.injEq, Prod.mk.injEq] at h
        obtain ⟨rfl, rfl⟩ := h
        cases rb with
        | nil => cases hg
        | cons x rb =>
          obtain rfl : x = 255 := Option.some.inj hg
          show lenAnd n ++ (lenAnd k ++ 255 :: rb) = lenAnd n ++ lenAnd k ++ [255] ++ rb
          simp [List.append_assoc]
      · rw [if_neg hg] at h
        cases h3 : pieceL rb with
        | none => rw [h3] at h; cases h
        | some q =>
          obtain ⟨v, rc⟩ := q
          rw [h3] at h
          simp only [Option.some.injEq, Prod.mk.injEq] at h
          obtain ⟨rfl, rfl⟩ := h
          rw [piece_fixed h3]
          show lenAnd n ++ (lenAnd k ++ (lenAnd v ++ rc)) = lenAnd n ++ lenAnd k ++ lenAnd v ++ rc
          simp [List.append_assoc]
theorem write_more {r r2 : List UInt8} {w : Plc} (h : writeD r = some (w, r2)) (x : List UInt8) : writeD (r ++ x) = some (w, r2 ++ x) := by
  unfold writeD at h ⊢
  cases h1 : pieceL r with
  | none => rw [h1] at h; cases h
  | some q =>
    obtain ⟨n, ra⟩ := q
    rw [h1] at h
    rw [piece_more h1]
    have h : keyD n ra = some (w, r2) := h
    show keyD n (ra ++ x) = _
    unfold keyD at h ⊢
    cases h2 : pieceL ra with
    | none => rw [h2] at h; cases h
    | some q =>
      obtain ⟨k, rb⟩ := q
      rw [h2] at h
      rw [piece_more h2]
      have h : lastD n k rb = some (w, r2) := h
      show lastD n k (rb ++ x) = _
      unfold lastD at h ⊢
      cases rb with
      | nil => cases h
      | cons y rb =>
        show (if some y = some 255 then some ((⟨n, k, [], true⟩ : Plc), rb ++ x) else match pieceL (y :: rb ++ x) with | some (v, r2) => some (⟨n, k, v, false⟩, r2) | none => none) = _
        have h : (if some y = some 255 then some ((⟨n, k, [], true⟩ : Plc), rb) else match pieceL (y :: rb) with | some (v, r2) => some (⟨n, k, v, false⟩, r2) | none => none) = some (w, r2) := h
        by_cases hg : some y = some 255
        · rw [if_pos hg] at h ⊢
          simp only [Option.some.injEq, Prod.mk.injEq] at h
          obtain ⟨rfl, rfl⟩ := h
          rfl
        · rw [if_neg hg] at h ⊢
          cases h3 : pieceL (y :: rb) with
          | none => rw [h3] at h; cases h
          | some q =>
            obtain ⟨v, rc⟩ := q
            rw [h3] at h
            rw [piece_more h3]
            simp only [Option.some.injEq, Prod.mk.injEq] at h
            obtain ⟨rfl, rfl⟩ := h
            rfl
theorem writes_fixed : ∀ (n : Nat) {r r2 : List UInt8} {ws : List Plc}, writesD n r = some (ws, r2) → r = ws.flatMap writeB ++ r2 ∧ ws.length = n
  | 0, r, r2, ws, h => by
    rw [writesD] at h
    simp only [Option.some.injEq, Prod.mk.injEq] at h
    obtain ⟨rfl, rfl⟩ := h
    exact ⟨rfl, rfl⟩
  | n + 1, r, r2, ws, h => by
    rw [writesD] at h
    cases h1 : writeD r with
    | none => rw [h1] at h; cases h
    | some q =>
      obtain ⟨w, ra⟩ := q
      rw [h1] at h
      have h : (match writesD n ra with | some (ws, r2) => some (w :: ws, r2) | none => none) = some (ws, r2) := h
      cases h2 : writesD n ra with
      | none => rw [h2] at h; cases h
      | some q =>
        obtain ⟨ws', rb⟩ := q
        rw [h2] at h
        simp only [Option.some.injEq, Prod.mk.injEq] at h
        obtain ⟨rfl, rfl⟩ := h
        obtain ⟨e1, e2⟩ := writes_fixed n h2
        exact ⟨by rw [write_fixed h1, e1, List.flatMap_cons, List.append_assoc], by simp [e2]⟩
theorem writes_more : ∀ (n : Nat) {r r2 : List UInt8} {ws : List Plc}, writesD n r = some (ws, r2) → ∀ x, writesD n (r ++ x) = some (ws, r2 ++ x)
  | 0, r, r2, ws, h, x => by
    rw [writesD] at h ⊢
    simp only [Option.some.injEq, Prod.mk.injEq] at h
    obtain ⟨rfl, rfl⟩ := h
    rfl
  | n + 1, r, r2, ws, h, x => by
    rw [writesD] at h ⊢
    cases h1 : writeD r with
    | none => rw [h1] at h; cases h
    | some q =>
      obtain ⟨w, ra⟩ := q
      rw [h1] at h
      rw [write_more h1]
      have h : (match writesD n ra with | some (ws, r2) => some (w :: ws, r2) | none => none) = some (ws, r2) := h
      show (match writesD n (ra ++ x) with | some (ws, r2) => some (w :: ws, r2) | none => none) = _
      cases h2 : writesD n ra with
      | none => rw [h2] at h; cases h
      | some q =>
        obtain ⟨ws', rb⟩ := q
        rw [h2] at h
        rw [writes_more n h2]
        simp only [Option.some.injEq, Prod.mk.injEq] at h
        obtain ⟨rfl, rfl⟩ := h
        rfl
/-- One write more, behind the others: as the loop does it. -/
theorem writes_snoc : ∀ (n : Nat) (r : List UInt8), writesD (n + 1) r = match writesD n r with | some (ws, r1) => (match writeD r1 with | some (w, r2) => some (ws ++ [w], r2) | none => none) | none => none
  | 0, r => by
    rw [writesD]
    cases h : writeD r with
    | none => simp [writesD, h]
    | some q => obtain ⟨w, ra⟩ := q; simp [writesD, h]
  | n + 1, r => by
    rw [writesD]
    cases h : writeD r with
    | none =>
      show none = _
      rw [writesD, h]
    | some q =>
      obtain ⟨w, ra⟩ := q
      show (match writesD (n + 1) ra with | some (ws, r2) => some (w :: ws, r2) | none => none) = _
      rw [writes_snoc n ra, show writesD (n + 1) r = (match writesD n ra with | some (ws, r2) => some (w :: ws, r2) | none => none) by rw [writesD, h]]
      cases h2 : writesD n ra with
      | none => rfl
      | some q =>
        obtain ⟨ws, rb⟩ := q
        show (match (match writeD rb with | some (w, r2) => some (ws ++ [w], r2) | none => none) with | some (ws, r2) => some (w :: ws, r2) | none => none) = (match writeD rb with | some (w', r2) => some (w :: ws ++ [w'], r2) | none => none)
        cases writeD rb with
        | none => rfl
        | some q => rfl
/-- The turn that the first three bytes tell. -/
def turnD (b : List UInt8) : Nat := 65536 * (b.getD 0 0).toNat + 256 * (b.getD 1 0).toNat + (b.getD 2 0).toNat
def bodyD (b : List UInt8) : Option (List Plc × List UInt8) := writesD (b.getD 3 0).toNat (b.drop 4)
def decE (b : List UInt8) : Int := if 4000 < b.length then 1 else if b.length < 4 then 14 else match bodyD b with | none => 14 | some (ws, r) => if r.length = 0 then commitE ⟨(turnD b : Int), ws⟩ else 4
def decC (b : List UInt8) : Cmt := if decE b = 0 then (match bodyD b with | some (ws, _) => ⟨(turnD b : Int), ws⟩ | none => noCmt) else noCmt
theorem headB_len (t n : Nat) : (headB t n).length = 4 := rfl
theorem head_turn (t n : Nat) (x : List UInt8) (ht : t ≤ 1048576) : turnD (headB t n ++ x) = t := by
  show 65536 * (UInt8.ofNat (t / 65536)).toNat + 256 * (UInt8.ofNat (t / 256 % 256)).toNat + (UInt8.ofNat (t % 256)).toNat = t
  simp only [UInt8.toNat_ofNat']
  omega
theorem head_many (t n : Nat) (x : List UInt8) (hn : n ≤ 10) : ((headB t n ++ x).getD 3 0).toNat = n := by
  show (UInt8.ofNat n).toNat = n
  simp; omega
theorem head_drop (t n : Nat) (x : List UInt8) : (headB t n ++ x).drop 4 = x := rfl
theorem write_size {w : Plc} (hw : writeE w = 0) : (writeB w).length = 3 + w.name.length + w.key.length + w.value.length ∧ (writeB w).length ≤ 59 := by
  obtain ⟨h1, h2, h3⟩ := (writeE_iff w).1 hw
  unfold writeB valueB
  by_cases hg : w.gone = true
  · rw [if_pos hg] at h3 ⊢
    rw [h3]
    simp only [List.length_append, lenAnd_len, List.length_cons, List.length_nil]
    omega
  · rw [if_neg hg] at h3 ⊢
    simp only [List.length_append, lenAnd_len]
    omega
/-- How long the writes' bytes are. -/
def sizeW (ws : List Plc) : Nat := (ws.map fun w => 3 + w.name.length + w.key.length + w.value.length).sum
theorem writes_size : ∀ (ws : List Plc) (_ : ∀ w ∈ ws, writeE w = 0), (ws.flatMap writeB).length = sizeW ws ∧ (ws.flatMap writeB).length ≤ 59 * ws.length
  | [], _ => by simp [sizeW]
  | w :: ws, h => by
    obtain ⟨i1, i2⟩ := writes_size ws (fun x hx => h x (List.mem_cons_of_mem _ hx))
    obtain ⟨j1, j2⟩ := write_size (h w (List.mem_cons_self ..))
    rw [List.flatMap_cons, List.length_append]
    unfold sizeW at i1 ⊢
    rw [List.map_cons, List.sum_cons, List.length_cons]
    omega
theorem commit_size {c : Cmt} (h : commitE c = 0) : (commitB c).length = 4 + sizeW c.writes ∧ (commitB c).length ≤ 594 := by
  obtain ⟨_, h2, h3⟩ := (commit_iff c).1 h
  obtain ⟨i1, i2⟩ := writes_size c.writes h3
  unfold commitB
  rw [List.length_append, headB_len]
  omega
theorem commit_body {c : Cmt} (h : commitE c = 0) (x : List UInt8) : bodyD (commitB c ++ x) = some (c.writes, x) ∧ turnD (commitB c ++ x) = c.turn.toNat := by
  obtain ⟨h1, h2, h3⟩ := (commit_iff c).1 h
  unfold bodyD commitB
  rw [List.append_assoc, head_many _ _ _ h2.2, head_drop, head_turn _ _ _ (by omega)]
  exact ⟨writes_back _ h3 _, rfl⟩
theorem commit_back {c : Cmt} (h : commitE c = 0) : decE (commitB c) = 0 ∧ decC (commitB c) = c := by
  obtain ⟨h1, h2, h3⟩ := (commit_iff c).1 h
  obtain ⟨s1, s2⟩ := commit_size h
  obtain ⟨b1, b2⟩ := commit_body h []
  rw [List.append_nil] at b1 b2
  have hc : (⟨(turnD (commitB c) : Int), c.writes⟩ : Cmt) = c := by
    rw [b2, Int.toNat_of_nonneg (by omega)]
  have hd : decE (commitB c) = 0 := by
    rw [decE, if_neg (by omega), if_neg (by omega), b1]
    show (if ([] : List UInt8).length = 0 then commitE ⟨(turnD (commitB c) : Int), c.writes⟩ else 4) = 0
    rw [if_pos (show ([] : List UInt8).length = 0 from rfl), hc, h]
  refine ⟨hd, ?_⟩
  rw [decC, if_pos hd, b1]
  exact hc
theorem commit_more {c : Cmt} (h : commitE c = 0) (x : List UInt8) (hx : 0 < x.length) (hl : x.length ≤ 3000) : decE (commitB c ++ x) = 4 := by
  obtain ⟨s1, s2⟩ := commit_size h
  obtain ⟨b1, b2⟩ := commit_body h x
  have hlen : (commitB c ++ x).length = (commitB c).length + x.length := List.length_append
  rw [decE, if_neg (by omega), if_neg (by omega), b1]
  show (if x.length = 0 then _ else (4 : Int)) = 4
  rw [if_neg (by omega)]
theorem commit_torn {c : Cmt} (h : commitE c = 0) (k : Nat) (hk : k < (commitB c).length) : decE ((commitB c).take k) = 14 := by
  obtain ⟨s1, s2⟩ := commit_size h
  have hl : ((commitB c).take k).length = k := by simp; omega
  rw [decE, hl, if_neg (by omega)]
  by_cases h4 : k < 4
  · rw [if_pos h4]
  · rw [if_neg h4]
    obtain ⟨b1, b2⟩ := commit_body h []
    rw [List.append_nil] at b1
    cases hb : bodyD ((commitB c).take k) with
    | none => rfl
    | some q =>
      exfalso
      obtain ⟨ws, r⟩ := q
      have e3 : ((commitB c).take k).getD 3 0 = (commitB c).getD 3 0 := by
        simp only [List.getD_eq_getElem?_getD, List.getElem?_take]
        rw [if_pos (by omega)]
      have e4 : (commitB c).drop 4 = ((commitB c).take k).drop 4 ++ (commitB c).drop k := by
        rw [← List.drop_append_of_le_length (by omega), List.take_append_drop]
      unfold bodyD at hb b1
      rw [e3] at hb
      rw [e4, writes_more _ hb] at b1
      simp only [Option.some.injEq, Prod.mk.injEq, List.append_eq_nil_iff] at b1
      have := congrArg List.length b1.2.2
      simp at this
      omega
theorem commit_fixed {b : List UInt8} (h : decE b = 0) : commitE (decC b) = 0 ∧ commitB (decC b) = b := by
  have hC : decC b = (match bodyD b with | some (ws, _) => ⟨(turnD b : Int), ws⟩ | none => noCmt) := by rw [decC, if_pos h]
  rw [decE] at h
  by_cases h1 : 4000 < b.length
  · rw [if_pos h1] at h; omega
  rw [if_neg h1] at h
  by_cases h2 : b.length < 4
  · rw [if_pos h2] at h; omega
  rw [if_neg h2] at h
  cases hb : bodyD b with
  | none => rw [hb] at h; simp at h
  | some q =>
    obtain ⟨ws, r⟩ := q
    rw [hb] at h hC
    have h : (if r.length = 0 then commitE ⟨(turnD b : Int), ws⟩ else 4) = 0 := h
    have hC : decC b = ⟨(turnD b : Int), ws⟩ := hC
    by_cases hr : r.length = 0
    · rw [if_pos hr] at h
      obtain rfl : r = [] := List.eq_nil_of_length_eq_zero hr
      rw [hC]
      refine ⟨h, ?_⟩
      obtain ⟨k1, k2, k3⟩ := (commit_iff _).1 h
      unfold bodyD at hb
      obtain ⟨e1, e2⟩ := writes_fixed _ hb
      rw [List.append_nil] at e1
      show headB ((turnD b : Int)).toNat ws.length ++ ws.flatMap writeB = b
      rw [← e1, e2, Int.toNat_natCast]
      match b, h2 with
      | x0 :: x1 :: x2 :: x3 :: t, _ =>
        show headB (65536 * x0.toNat + 256 * x1.toNat + x2.toNat) x3.toNat ++ t = _
        have a0 := x0.toNat_lt
        have a1 := x1.toNat_lt
        have a2 := x2.toNat_lt
        have a3 := x3.toNat_lt
        unfold headB
        rw [show (65536 * x0.toNat + 256 * x1.toNat + x2.toNat) / 65536 = x0.toNat by omega, show (65536 * x0.toNat + 256 * x1.toNat + x2.toNat) / 256 % 256 = x1.toNat by omega, show (65536 * x0.toNat + 256 * x1.toNat + x2.toNat) % 256 = x2.toNat by omega]
        simp
    · rw [if_neg hr] at h; omega
theorem decC_bad {b : List UInt8} (h : decE b ≠ 0) : decC b = noCmt := by rw [decC, if_neg h]
end Go.Proofs.YtghjikifflpeiabDoor
