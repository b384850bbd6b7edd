/-
  What a request reads and writes, and the requests that canopykeep makes, with no program; a request as a value.
-/
import Derived.Test.YtghjikifflpeiaaDoorWireF
import Derived.Test.YtghjikifflpeiaaDoorRdF
namespace Go.Proofs.YtghjikifflpeiaaDoor
open Go.RowKit
/-- P9.5. -/
def rreadE (r : Rq) : Int := if reqE r = 0 then (if r.kind = 2 ∨ r.kind = 3 then 0 else 7) else reqE r
def rreadR (r : Rq) : Rd := if rreadE r = 0 then ⟨r.name, r.key, decide (r.kind = 3), r.last⟩ else noRd
/-- P9.6. -/
def rwriteE (r : Rq) : Int := if reqE r = 0 then (if r.kind = 4 ∨ r.kind = 5 then 0 else 7) else reqE r
def rwriteW (r : Rq) : Plc := if rwriteE r = 0 then ⟨r.name, r.key, r.value, decide (r.kind = 5)⟩ else noPlc
/-- What a request says is a read that may be, a write that may be. -/
theorem rread_ok {r : Rq} (h : rreadE r = 0) : readE (rreadR r) = 0 := by
  have h' := h
  unfold rreadE at h
  by_cases h0 : reqE r = 0
  · rw [if_pos h0] at h
    have ho := (req_iff r).1 h0
    by_cases h1 : r.kind = 2 ∨ r.kind = 3
    · have hn : namedK r.kind = true := by rcases h1 with h1 | h1 <;> rw [h1] <;> decide
      rw [rreadR, if_pos h', readE_iff]
      refine ⟨ho.name hn, ho.key hn, ?_⟩
      show if decide (r.kind = 3) = true then _ else _
      by_cases h3 : r.kind = 3
      · rw [if_pos (by simpa using h3)]; exact ho.last h3
      · rw [if_neg (by simpa using h3)]; exact ho.noLast h3
    · rw [if_neg h1] at h; cases h
  · rw [if_neg h0] at h; exact absurd h h0
theorem rwrite_ok {r : Rq} (h : rwriteE r = 0) : writeE (rwriteW r) = 0 := by
  have h' := h
  unfold rwriteE at h
  by_cases h0 : reqE r = 0
  · rw [if_pos h0] at h
    have ho := (req_iff r).1 h0
    by_cases h1 : r.kind = 4 ∨ r.kind = 5
    · have hn : namedK r.kind = true := by rcases h1 with h1 | h1 <;> rw [h1] <;> decide
      rw [rwriteW, if_pos h', writeE_iff]
      refine ⟨ho.name hn, ho.key hn, ?_⟩
      show if decide (r.kind = 5) = true then _ else _
      by_cases h3 : r.kind = 5
      · rw [if_pos (by simpa using h3)]; exact ho.noValue (by omega)
      · rw [if_neg (by simpa using h3)]; exact ho.value
    · rw [if_neg h1] at h; cases h
  · rw [if_neg h0] at h; exact absurd h h0
/-- What canopykeep.Request makes: of a kind (0 to 7) and four parts. -/
def rqOf (k : Nat) (n q l v : List UInt8) : Rq :=
  if namedK ((k : Int) + 1) = true then ⟨(k : Int) + 1, nameF n, keyF q, if k = 2 then keyF l else [], if k = 3 then v.take 32 else []⟩ else ⟨(k : Int) + 1, [], [], [], []⟩
theorem rqOf_kind (k : Nat) (n q l v : List UInt8) : (rqOf k n q l v).kind = (k : Int) + 1 := by
  unfold rqOf; split <;> rfl
theorem rqOf_ok (k : Nat) (hk : k < 8) (n q l v : List UInt8) : RqOK (rqOf k n q l v) := by
  unfold rqOf
  by_cases h : namedK ((k : Int) + 1) = true
  · rw [if_pos h]
    refine ⟨by show 1 ≤ (k : Int) + 1 ∧ (k : Int) + 1 ≤ 8; omega, fun _ => nameF_lenX n, fun _ => keyF_lenX q, fun e => ?_, ?_, fun e => ?_, fun e => ?_, fun e => ?_, fun e => ?_⟩
    · replace e : (k : Int) + 1 = 3 := e
      show 1 ≤ (if k = 2 then keyF l else []).length ∧ (if k = 2 then keyF l else []).length ≤ 16
      rw [if_pos (by omega)]; exact keyF_lenX l
    · show (if k = 3 then v.take 32 else []).length ≤ 32
      by_cases h3 : k = 3
      · rw [if_pos h3, List.length_take]; omega
      · rw [if_neg h3]; simp
    · replace e : namedK ((k : Int) + 1) = false := e
      rw [h] at e; cases e
    · replace e : namedK ((k : Int) + 1) = false := e
      rw [h] at e; cases e
    · replace e : (k : Int) + 1 ≠ 3 := e
      show (if k = 2 then keyF l else []) = []
      rw [if_neg (by omega)]
    · replace e : (k : Int) + 1 ≠ 4 := e
      show (if k = 3 then v.take 32 else []) = []
      rw [if_neg (by omega)]
  · rw [if_neg h]
    refine ⟨by show 1 ≤ (k : Int) + 1 ∧ (k : Int) + 1 ≤ 8; omega, fun e => absurd e h, fun e => absurd e h, fun e => ?_, by simp, fun _ => rfl, fun _ => rfl, fun _ => rfl, fun _ => rfl⟩
    replace e : (k : Int) + 1 = 3 := e
    rw [e] at h; exact absurd named3 h
/-- WireTells. -/
theorem tells {r : Rq} (h : RqOK r) : rreadE r = (if r.kind = 2 ∨ r.kind = 3 then 0 else 7) ∧ rwriteE r = (if r.kind = 4 ∨ r.kind = 5 then 0 else 7) := by
  have := (req_iff r).2 h
  exact ⟨by rw [rreadE, if_pos this], by rw [rwriteE, if_pos this]⟩
/-- WireLong. -/
theorem long_value {r : Rq} (h : RqOK r) (v : List UInt8) (hv : 32 < v.length) : reqE ⟨r.kind, r.name, r.key, r.last, v⟩ = 1 := by
  have hp : rqParts ⟨r.kind, r.name, r.key, r.last, v⟩ = 0 := (rqParts_iff _).2 fun e => ⟨h.name e, h.key e, h.last⟩
  rw [reqE, if_pos h.kind, if_pos hp, if_pos hv]
theorem long_kind (r : Rq) (k : Int) (hk : 8 < k) : reqE ⟨k, r.name, r.key, r.last, r.value⟩ = 5 := by
  rw [reqE, if_neg (by show ¬ (1 ≤ k ∧ k ≤ 8); omega)]
theorem long_scan {r : Rq} (h : RqOK r) (hk : r.kind = 3) (x : UInt8) : reqE ⟨r.kind, r.name, r.key, r.last, [x]⟩ = 4 := by
  have hp : rqParts ⟨r.kind, r.name, r.key, r.last, [x]⟩ = 0 := (rqParts_iff _).2 fun e => ⟨h.name e, h.key e, h.last⟩
  rw [reqE, if_pos h.kind, if_pos hp, if_neg (by simp)]
  unfold rqForm
  by_cases h1 : namedK r.kind = false ∧ 0 < r.name.length + r.key.length
  · rw [if_pos h1]
  · rw [if_neg h1, if_pos (.inr ⟨by show r.kind ≠ 4; omega, by simp⟩)]
theorem long_last {r : Rq} (h : RqOK r) (hk : r.kind ≠ 3) (x : UInt8) : reqE ⟨r.kind, r.name, r.key, [x], r.value⟩ = 4 := by
  have hp : rqParts ⟨r.kind, r.name, r.key, [x], r.value⟩ = 0 := (rqParts_iff _).2 fun e => ⟨h.name e, h.key e, fun e => absurd e hk⟩
  have hv := h.value
  rw [reqE, if_pos h.kind, if_pos hp, if_neg (by show ¬ 32 < r.value.length; omega)]
  unfold rqForm
  by_cases h1 : namedK r.kind = false ∧ 0 < r.name.length + r.key.length
  · rw [if_pos h1]
  · rw [if_neg h1, if_pos (.inl ⟨hk, by simp⟩)]
end Go.Proofs.YtghjikifflpeiaaDoor
