/-
  What P6 answers, with no program: tapes that may be, Encode, Sync, Crash.
-/
import Derived.Test.YtljdconhplgipabCmtMem
namespace Go.Proofs.Ytljdconhplgipab
open Go.RowKit
/-- P6.1. -/
def mayT (t : Tap) : Bool := decide (t.data.length ≤ 200000) && decide (0 ≤ t.synced ∧ t.synced ≤ (t.data.length : Int))
theorem mayT_iff (t : Tap) : mayT t = true ↔ t.data.length ≤ 200000 ∧ 0 ≤ t.synced ∧ t.synced ≤ (t.data.length : Int) := by
  unfold mayT
  rw [Bool.and_eq_true, decide_eq_true_iff, decide_eq_true_iff]
/-- What P6.3 answers. -/
def encF (c : Cmt) : List UInt8 := if commitE c = 0 then commitB c else []
/-- What P6.6 answers. -/
def syncE (t : Tap) : Int := if mayT t = true then 0 else 6
def syncT (t : Tap) : Tap := if mayT t = true then ⟨t.data, (t.data.length : Int)⟩ else noTap
/-- What P6.7 answers. -/
def crashE (t : Tap) (keep : Int) : Int := if mayT t = true then (if keep < 0 then 2 else 0) else 6
def crashN (t : Tap) (keep : Int) : Nat := if keep < (t.data.length : Int) - t.synced then (t.synced + keep).toNat else t.data.length
def crashT (t : Tap) (keep : Int) : Tap := if crashE t keep = 0 then ⟨t.data.take (crashN t keep), (crashN t keep : Int)⟩ else noTap
end Go.Proofs.Ytljdconhplgipab
