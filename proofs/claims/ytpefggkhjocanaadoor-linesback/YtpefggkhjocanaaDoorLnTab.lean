/-
  What package lines, and what it calls of the library, read of package-level variables.
-/
import Derived.Test.YtpefggkhjocanaaDoorLineF
import Derived.Test.YtpefggkhjocanaaDoorStrM
import Derived.Lib.LaidTab
import Derived.Lib.ItoaNum
namespace Go.Proofs.YtpefggkhjocanaaDoor
open Go.RowKit
def wordN : Nat → List UInt8
  | 1 => wAsk
  | 2 => wSync
  | 3 => wCrash
  | 4 => wStart
  | _ => []
/-- The words of kinds; the table of powers that strconv.Itoa reads. -/
structure WrdT (w : World) : Prop where
  words : ∀ i, i < 5 → w.cell? ⟨0, i, none⟩ = some (.string (textOf (wordN i)))
  pow : Lib.TabIs Tryd.prog w "internal/strconv.uint64pow10" .u64 Lib.pow10Tab
/-- .. and what strings.Cut and strconv.Atoi read. -/
structure LnT (w : World) : Prop extends WrdT w where
  most : ∃ m, w.cell? ⟨1, 0, none⟩ = some (.int .i64 m)
  syn : ∃ t p, w.var? Tryd.prog "strconv.ErrSyntax" = some #[.iface t p]
  rng : ∃ t p, w.var? Tryd.prog "strconv.ErrRange" = some #[.iface t p]
theorem var_grown {w w' : World} {n : String} {cs : Array Value} (h : w.var? Tryd.prog n = some cs) (hg : w.grownBy w' none) : w'.var? Tryd.prog n = some cs := by
  unfold World.var? at h ⊢
  cases hn : Tryd.prog.globalNamed n with
  | none => simp [hn] at h
  | some g =>
    simp only [hn, Option.bind_some] at h ⊢
    have hlt : g < w.heap.size := by
      rcases Nat.lt_or_ge g w.heap.size with h' | h'
      · exact h'
      · simp [Array.getElem?_eq_none h'] at h
    rw [hg.block g hlt (by simp)]
    exact h
theorem WrdT.grown {w w' : World} (h : WrdT w) (hg : w.grownBy w' none) : WrdT w' := ⟨fun i hi => hg.cell (h.words i hi) (by simp), var_grown h.pow hg⟩
theorem LnT.grown {w w' : World} (h : LnT w) (hg : w.grownBy w' none) : LnT w' := by
  obtain ⟨m, hm⟩ := h.most
  obtain ⟨t, p, h1⟩ := h.syn
  obtain ⟨t2, p2, h2⟩ := h.rng
  exact ⟨h.toWrdT.grown hg, ⟨m, hg.cell hm (by simp)⟩, ⟨t, p, var_grown h1 hg⟩, ⟨t2, p2, var_grown h2 hg⟩⟩
end Go.Proofs.YtpefggkhjocanaaDoor
