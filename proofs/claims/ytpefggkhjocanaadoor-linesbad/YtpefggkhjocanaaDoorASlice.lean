/-
  Pieces of a list of acts: l[:n:n], l[n:].
-/
import Derived.Test.YtpefggkhjocanaaDoorAcMem
namespace Go.Proofs.YtpefggkhjocanaaDoor
open Go.RowKit
theorem sizeAc (w : World) : (sizeOf (Tryd.prog.elem 22)).run Tryd.prog w = .ok 4 w := by kernel_rfl
theorem ActsIs.capA {w : World} {a : Option Addr} {n cap : Nat} {l : List Ac} (h : ActsIs w (.slice a n cap) l) : l.length ≤ cap := by
  obtain ⟨a', cap', e, hc, _⟩ := h
  simp only [Value.slice.injEq] at e
  omega
theorem aslice_hm (a : Option Addr) (cap : Nat) (l : List Ac) (n : Nat) (hn : n ≤ l.length) (hc : l.length ≤ cap) : ∃ a1, (∀ W, (Instr.slice 22 (.slice a l.length cap) none (some (.int .i64 (n : Int))) (some (.int .i64 (n : Int)))).run Tryd.prog W = .ok (.slice a1 n n) W) ∧ ∀ W, ActsIs W (.slice a l.length cap) l → ActsIs W (.slice a1 n n) (l.take n) := by
  refine ⟨if n = 0 then a else a.map (·.add (0 * 4)), fun W => ?_, fun W h => ?_⟩
  · rw [run_slice_any _ _ _ _ _ (by kernel_rfl)]
    simp only [Instr.sliceBounds, Sem.run_bind, Sem.run_pure, Result.andThen]
    have hb : ∀ (y : Nat) (code : BoundsCode), n ≤ y → (Instr.sliceBound (.int .i64 (n : Int)) y code).run Tryd.prog W = .ok n W := fun y code hy => by
      rw [run_sliceBound _ _ _ _ _ (by omega) (by omega)]; simp
    simp [hb, sizeAc, Go.sliced, show n ≤ cap by omega]
  · obtain ⟨a', cap', e, hc', h⟩ := h
    simp only [Value.slice.injEq, true_and] at e
    obtain ⟨rfl, rfl⟩ := e
    have hlen : (l.take n).length = n := by simp; omega
    refine ⟨_, n, by rw [hlen], by rw [hlen]; exact Nat.le_refl _, ?_⟩
    by_cases h0 : n = 0
    · left
      exact ⟨by rw [h0]; simp, fun _ => h0⟩
    · rw [if_neg h0]
      rcases h with ⟨rfl, _⟩ | ⟨b, o, rfl, h⟩
      · simp at hn; omega
      · right
        refine ⟨b, o, by simp [addr_add], fun k hk => ?_⟩
        rw [hlen] at hk
        have := h k (by omega)
        have e : (l.take n).getD k noAc = l.getD k noAc := by simp [List.getD_eq_getElem?_getD, hk]
        rw [e]; exact this
theorem aslice_l (a : Option Addr) (cap : Nat) (l : List Ac) (n : Nat) (hn : n ≤ l.length) (hc : l.length ≤ cap) : ∃ a1 c1, (∀ W, (Instr.slice 22 (.slice a l.length cap) (some (.int .i64 (n : Int))) none none).run Tryd.prog W = .ok (.slice a1 (l.length - n) c1) W) ∧ ∀ W, ActsIs W (.slice a l.length cap) l → ActsIs W (.slice a1 (l.length - n) c1) (l.drop n) := by
  refine ⟨if cap = n then a else a.map (·.add (n * 4)), cap - n, fun W => ?_, fun W h => ?_⟩
  · rw [run_slice_l _ _ _ _ _ (by kernel_rfl) _ _ (by omega) (by omega), sizeAc]
    simp only [Result.andThen, Go.sliced, Int.toNat_natCast]
  · obtain ⟨a', cap', e, hc', h⟩ := h
    simp only [Value.slice.injEq, true_and] at e
    obtain ⟨rfl, rfl⟩ := e
    have hlen : (l.drop n).length = l.length - n := by simp
    refine ⟨_, cap - n, by rw [hlen], by rw [hlen]; omega, ?_⟩
    by_cases hci : cap = n
    · left
      exact ⟨List.eq_nil_of_length_eq_zero (by rw [hlen]; omega), fun _ => by omega⟩
    · rw [if_neg hci]
      rcases h with ⟨rfl, h⟩ | ⟨b, o, rfl, h⟩
      · left
        refine ⟨by simp, fun e => ?_⟩
        cases a with
        | none => have := h rfl; omega
        | some x => cases e
      · right
        refine ⟨b, o + n * 4, by simp [addr_add], fun k hk => ?_⟩
        rw [hlen] at hk
        have := h (n + k) (by omega)
        have e : (l.drop n).getD k noAc = l.getD (n + k) noAc := by simp [List.getD_eq_getElem?_getD]
        rw [e, show o + n * 4 + k * 4 = o + (n + k) * 4 by omega]
        exact this
end Go.Proofs.YtpefggkhjocanaaDoor
