/-
  forest.pairsOf and forest.checkedPairs, as they landed.
-/
import Derived.Test.YtpmfbfflacbmjabFPlaceP
import Derived.Test.YtpmfbfflacbmjabPart1
namespace Go.Proofs.Ytpmfbfflacbmjab
open Go.RowKit
theorem sizeTenS (w : World) : (sizeOf (Try.prog.elem 26)).run Try.prog w = .ok 2 w := by kernel_rfl
theorem TensIs.sliced {w : World} {a : Option Addr} {cap : Nat} {l : FL} (h : TensIs w (.slice a l.length cap) l) (i j : Nat) (hij : i ≤ j) (hj : j ≤ l.length) : TensIs w (Go.sliced a i j cap 2) ((l.take j).drop i) := by
  obtain ⟨a', cap', e, hc, h⟩ := h
  simp only [Value.slice.injEq, true_and] at e
  obtain ⟨rfl, rfl⟩ := e
  have hlen : ((l.take j).drop i).length = j - i := by simp; omega
  refine ⟨if cap = i then a else a.map (·.add (i * 2)), cap - i, by rw [hlen]; rfl, by rw [hlen]; omega, ?_⟩
  by_cases hci : cap = i
  · left
    exact ⟨List.eq_nil_of_length_eq_zero (by rw [hlen]; omega), fun _ => by omega⟩
  · rw [if_neg hci]
    rcases h with ⟨rfl, h⟩ | ⟨b, o, rfl, h⟩
    · left
      refine ⟨by simp, fun e => ?_⟩
      cases a with
      | none => have := h rfl; simp at hj; omega
      | some x => cases e
    · right
      refine ⟨b, o + i * 2, by simp [addr_add], fun k hk => ?_⟩
      rw [hlen] at hk
      have := h (i + k) (by omega)
      have e : ((l.take j).drop i).getD k ([], []) = l.getD (i + k) ([], []) := by simp [show i + k < j by omega]
      rw [e, show o + i * 2 + k * 2 = o + (i + k) * 2 by omega]
      exact this
theorem TensIs.cap {w : World} {a : Option Addr} {n cap : Nat} {l : FL} (h : TensIs w (.slice a n cap) l) : l.length ≤ cap := by
  obtain ⟨a', cap', e, hc, _⟩ := h
  simp only [Value.slice.injEq] at e
  obtain ⟨_, _, rfl⟩ := e
  exact hc
theorem tenslice_lh (a : Option Addr) (cap : Nat) (l : FL) (i j : Nat) (hij : i ≤ j) (hj : j ≤ l.length) (hc : l.length ≤ cap) : ∃ a1 c1, (∀ W, (Instr.slice 26 (.slice a l.length cap) (some (.int .i64 (i : Int))) (some (.int .i64 (j : Int))) none).run Try.prog W = .ok (.slice a1 (j - i) c1) W) ∧ ∀ W, TensIs W (.slice a l.length cap) l → TensIs W (.slice a1 (j - i) c1) ((l.take j).drop i) := by
  refine ⟨if cap = i then a else a.map (·.add (i * 2)), cap - i, fun W => ?_, fun W h => ?_⟩
  · rw [run_slice_lh _ _ _ _ _ (by kernel_rfl) _ _ _ _ (by omega) (by omega) (by omega), sizeTenS]
    simp only [Result.andThen, Go.sliced, Int.toNat_natCast]
  · have := h.sliced i j hij hj
    simpa only [Go.sliced] using this
set_option maxRecDepth 100000 in
set_option maxHeartbeats 1000000 in
theorem fpairsOf_none (w : World) (a : Option Addr) (cap : Nat) : Calls Try.prog 60 #[.slice a 0 cap] w fun e w' => e = .returned (.slice none 0 0) ∧ w' = w := by
  go_enter Try.func60, Try.ntmps60
  go_wp2
  go_ret
  exact ⟨rfl, rfl⟩
set_option maxRecDepth 100000 in
set_option maxHeartbeats 1000000 in
theorem fpairsOf_one (w : World) (b o cap : Nat) (vp : Value) (hc : w.cell? ⟨b, o + 1, none⟩ = some vp) (hs : ∃ a n c, vp = .slice a n c) : Calls Try.prog 60 #[.slice (some ⟨b, o, none⟩) 1 cap] w fun e w' => e = .returned vp ∧ w' = w := by
  obtain ⟨a, n, c, rfl⟩ := hs
  go_enter Try.func60, Try.ntmps60
  go_wp2
  go_ret
  exact ⟨rfl, rfl⟩
/-- What stands for what a name has: nothing, or the value in the tenant's second cell. -/
theorem fpairsOf_any (w : World) (v : Value) (l m : FL) (k : List UInt8) (hv : TensIs w v m) (hm : (m = [] ∧ ofF l k = []) ∨ ∃ t, m = [t] ∧ ofF l k = t.2) :
    Calls Try.prog 60 #[v] w fun e w' => ∃ x, e = .returned x ∧ PairsIs w x (ofF l k) ∧ w' = w := by
  rcases hm with ⟨rfl, h0⟩ | ⟨t, rfl, h1⟩
  · obtain ⟨a, cap, rfl⟩ := hv.shape
    refine (fpairsOf_none w a cap).mono ?_
    rintro e w' ⟨rfl, rfl⟩
    exact ⟨_, rfl, by rw [h0]; exact pairsIs_nil _, rfl⟩
  · obtain ⟨a, cap, rfl⟩ := hv.shape
    obtain ⟨b, o, rfl, vn, vp, c1, c2, s1, s2⟩ := hv.at 0 (by simp)
    rw [show (([t] : FL).getD 0 ([], [])) = t from rfl] at s1 s2
    refine (fpairsOf_one w b o cap vp (by simpa using c2) (by obtain ⟨a, c, e⟩ := s2.shape; exact ⟨_, _, _, e⟩)).mono ?_
    rintro e w' ⟨rfl, rfl⟩
    exact ⟨_, rfl, by rw [h1]; exact s2, rfl⟩
end Go.Proofs.Ytpmfbfflacbmjab
