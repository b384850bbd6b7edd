/-
  The walk of bytes.Compare, over two slices as they are handed over.
-/
import Derived.Test.YtpmfbfflacbmjacBase
import Derived.Test.YtpmfbfflacbmjacPart1
import Derived.Lib.BytesEntry
namespace Go.Proofs.Ytpmfbfflacbmjac
open Go.RowKit
/-- -1, 0 or 1. -/
def cmpF (a b : List UInt8) : Int := if klt a b = true then -1 else if a = b then 0 else 1
theorem cmp_klt : ∀ a b : List UInt8, Lib.compareBytes a b = cmpF a b
  | [], [] => rfl
  | [], y :: b => by
    have h : klt [] (y :: b) = true := by
      cases h : klt [] (y :: b) with
      | true => rfl
      | false => have := klt_total _ _ h (by simp); rw [klt_nil] at this; cases this
    rw [cmpF, if_pos h]; rfl
  | x :: a, [] => by rw [cmpF, if_neg (by rw [klt_nil]; simp), if_neg (by simp)]; rfl
  | x :: a, y :: b => by
    have ih := cmp_klt a b
    rw [Lib.compareBytes, ih]
    unfold cmpF
    rw [klt_cons]
    by_cases h1 : x < y
    · simp [h1]
    · by_cases h2 : y < x
      · have h3 : x ≠ y := by intro e; subst e; exact h1 h2
        simp [h1, h2, h3]
      · have h3 : x = y := by
          have e1 := UInt8.not_lt.1 h1
          have e2 := UInt8.not_lt.1 h2
          exact UInt8.le_antisymm e2 e1
        subst h3
        simp [h1]
theorem cmpF_lt (a b : List UInt8) (h : klt a b = true) : cmpF a b = -1 := by rw [cmpF, if_pos h]
theorem cmpF_eq (a : List UInt8) : cmpF a a = 0 := by rw [cmpF, if_neg (by rw [klt_irrefl]; simp), if_pos rfl]
theorem cmpF_gt (a b : List UInt8) (h : klt a b = false) (hne : a ≠ b) : cmpF a b = 1 := by rw [cmpF, if_neg (by rw [h]; simp), if_neg hne]
theorem cmpF_range (a b : List UInt8) : -1 ≤ cmpF a b ∧ cmpF a b ≤ 1 := by
  unfold cmpF
  by_cases h1 : klt a b = true
  · rw [if_pos h1]; omega
  · rw [if_neg h1]
    by_cases h2 : a = b
    · rw [if_pos h2]; omega
    · rw [if_neg h2]; omega
theorem cmpF_neg (a b : List UInt8) : decide (cmpF a b < 0) = klt a b := by
  cases h : klt a b with
  | true => rw [cmpF_lt a b h]; rfl
  | false =>
    by_cases h2 : a = b
    · subst h2; rw [cmpF_eq]; rfl
    · rw [cmpF_gt a b h h2]; rfl
theorem cmpF_zero (a b : List UInt8) : (cmpF a b == 0) = decide (a = b) := by
  by_cases h2 : a = b
  · subst h2; rw [cmpF_eq]; simp
  · cases h : klt a b with
    | true => rw [cmpF_lt a b h]; simp [h2]
    | false => rw [cmpF_gt a b h h2]; simp [h2]
theorem run_bytesOf (w : World) (v : Value) (a : List UInt8) (h : SliceIs w v a) : (Extern.Bytes.bytesOf v).run Try.prog w = .ok ⟨a.toArray⟩ w := by
  obtain ⟨ad, cap, rfl, hc, h⟩ := h
  have key : ∀ x : Addr, (∀ j y, (a.map fun c => (c.toNat : Int))[j]? = some y → w.cell? (x.add j) = some (.int .u8 y)) → (Extern.Bytes.bytesOf (.slice (some x) a.length cap)).run Try.prog w = .ok ⟨a.toArray⟩ w := by
    intro x hx
    have hl := Lib.run_loadBytesX (P := Try.prog) w (a.map fun c => (c.toNat : Int)) x .empty hx
    rw [List.length_map] at hl
    have e : (⟨ByteArray.empty.data ++ (Lib.bytesOf (a.map fun c => (c.toNat : Int))).toArray⟩ : ByteArray) = ⟨a.toArray⟩ := by
      apply ByteArray.ext
      show (#[] : Array UInt8) ++ (Lib.bytesOf (a.map fun c => (c.toNat : Int))).toArray = a.toArray
      simp only [Lib.bytesOf, List.map_map, Array.empty_append, Array.mk.injEq]
      congr 1
      exact (List.map_congr_left fun c _ => by simp).trans (List.map_id a)
    rw [e] at hl
    simpa only [Extern.Bytes.bytesOf] using hl
  rcases h with ⟨rfl, h⟩ | ⟨b, o, rfl, h⟩
  · cases ad with
    | none => rfl
    | some x => exact key x fun j y hy => by simp at hy
  · refine key ⟨b, o, none⟩ fun j y hy => ?_
    rw [List.getElem?_map] at hy
    cases hj : a[j]? with
    | none => rw [hj] at hy; simp at hy
    | some c =>
      rw [hj] at hy
      simp at hy
      subst hy
      have hlt : j < a.length := (List.getElem?_eq_some_iff.1 hj).1
      rw [addr_add, h j hlt]
      simp [hj]
theorem run_compare (w : World) (v u : Value) (a b : List UInt8) (hv : SliceIs w v a) (hu : SliceIs w u b) :
    (Extern.BytealgCompare.compare #[v, u]).run Try.prog w = .ok (.int .i64 (cmpF a b)) w := by
  change Sem.run Try.prog (do pure (goInt (Extern.BytealgCompare.cmp (← Extern.Bytes.bytesOf v) (← Extern.Bytes.bytesOf u)))) w = _
  simp only [Sem.run_bind, Sem.run_pure, run_bytesOf w v a hv, run_bytesOf w u b hu, Result.andThen]
  rw [Lib.cmp_eq, cmp_klt]
  rfl
set_option maxRecDepth 100000 in
set_option maxHeartbeats 1000000 in
theorem compare_any (w : World) (v u : Value) (a b : List UInt8) (hv : SliceIs w v a) (hu : SliceIs w u b) :
    Calls Try.prog 52 #[v, u] w fun e w' => e = .returned (.int .i64 (cmpF a b)) ∧ w' = w := by
  have hrun := run_compare w v u a b hv hu
  obtain ⟨va, vc, rfl⟩ : ∃ x c, v = .slice x a.length c := by obtain ⟨x, c, e, _⟩ := hv; exact ⟨x, c, e⟩
  obtain ⟨ua, uc, rfl⟩ : ∃ x c, u = .slice x b.length c := by obtain ⟨x, c, e, _⟩ := hu; exact ⟨x, c, e⟩
  have HR : Hid ((Extern.BytealgCompare.compare #[.slice va a.length vc, .slice ua b.length uc]).run Try.prog w = .ok (.int .i64 (cmpF a b)) w) := hrun
  clear hrun hv hu
  go_enter Try.func52, Try.ntmps52
  go_wp2
  rw [run_callFunc_extern Try.func70 (by kernel_rfl) (by kernel_rfl) (by kernel_rfl) (e := Extern.BytealgCompare.compare) (by kernel_rfl), HR.out]
  simp only [Result.andThen]
  rw [Oper.upon_value]
  go_wp2
  go_ret
  exact ⟨rfl, rfl⟩
end Go.Proofs.Ytpmfbfflacbmjac
