/-
  Texts of this proof, joined: TCCheck, PairSlice, TCPut, TCDelete, TCGet, FindM.
-/
import Derived.Test.YtpmfbfflacbmjacPairMem
import Derived.Test.YtpmfbfflacbmjacPart1
/-
  What tree.Check must keep.
-/
namespace Go.Proofs.Ytpmfbfflacbmjac
open Go.RowKit
/-- tree.Check keeps P3.1. -/
def TCheckOK : Prop := ∀ (w : World) (v : Value) (l : PL), PairsIs w v l → Fits l → Calls Try.prog 58 #[v] w fun e w' => e = .returned (.int .i64 (pairsFaultF l)) ∧ w.grownBy w' none
end Go.Proofs.Ytpmfbfflacbmjac

/-
  Pieces of a list of pairs: l[:n], l[m:], l[i:j].
-/
namespace Go.Proofs.Ytpmfbfflacbmjac
open Go.RowKit
theorem sizePair (w : World) : (sizeOf (Try.prog.elem 41)).run Try.prog w = .ok 2 w := by kernel_rfl
theorem PairsIs.sliced {w : World} {a : Option Addr} {cap : Nat} {l : PL} (h : PairsIs w (.slice a l.length cap) l) (i j : Nat) (hij : i ≤ j) (hj : j ≤ l.length) : PairsIs w (Go.sliced a i j cap 2) ((l.take j).drop i) := by
  obtain ⟨a', cap', e, hc, h⟩ := h
  simp only [Value.slice.injEq, true_and] at e
  obtain ⟨rfl, rfl⟩ := e
  have hlen : ((l.take j).drop i).length = j - i := by simp; omega
  refine ⟨if cap = i then a else a.map (·.add (i * 2)), cap - i, by rw [hlen]; rfl, by rw [hlen]; omega, ?_⟩
  by_cases hci : cap = i
  · left
    exact ⟨List.eq_nil_of_length_eq_zero (by rw [hlen]; omega), fun _ => by omega⟩
  · rw [if_neg hci]
    rcases h with ⟨rfl, h⟩ | ⟨b, o, rfl, h⟩
    · left
      refine ⟨by simp, fun e => ?_⟩
      cases a with
      | none => have := h rfl; simp at hj; omega
      | some x => cases e
    · right
      refine ⟨b, o + i * 2, by simp [addr_add], fun k hk => ?_⟩
      rw [hlen] at hk
      have := h (i + k) (by omega)
      have e : ((l.take j).drop i).getD k ([], []) = l.getD (i + k) ([], []) := by simp [show i + k < j by omega]
      rw [e, show o + i * 2 + k * 2 = o + (i + k) * 2 by omega]
      exact this
theorem pslice_h (a : Option Addr) (cap : Nat) (l : PL) (n : Nat) (hn : n ≤ l.length) (hc : l.length ≤ cap) : ∃ a1 c1, (∀ W, (Instr.slice 41 (.slice a l.length cap) none (some (.int .i64 (n : Int))) none).run Try.prog W = .ok (.slice a1 n c1) W) ∧ ∀ W, PairsIs W (.slice a l.length cap) l → PairsIs W (.slice a1 n c1) (l.take n) := by
  refine ⟨if cap = 0 then a else a.map (·.add (0 * 2)), cap - 0, fun W => ?_, fun W h => ?_⟩
  · rw [run_slice_h _ _ _ _ _ (by kernel_rfl) _ _ (by omega) (by omega), sizePair]
    simp only [Result.andThen, Go.sliced, Int.toNat_natCast, Nat.sub_zero]
  · have := h.sliced 0 n (by omega) hn
    simpa only [Go.sliced, List.drop_zero, Nat.sub_zero] using this
theorem pslice_l (a : Option Addr) (cap : Nat) (l : PL) (n : Nat) (hn : n ≤ l.length) : ∃ a1 c1, (∀ W, (Instr.slice 41 (.slice a l.length cap) (some (.int .i64 (n : Int))) none none).run Try.prog W = .ok (.slice a1 (l.length - n) c1) W) ∧ ∀ W, PairsIs W (.slice a l.length cap) l → PairsIs W (.slice a1 (l.length - n) c1) (l.drop n) := by
  refine ⟨if cap = n then a else a.map (·.add (n * 2)), cap - n, fun W => ?_, fun W h => ?_⟩
  · rw [run_slice_l _ _ _ _ _ (by kernel_rfl) _ _ (by omega) (by omega), sizePair]
    simp only [Result.andThen, Go.sliced, Int.toNat_natCast]
  · have := h.sliced n l.length hn (Nat.le_refl _)
    simpa only [Go.sliced, List.take_length] using this
theorem pslice_lh (a : Option Addr) (cap : Nat) (l : PL) (i j : Nat) (hij : i ≤ j) (hj : j ≤ l.length) (hc : l.length ≤ cap) : ∃ a1 c1, (∀ W, (Instr.slice 41 (.slice a l.length cap) (some (.int .i64 (i : Int))) (some (.int .i64 (j : Int))) none).run Try.prog W = .ok (.slice a1 (j - i) c1) W) ∧ ∀ W, PairsIs W (.slice a l.length cap) l → PairsIs W (.slice a1 (j - i) c1) ((l.take j).drop i) := by
  refine ⟨if cap = i then a else a.map (·.add (i * 2)), cap - i, fun W => ?_, fun W h => ?_⟩
  · rw [run_slice_lh _ _ _ _ _ (by kernel_rfl) _ _ _ _ (by omega) (by omega) (by omega), sizePair]
    simp only [Result.andThen, Go.sliced, Int.toNat_natCast]
  · have := h.sliced i j hij hj
    simpa only [Go.sliced] using this
theorem PairsIs.cap {w : World} {a : Option Addr} {n cap : Nat} {l : PL} (h : PairsIs w (.slice a n cap) l) : l.length ≤ cap := by
  obtain ⟨a', cap', e, hc, _⟩ := h
  simp only [Value.slice.injEq] at e
  obtain ⟨_, _, rfl⟩ := e
  exact hc
end Go.Proofs.Ytpmfbfflacbmjac

/-
  What tree.Put must keep.
-/
namespace Go.Proofs.Ytpmfbfflacbmjac
open Go.RowKit
/-- tree.Put keeps P3.3. -/
def TPutOK : Prop := ∀ (w : World) (v u : Value) (l : PL) (p : Pr), PairsIs w v l → PairIs w u p → Fits l → p.1.length ≤ 140737488355328 → p.2.length ≤ 140737488355328 → Calls Try.prog 77 #[v, u] w fun e w' => ∃ x, e = .returned (.tuple #[x, .int .i64 (putE l p)]) ∧ PairsIs w' x (putF l p) ∧ w.grownBy w' none
end Go.Proofs.Ytpmfbfflacbmjac

/-
  What tree.Delete must keep.
-/
namespace Go.Proofs.Ytpmfbfflacbmjac
open Go.RowKit
/-- tree.Delete keeps P3.4. -/
def TDelOK : Prop := ∀ (w : World) (v u : Value) (l : PL) (k : List UInt8), PairsIs w v l → SliceIs w u k → Fits l → k.length ≤ 140737488355328 → Calls Try.prog 78 #[v, u] w fun e w' => ∃ x, e = .returned (.tuple #[x, .int .i64 (getE l k)]) ∧ PairsIs w' x (delF l k) ∧ w.grownBy w' none
end Go.Proofs.Ytpmfbfflacbmjac

/-
  What tree.Get must keep.
-/
namespace Go.Proofs.Ytpmfbfflacbmjac
open Go.RowKit
/-- tree.Get keeps P3.2. -/
def TGetOK : Prop := ∀ (w : World) (v u : Value) (l : PL) (k : List UInt8), PairsIs w v l → SliceIs w u k → Fits l → k.length ≤ 140737488355328 → Calls Try.prog 32 #[v, u] w fun e w' => ∃ x, e = .returned (.tuple #[.agg #[.bool (getB l k), x], .int .i64 (getE l k)]) ∧ SliceIs w' x (getV l k) ∧ w.grownBy w' none
end Go.Proofs.Ytpmfbfflacbmjac

/-
  A finding's block is written: bytes stand.
-/
namespace Go.Proofs.Ytpmfbfflacbmjac
open Go.RowKit
/-- A slice of bytes stands where a finding's block is written. -/
theorem SliceIs.findS {w : World} {v : Value} {bs : List UInt8} (h : SliceIs w v bs) {nb : Nat} {b : Bool} {xa : Option Addr} {xn xc : Nat} {t : TypeId} (hb : w.heap[nb]? = some (.cells #[.bool b, .slice xa xn xc] t)) (u1 u2 : Value) :
    SliceIs ((w.setCell ⟨nb, 0, none⟩ u1).setCell ⟨nb, 1, none⟩ u2) v bs := by
  obtain ⟨a, cap, rfl, hc, h⟩ := h
  refine ⟨a, cap, rfl, hc, ?_⟩
  rcases h with h | ⟨c, o, rfl, h⟩
  · exact .inl h
  · refine .inr ⟨c, o, rfl, fun i hi => ?_⟩
    have hx := h i hi
    have hne : c ≠ nb := by
      rintro rfl
      match hj : o + i with
      | 0 => rw [hj] at hx; simp [World.cell?, hb] at hx
      | 1 => rw [hj] at hx; simp [World.cell?, hb] at hx
      | n + 2 => rw [hj] at hx; simp [World.cell?, hb] at hx
    rw [World.cell?_setCell_other _ _ _ _ (fun e => hne (congrArg Addr.block e).symm), World.cell?_setCell_other _ _ _ _ (fun e => hne (congrArg Addr.block e).symm)]
    exact hx
theorem two_cells' {w : World} {b : Nat} {x y : Value} {t : TypeId} (h : w.heap[b]? = some (.cells #[x, y] t)) : w.cell? ⟨b, 0, none⟩ = some x ∧ w.cell? ⟨b, 1, none⟩ = some y ∧ w.frozen? ⟨b, 0, none⟩ = false ∧ w.frozen? ⟨b, 1, none⟩ = false := by
  refine ⟨?_, ?_, ?_, ?_⟩ <;> simp [World.cell?, World.frozen?, h]
end Go.Proofs.Ytpmfbfflacbmjac
