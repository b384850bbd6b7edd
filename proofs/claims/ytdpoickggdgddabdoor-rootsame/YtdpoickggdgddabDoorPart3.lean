/-
  Texts of this proof, joined: KMakeS, TCCheck, PairSlice, TCPut, TCDelete, BoxM.
-/
import Derived.Test.YtdpoickggdgddabDoorPairMem
import Derived.Test.YtdpoickggdgddabDoorPart2
/-
  What canopykeep.Pairs keeps.
-/
namespace Go.Proofs.YtdpoickggdgddabDoor
open Go.RowKit
def KMakeOK : Prop := ∀ (w : World) (v : Value) (l : PL) (n : Nat), PairsIs w v l → Fits l → n ≤ 60 →
    Calls Tryd.prog 4 #[v, .int .i64 (n : Int)] w fun e w' => ∃ v', e = .returned v' ∧ OwnP w.heap.size w' v' (mkT (l.take n)) ∧ w.grownBy w' none
end Go.Proofs.YtdpoickggdgddabDoor

/-
  What tree.Check must keep.
-/
namespace Go.Proofs.YtdpoickggdgddabDoor
open Go.RowKit
/-- tree.Check keeps P3.1. -/
def TCheckOK : Prop := ∀ (w : World) (v : Value) (l : PL), PairsIs w v l → Fits l → Calls Tryd.prog 14 #[v] w fun e w' => e = .returned (.int .i64 (pairsFaultF l)) ∧ w.grownBy w' none
end Go.Proofs.YtdpoickggdgddabDoor

/-
  Pieces of a list of pairs: l[:n], l[m:], l[i:j].
-/
namespace Go.Proofs.YtdpoickggdgddabDoor
open Go.RowKit
theorem sizePair (w : World) : (sizeOf (Tryd.prog.elem 25)).run Tryd.prog w = .ok 2 w := by kernel_rfl
theorem PairsIs.sliced {w : World} {a : Option Addr} {cap : Nat} {l : PL} (h : PairsIs w (.slice a l.length cap) l) (i j : Nat) (hij : i ≤ j) (hj : j ≤ l.length) : PairsIs w (Go.sliced a i j cap 2) ((l.take j).drop i) := by
  obtain ⟨a', cap', e, hc, h⟩ := h
  simp only [Value.slice.injEq, true_and] at e
  obtain ⟨rfl, rfl⟩ := e
  have hlen : ((l.take j).drop i).length = j - i := by simp; omega
  refine ⟨if cap = i then a else a.map (·.add (i * 2)), cap - i, by rw [hlen]; rfl, by rw [hlen]; omega, ?_⟩
  by_cases hci : cap = i
  · left
    exact ⟨List.eq_nil_of_length_eq_zero (by rw [hlen]; omega), fun _ => by omega⟩
  · rw [if_neg hci]
    rcases h with ⟨rfl, h⟩ | ⟨b, o, rfl, h⟩
    · left
      refine ⟨by simp, fun e => ?_⟩
      cases a with
      | none => have := h rfl; simp at hj; omega
      | some x => cases e
    · right
      refine ⟨b, o + i * 2, by simp [addr_add], fun k hk => ?_⟩
      rw [hlen] at hk
      have := h (i + k) (by omega)
      have e : ((l.take j).drop i).getD k ([], []) = l.getD (i + k) ([], []) := by simp [show i + k < j by omega]
      rw [e, show o + i * 2 + k * 2 = o + (i + k) * 2 by omega]
      exact this
theorem pslice_h (a : Option Addr) (cap : Nat) (l : PL) (n : Nat) (hn : n ≤ l.length) (hc : l.length ≤ cap) : ∃ a1 c1, (∀ W, (Instr.slice 25 (.slice a l.length cap) none (some (.int .i64 (n : Int))) none).run Tryd.prog W = .ok (.slice a1 n c1) W) ∧ ∀ W, PairsIs W (.slice a l.length cap) l → PairsIs W (.slice a1 n c1) (l.take n) := by
  refine ⟨if cap = 0 then a else a.map (·.add (0 * 2)), cap - 0, fun W => ?_, fun W h => ?_⟩
  · rw [run_slice_h _ _ _ _ _ (by kernel_rfl) _ _ (by omega) (by omega), sizePair]
    simp only [Result.andThen, Go.sliced, Int.toNat_natCast, Nat.sub_zero]
  · have := h.sliced 0 n (by omega) hn
    simpa only [Go.sliced, List.drop_zero, Nat.sub_zero] using this
theorem pslice_l (a : Option Addr) (cap : Nat) (l : PL) (n : Nat) (hn : n ≤ l.length) : ∃ a1 c1, (∀ W, (Instr.slice 25 (.slice a l.length cap) (some (.int .i64 (n : Int))) none none).run Tryd.prog W = .ok (.slice a1 (l.length - n) c1) W) ∧ ∀ W, PairsIs W (.slice a l.length cap) l → PairsIs W (.slice a1 (l.length - n) c1) (l.drop n) := by
  refine ⟨if cap = n then a else a.map (·.add (n * 2)), cap - n, fun W => ?_, fun W h => ?_⟩
  · rw [run_slice_l _ _ _ _ _ (by kernel_rfl) _ _ (by omega) (by omega), sizePair]
    simp only [Result.andThen, Go.sliced, Int.toNat_natCast]
  · have := h.sliced n l.length hn (Nat.le_refl _)
    simpa only [Go.sliced, List.take_length] using this
theorem pslice_lh (a : Option Addr) (cap : Nat) (l : PL) (i j : Nat) (hij : i ≤ j) (hj : j ≤ l.length) (hc : l.length ≤ cap) : ∃ a1 c1, (∀ W, (Instr.slice 25 (.slice a l.length cap) (some (.int .i64 (i : Int))) (some (.int .i64 (j : Int))) none).run Tryd.prog W = .ok (.slice a1 (j - i) c1) W) ∧ ∀ W, PairsIs W (.slice a l.length cap) l → PairsIs W (.slice a1 (j - i) c1) ((l.take j).drop i) := by
  refine ⟨if cap = i then a else a.map (·.add (i * 2)), cap - i, fun W => ?_, fun W h => ?_⟩
  · rw [run_slice_lh _ _ _ _ _ (by kernel_rfl) _ _ _ _ (by omega) (by omega) (by omega), sizePair]
    simp only [Result.andThen, Go.sliced, Int.toNat_natCast]
  · have := h.sliced i j hij hj
    simpa only [Go.sliced] using this
theorem PairsIs.cap {w : World} {a : Option Addr} {n cap : Nat} {l : PL} (h : PairsIs w (.slice a n cap) l) : l.length ≤ cap := by
  obtain ⟨a', cap', e, hc, _⟩ := h
  simp only [Value.slice.injEq] at e
  obtain ⟨_, _, rfl⟩ := e
  exact hc
end Go.Proofs.YtdpoickggdgddabDoor

/-
  What tree.Put must keep.
-/
namespace Go.Proofs.YtdpoickggdgddabDoor
open Go.RowKit
/-- tree.Put keeps P3.3. -/
def TPutOK : Prop := ∀ (w : World) (v u : Value) (l : PL) (p : Pr), PairsIs w v l → PairIs w u p → Fits l → p.1.length ≤ 140737488355328 → p.2.length ≤ 140737488355328 → Calls Tryd.prog 6 #[v, u] w fun e w' => ∃ x, e = .returned (.tuple #[x, .int .i64 (putE l p)]) ∧ PairsIs w' x (putF l p) ∧ w.grownBy w' none
end Go.Proofs.YtdpoickggdgddabDoor

/-
  What tree.Delete must keep.
-/
namespace Go.Proofs.YtdpoickggdgddabDoor
open Go.RowKit
/-- tree.Delete keeps P3.4. -/
def TDelOK : Prop := ∀ (w : World) (v u : Value) (l : PL) (k : List UInt8), PairsIs w v l → SliceIs w u k → Fits l → k.length ≤ 140737488355328 → Calls Tryd.prog 10 #[v, u] w fun e w' => ∃ x, e = .returned (.tuple #[x, .int .i64 (getE l k)]) ∧ PairsIs w' x (delF l k) ∧ w.grownBy w' none
end Go.Proofs.YtdpoickggdgddabDoor

/-
  A variable of the call's own that holds a list of pairs: nothing that is handed over lies in it.
-/
namespace Go.Proofs.YtdpoickggdgddabDoor
open Go.RowKit
/-- Block b holds a list of pairs, as a variable does. -/
def BoxIs (w : World) (b : Nat) (l : PL) : Prop := ∃ a cap, w.heap[b]? = some (.cells #[.slice a l.length cap] 25) ∧ PairsIs w (.slice a l.length cap) l
theorem box_byte {w : World} {b : Nat} {a : Option Addr} {n cap : Nat} {t : TypeId} (h : w.heap[b]? = some (.cells #[.slice a n cap] t)) (o : Nat) (k : IntKind) (z : Int) : w.cell? ⟨b, o, none⟩ ≠ some (.int k z) := by
  intro e
  simp [World.cell?, h] at e
  match o, e with
  | 0, e => simp at e
  | o + 1, e => simp at e
theorem box_pair {w : World} {b : Nat} {a : Option Addr} {n cap : Nat} {t : TypeId} (h : w.heap[b]? = some (.cells #[.slice a n cap] t)) (o : Nat) (v : Value) : w.cell? ⟨b, o + 1, none⟩ ≠ some v := by
  intro e
  simp [World.cell?, h] at e
theorem SliceIs.box {w : World} {v : Value} {bs : List UInt8} (h : SliceIs w v bs) {b : Nat} {a : Option Addr} {n cap : Nat} {t : TypeId} (hb : w.heap[b]? = some (.cells #[.slice a n cap] t)) (u : Value) : SliceIs (w.setCell ⟨b, 0, none⟩ u) v bs := by
  obtain ⟨x, c, rfl, hc, h⟩ := h
  refine ⟨x, c, rfl, hc, ?_⟩
  rcases h with h | ⟨pb, o, rfl, h⟩
  · exact .inl h
  · refine .inr ⟨pb, o, rfl, fun i hi => ?_⟩
    have hi' := h i hi
    have hne : pb ≠ b := fun e => by subst e; exact box_byte hb _ _ _ hi'
    rw [World.cell?_setCell_other _ _ _ _ (by intro e; injection e with e1 e2; exact hne e1.symm)]
    exact hi'
theorem PairsIs.box {w : World} {v : Value} {l : PL} (h : PairsIs w v l) {b : Nat} {a : Option Addr} {n cap : Nat} {t : TypeId} (hb : w.heap[b]? = some (.cells #[.slice a n cap] t)) (u : Value) : PairsIs (w.setCell ⟨b, 0, none⟩ u) v l := by
  obtain ⟨x, c, rfl, hc, h⟩ := h
  refine ⟨x, c, rfl, hc, ?_⟩
  rcases h with h | ⟨pb, o, rfl, h⟩
  · exact .inl h
  · refine .inr ⟨pb, o, rfl, fun i hi => ?_⟩
    obtain ⟨vk, vv, c1, c2, s1, s2⟩ := h i hi
    have hne : pb ≠ b := fun e => by subst e; exact box_pair hb _ _ c2
    refine ⟨vk, vv, ?_, ?_, s1.box hb u, s2.box hb u⟩
    · rw [World.cell?_setCell_other _ _ _ _ (by intro e; injection e with e1 e2; exact hne e1.symm)]; exact c1
    · rw [World.cell?_setCell_other _ _ _ _ (by intro e; injection e with e1 e2; exact hne e1.symm)]; exact c2
/-- A list is stored into the variable. -/
theorem box_store {w : World} {b : Nat} {a : Option Addr} {n cap : Nat} {l : PL} {x : Option Addr} {c : Nat} (hb : w.heap[b]? = some (.cells #[.slice a n cap] 25)) (hl : PairsIs w (.slice x l.length c) l) : BoxIs (w.setCell ⟨b, 0, none⟩ (.slice x l.length c)) b l := by
  refine ⟨x, c, ?_, hl.box hb _⟩
  simp only [World.setCell, Array.getElem?_modify, if_true, hb, Option.map_some]
  first | rfl | simp
theorem BoxIs.grown {w w' : World} {b : Nat} {l : PL} (h : BoxIs w b l) (hg : w.grownBy w' none) : BoxIs w' b l := by
  obtain ⟨a, cap, hb, hl⟩ := h
  exact ⟨a, cap, pair_old hg hb, hl.grown hg⟩
theorem box_cell {w : World} {b : Nat} {x : Value} {t : TypeId} (h : w.heap[b]? = some (.cells #[x] t)) : w.cell? ⟨b, 0, none⟩ = some x ∧ w.frozen? ⟨b, 0, none⟩ = false := ⟨by simp [World.cell?, h], by simp [World.frozen?, h]⟩
end Go.Proofs.YtdpoickggdgddabDoor
