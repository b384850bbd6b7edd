/-
  Texts of this proof, joined: FCCheck, FCApply, FCGet, FCRange, HsFold, BehM.
-/
import Derived.Test.YtpmfbfflacbmjacPart9
import Derived.Test.YtpmfbfflacbmjacWrMem
import Derived.Test.YtpmfbfflacbmjacPart2
import Derived.Test.YtpmfbfflacbmjacPart5
import Derived.Test.YtpmfbfflacbmjacPart1
/-
  What forest.Check must keep.
-/
namespace Go.Proofs.Ytpmfbfflacbmjac
/-- forest.Check keeps P5.2. -/
def FCheckOK : Prop := ∀ (w : World) (v : Value) (l : FL), TensIs w v l → FitsT l → Calls Try.prog 45 #[v] w fun e w' => e = .returned (.int .i64 (forestE l)) ∧ w.grownBy w' none
end Go.Proofs.Ytpmfbfflacbmjac

/-
  What forest.Apply must keep.
-/
namespace Go.Proofs.Ytpmfbfflacbmjac
/-- forest.Apply keeps P5.4. -/
def FApplyOK : Prop := ∀ (w : World) (v u : Value) (l : FL) (ws : List Plc), TensIs w v l → WritesIs w u ws → FitsT l → FitsW ws → Calls Try.prog 21 #[v, u] w fun e w' => ∃ x, e = .returned (.tuple #[x, .int .i64 (appliedE l ws)]) ∧ TensIs w' x (appliedF l ws) ∧ w.grownBy w' none
theorem OwnT.down {base : Nat} {w : World} {v : Value} {l : FL} (h : OwnT base w v l) (b2 : Nat) (hb : b2 ≤ base) : OwnT b2 w v l := by
  obtain ⟨vs, h1, h2, h3⟩ := h
  refine ⟨vs, h1, ⟨h2.1, ?_⟩, h3⟩
  rcases h2.2 with h | ⟨g, cap, cur, e, hb2, rest⟩
  · exact .inl h
  · exact .inr ⟨g, cap, cur, e, Nat.le_trans hb hb2, rest⟩
/-- forest.Apply keeps P5.4, and what it hands back is new. -/
def FApplyNewOK : Prop := ∀ (w : World) (v u : Value) (l : FL) (ws : List Plc), TensIs w v l → WritesIs w u ws → FitsT l → FitsW ws → Calls Try.prog 21 #[v, u] w fun e w' => ∃ x, e = .returned (.tuple #[x, .int .i64 (appliedE l ws)]) ∧ OwnT w.heap.size w' x (appliedF l ws) ∧ w.grownBy w' none
theorem FApplyNewOK.ok (h : FApplyNewOK) : FApplyOK := fun w v u l ws h1 h2 h3 h4 => (h w v u l ws h1 h2 h3 h4).mono (by
  rintro e w' ⟨x, rfl, hx, hg⟩
  exact ⟨x, rfl, hx.list, hg⟩)
end Go.Proofs.Ytpmfbfflacbmjac

/-
  What forest.Get must keep.
-/
namespace Go.Proofs.Ytpmfbfflacbmjac
/-- forest.Get keeps P5.3. -/
def FGetOK : Prop := ∀ (w : World) (v r u : Value) (l : FL) (n k : List UInt8), TensIs w v l → SliceIs w r n → SliceIs w u k → FitsT l → n.length ≤ 140737488355328 → k.length ≤ 140737488355328 → Calls Try.prog 13 #[v, r, u] w fun e w' => ∃ x, e = .returned (.tuple #[.agg #[.bool (fgetB l n k), x], .int .i64 (fgetE l n k)]) ∧ SliceIs w' x (fgetV l n k) ∧ w.grownBy w' none
end Go.Proofs.Ytpmfbfflacbmjac

/-
  What forest.Range must keep.
-/
namespace Go.Proofs.Ytpmfbfflacbmjac
/-- forest.Range keeps P5.3. -/
def FRangeOK : Prop := ∀ (w : World) (v r u t : Value) (l : FL) (n k m : List UInt8), TensIs w v l → SliceIs w r n → SliceIs w u k → SliceIs w t m → FitsT l → n.length ≤ 140737488355328 → k.length ≤ 140737488355328 → m.length ≤ 140737488355328 → Calls Try.prog 11 #[v, r, u, t] w fun e w' => ∃ x, e = .returned (.tuple #[x, .int .i64 (frangeE l n k m)]) ∧ PairsIs w' x (frangeF l n k m) ∧ w.grownBy w' none
end Go.Proofs.Ytpmfbfflacbmjac

/-
  What history.Fold must keep.
-/
namespace Go.Proofs.Ytpmfbfflacbmjac
open Go.RowKit
def HsFoldOK : Prop := ∀ (w : World) (v : Value) (l : List Cmt) (turn : Int), CommitsIs w v l → FitsCs l → -9223372036854775808 ≤ turn → turn ≤ 9223372036854775807 → Calls Try.prog 10 #[v, .int .i64 turn] w fun e w' => ∃ x, e = .returned (.tuple #[x, .int .i64 (foldE l turn)]) ∧ TensIs w' x (foldT l turn) ∧ w.grownBy w' none
end Go.Proofs.Ytpmfbfflacbmjac

/-
  A row of forests: a list of lists of tenants, of the call's own.
-/
namespace Go.Proofs.Ytpmfbfflacbmjac
open Go.RowKit
theorem OwnT.ne {base : Nat} {w : World} {v : Value} {l : FL} (h : OwnT base w v l) {b : Nat} {cs : Array Value} {t : TypeId} {fz : Nat × Nat} (hb : w.heap[b]? = some (.cells cs t fz)) (ht : t ≠ 113) : v.ownBlock ≠ some b := by
  intro e
  obtain ⟨vs, _, h, _⟩ := h
  rcases h.2 with ⟨rfl, _⟩ | ⟨g, cap, cur, rfl, _, hg, _⟩
  · cases e
  · cases e
    rw [hb] at hg
    simp only [Option.some.injEq, Obj.cells.injEq] at hg
    exact ht hg.2.1
theorem OwnT.setOther {base : Nat} {w : World} {v : Value} {l : FL} (h : OwnT base w v l) {b i : Nat} {cs : Array Value} {t : TypeId} {fz : Nat × Nat} (hb : w.heap[b]? = some (.cells cs t fz)) (ht : t ≠ 5) (ht2 : t ≠ 80) (ht3 : t ≠ 113) (u : Value) : OwnT base (w.setCell ⟨b, i, none⟩ u) v l := by
  have hne := h.ne hb ht3
  obtain ⟨vs, h1, h2, h3⟩ := h
  exact ⟨vs, h1, World.ownsRow.kept h2 (set_grown w b i u) (.inr hne), fun j hj => ⟨((h3 j hj).1).keptT (set_grown w b i u) (.inr ⟨b, cs, t, fz, rfl, Nat.zero_le _, hb, ht⟩), ((h3 j hj).2).kept (set_grown w b i u) (.inr ⟨b, cs, t, fz, rfl, Nat.zero_le _, hb, ht, ht2⟩)⟩⟩
theorem tsT5 : (35 : Nat) ≠ 5 := by decide
theorem tsTP : (35 : Nat) ≠ 80 := by decide
theorem tsTT : (35 : Nat) ≠ 113 := by decide
/-- The block b holds n lists of tenants, each of the call's own. -/
def ForRow (w : World) (b n : Nat) (g : Nat → FL) : Prop := ∃ cs : Array Value, w.heap[b]? = some (.cells cs 35) ∧ cs.size = n ∧ ∀ k, k < n → ∃ u, cs[k]? = some u ∧ OwnT 0 w u (g k)
theorem ForRow.cell {w : World} {b n : Nat} {g : Nat → FL} (h : ForRow w b n g) {k : Nat} (hk : k < n) : ∃ u, w.cell? ⟨b, k, none⟩ = some u ∧ w.frozen? ⟨b, k, none⟩ = false ∧ OwnT 0 w u (g k) := by
  obtain ⟨cs, h1, h2, h3⟩ := h
  obtain ⟨u, hu, ho⟩ := h3 k hk
  exact ⟨u, by simp [World.cell?, h1, hu], by simp [World.frozen?, h1], ho⟩
theorem ForRow.grown {w w' : World} {b n : Nat} {g : Nat → FL} (h : ForRow w b n g) (hg : w.grownBy w' none) : ForRow w' b n g := by
  obtain ⟨cs, h1, h2, h3⟩ := h
  refine ⟨cs, pair_old hg h1, h2, fun k hk => ?_⟩
  obtain ⟨u, hu, ho⟩ := h3 k hk
  exact ⟨u, hu, ho.grownNone hg⟩
theorem ForRow.congr {w : World} {b n : Nat} {g g' : Nat → FL} (h : ForRow w b n g) (he : ∀ k, k < n → g k = g' k) : ForRow w b n g' := by
  obtain ⟨cs, h1, h2, h3⟩ := h
  refine ⟨cs, h1, h2, fun k hk => ?_⟩
  rw [← he k hk]; exact h3 k hk
theorem ForRow.lt {w : World} {b n : Nat} {g : Nat → FL} (h : ForRow w b n g) : b < w.heap.size := by
  obtain ⟨cs, h1, _⟩ := h
  exact (Array.getElem?_eq_some_iff.1 h1).1
theorem OwnT.setRow {base : Nat} {w : World} {v : Value} {l : FL} (h : OwnT base w v l) {b n i : Nat} {g : Nat → FL} (hr : ForRow w b n g) (u : Value) : OwnT base (w.setCell ⟨b, i, none⟩ u) v l := by
  obtain ⟨cs, h1, _⟩ := hr
  exact h.setOther h1 tsT5 tsTP tsTT u
theorem ForRow.set {w : World} {b n : Nat} {g : Nat → FL} (h : ForRow w b n g) {k : Nat} (hk : k < n) {u : Value} {f : FL} (hu : OwnT 0 w u f) : ForRow (w.setCell ⟨b, k, none⟩ u) b n (fun i => if i = k then f else g i) := by
  have h0 := h
  obtain ⟨cs, h1, h2, h3⟩ := h
  refine ⟨_, set_self h1, by simp [h2], fun i hi => ?_⟩
  by_cases e : i = k
  · subst e
    exact ⟨u, by rw [Array.getElem?_setIfInBounds, if_pos rfl, if_pos (by omega)], by show OwnT 0 _ _ (if i = i then f else g i); rw [if_pos rfl]; exact hu.setRow h0 u⟩
  · obtain ⟨v, hv, ho⟩ := h3 i hi
    exact ⟨v, by rw [Array.getElem?_setIfInBounds, if_neg (fun h => e h.symm)]; exact hv, by show OwnT 0 _ _ (if i = k then f else g i); rw [if_neg e]; exact ho.setRow h0 u⟩
/-- A list of forests, as it is handed over. -/
def ForsIs (w : World) (v : Value) (n : Nat) (g : Nat → FL) : Prop := ∃ b, v = .slice (some ⟨b, 0, none⟩) n n ∧ ∀ k, k < n → ∃ u, w.cell? ⟨b, k, none⟩ = some u ∧ TensIs w u (g k)
theorem ForRow.fors {w : World} {b n : Nat} {g : Nat → FL} (h : ForRow w b n g) : ForsIs w (.slice (some ⟨b, 0, none⟩) n n) n g := ⟨b, rfl, fun k hk => by
  obtain ⟨u, h1, _, h2⟩ := h.cell hk
  exact ⟨u, h1, h2.list⟩⟩
theorem ForsIs.grown {w w' : World} {v : Value} {n : Nat} {g : Nat → FL} (h : ForsIs w v n g) (hg : w.grownBy w' none) : ForsIs w' v n g := by
  obtain ⟨b, rfl, h⟩ := h
  refine ⟨b, rfl, fun k hk => ?_⟩
  obtain ⟨u, h1, h2⟩ := h k hk
  exact ⟨u, hg.cell h1 (by simp), h2.grown hg⟩
theorem infoTs : (Try.prog.info? 35).map (fun i => (i.zero, i.size, i.bytes)) = some (some (.slice none 0 0), 1, 24) := by kernel_rfl
/-- make([][]api.Tenant, n). -/
theorem make_fors (W : World) (n : Nat) (hn : n ≤ 1000000) : (Instr.makeSlice 73 (.int .i64 (n : Int)) (.int .i64 (n : Int))).run Try.prog W = .ok (.slice (some ⟨W.heap.size, 0, none⟩) n n) (W.alloc (.cells (madeCells (Value.slice none 0 0).cells (n * 1)) 35)) := by
  obtain ⟨i0, hi, hz0, hz1, hz2⟩ := info_parts infoTs
  have h := run_make (P := Try.prog) W 73 35 i0 (.slice none 0 0) Try.underlying73 hi hz0 .i64 .i64 (n : Int) (n : Int) (by omega) (Int.le_refl _) (by rw [hz2]; omega) (by omega)
  rw [h, hz1, Int.toNat_natCast]
theorem madeFors_get (n k : Nat) (h : k < n) : (madeCells (Value.slice none 0 0).cells (n * 1))[k]? = some (.slice none 0 0) := by
  rw [Array.getElem?_eq_getElem (by simp [size_madeCells]; omega)]
  simp [madeCells, Value.cells, Nat.mod_one]
theorem forRow_new (W : World) (n : Nat) {g : Nat → FL} (hg : ∀ k, k < n → g k = []) : ForRow (W.alloc (.cells (madeCells (Value.slice none 0 0).cells (n * 1)) 35)) W.heap.size n g :=
  ⟨_, heap_alloc_new _ _, by simp [size_madeCells], fun k hk => ⟨_, madeFors_get n k hk, by rw [hg k hk]; exact ownT_nil _ _⟩⟩
theorem ints_nil (w : World) : IntsIs w (.slice none 0 0) [] := ⟨none, 0, rfl, Nat.le_refl _, .inl rfl⟩
end Go.Proofs.Ytpmfbfflacbmjac
