/-
  What a row's proof opens with where a request (or canopykeep's Call) came in; the table of a request's parts; a world for the witness.
-/
import Derived.Test.YtghjikifflpeiabDoorCards
import Derived.Test.YtghjikifflpeiabDoorTie
import Derived.Test.YtghjikifflpeiabDoorFrameB
import Derived.Test.YtghjikifflpeiabDoorRqBox
import Derived.Lib.LaidTab
import Derived.Deep.SlicePairs
import Derived.Lib.SmallJoins
namespace Go.Proofs.YtghjikifflpeiabDoor
open Go.ChangeShapes Go.WideShapes Go.ChangeAt Go.RowKit Go.Deep Go.Joins
theorem cellsBR : Tryd.prog.cellsOf 5 = 1 := by kernel_rfl
theorem rpart_open {H : Type} {enc : TypeId × Value → H} {W : World} {hd : Bool} {fuel : Nat} {V : Value} {x : DataW H × List MemPlace} (hf : DataW.trod enc Tryd.prog W 0 (fun _ => true) hd fuel 22 [V] = some x) :
    ∃ bs, SliceIs W V bs ∧ (bs = [] ∨ ∃ n ∈ x.1.weights Tryd.prog 22, bs.length ≤ n) := by
  rcases open_ints Tryd.underlying22 Tryd.underlying5 cellsBR hf with ⟨hcs, _⟩ | ⟨a, l, c, zs, hcs, _, hl, hm, hz, hx, hcell, hwz⟩
  · simp at hcs
    subst hcs
    exact ⟨[], sliceIs_nil W, .inl rfl⟩
  · simp at hcs
    subst hcs
    have hz' : zs.length = c := by simpa using hz
    obtain ⟨bs, hbl, hm', hsl⟩ := isRow_slice (w := W) (a := some a) (len := l) (cap := c) (zs := zs) (.inr ⟨a, rfl, hl, hm, hz', hcell, hwz⟩)
    refine ⟨bs, hsl, .inr ⟨c, ?_, by omega⟩⟩
    rw [hx]
    simp only [DataW.weights, Tryd.underlying22, List.mem_cons]
    left
    simp only [lits, List.length_map, List.length_take, List.length_drop, bytes5]
    omega
theorem array5 {α : Type} {cs : Array α} (h : cs.size = 5) : ∃ c0 c1 c2 c3 c4, cs = #[c0, c1, c2, c3, c4] := by
  obtain ⟨l⟩ := cs
  match l, h with
  | [c0, c1, c2, c3, c4], _ => exact ⟨c0, c1, c2, c3, c4, rfl⟩
theorem open_agg5 {H : Type} {enc : TypeId × Value → H} {P : Program} {w : World} {base : Nat} {spare : Nat → Bool} {held : Bool} {r : Reach} {b0 : Nat} {t : TypeId} {f0 f1 f2 f3 f4 : Field} {v : Value} {d : DataW H} {p : List MemPlace} (hs : P.underlying t = some (.struct #[f0, f1, f2, f3, f4])) (hone : oneCellFields P #[f0, f1, f2, f3, f4] = true) (hC : P.cellsOf t = 5)
    (hv : Value.okWide P w r b0 t v) (h : DataW.Trod enc P w base spare held t v d p) :
    ∃ (v0 v1 v2 v3 v4 : Value) (y0 y1 y2 y3 y4 : DataW H × List MemPlace) (n : Nat), v = .agg #[v0, v1, v2, v3, v4] ∧ d = .agg [y0.1, y1.1, y2.1, y3.1, y4.1] ∧
      DataW.trod enc P w base spare held n f0.type [v0] = some y0 ∧ DataW.trod enc P w base spare held n f1.type [v1] = some y1 ∧ DataW.trod enc P w base spare held n f2.type [v2] = some y2 ∧ DataW.trod enc P w base spare held n f3.type [v3] = some y3 ∧ DataW.trod enc P w base spare held n f4.type [v4] = some y4 := by
  obtain ⟨cs, rfl, hsz⟩ := okWide_struct hs hv
  obtain ⟨c0, c1, c2, c3, c4, rfl⟩ := array5 (hsz.trans hC)
  obtain ⟨fuel, hf⟩ := h
  obtain ⟨xs, n, _, hx, hl, hlen, hff⟩ := DataW.trod_struct hs hf
  obtain ⟨o0, k0⟩ := hone_of hone 0 f0 rfl
  obtain ⟨o1, k1⟩ := hone_of hone 1 f1 rfl
  obtain ⟨o2, k2⟩ := hone_of hone 2 f2 rfl
  obtain ⟨o3, k3⟩ := hone_of hone 3 f3 rfl
  obtain ⟨o4, k4⟩ := hone_of hone 4 f4 rfl
  match xs, hlen with
  | [y0, y1, y2, y3, y4], _ =>
    have h0 := hff 0 f0 rfl
    have h1 := hff 1 f1 rfl
    have h2 := hff 2 f2 rfl
    have h3 := hff 3 f3 rfl
    have h4 := hff 4 f4 rfl
    simp only [Prod.mk.injEq] at hx
    exact ⟨c0, c1, c2, c3, c4, y0, y1, y2, y3, y4, n, rfl, by simpa using hx.1, by simpa [Value.cells, o0, k0] using h0, by simpa [Value.cells, o1, k1] using h1, by simpa [Value.cells, o2, k2] using h2, by simpa [Value.cells, o3, k3] using h3, by simpa [Value.cells, o4, k4] using h4⟩
set_option maxRecDepth 100000 in
/-- A request that came in. -/
theorem request_open {H : Type} {enc : TypeId × Value → H} {W : World} {hd : Bool} {r : Reach} {b0 : Nat} {v : Value} {d : DataW H} {p : List MemPlace} {t : TypeId} {f0 f1 f2 f3 f4 : Field} (hs : Tryd.prog.underlying t = some (.struct #[f0, f1, f2, f3, f4])) (hone : oneCellFields Tryd.prog #[f0, f1, f2, f3, f4] = true) (hC : Tryd.prog.cellsOf t = 5) (t0 : f0.type = 3) (t1 : f1.type = 22) (t2 : f2.type = 22) (t3 : f3.type = 22) (t4 : f4.type = 22)
    (hv : Value.okWide Tryd.prog W r b0 t v) (h : DataW.Trod enc Tryd.prog W 0 (fun _ => true) hd t v d p) (hB : ∀ m ∈ d.weights Tryd.prog t, m ≤ 140737488351232) :
    ∃ q : Rq, RqIs W v q ∧ RqFits q := by
  obtain ⟨v0, v1, v2, v3, v4, y0, y1, y2, y3, y4, n, rfl, rfl, h0, h1, h2, h3, h4⟩ := open_agg5 hs hone hC hv h
  rw [t0] at h0
  rw [t1] at h1
  rw [t2] at h2
  rw [t3] at h3
  rw [t4] at h4
  obtain ⟨z, hz, hy0, hwf⟩ := DataW.trod_int Tryd.underlying3 h0
  simp at hz
  subst hz
  obtain ⟨c1, s1, w1⟩ := rpart_open h1
  obtain ⟨c2, s2, w2⟩ := rpart_open h2
  obtain ⟨c3, s3, w3⟩ := rpart_open h3
  obtain ⟨c4, s4, w4⟩ := rpart_open h4
  simp only [DataW.weights, hs, DataW.weightsEach, List.map_cons, List.map_nil, t0, t1, t2, t3, t4, List.mem_append] at hB
  have L1 : c1.length ≤ 140737488351232 := by
    rcases w1 with w1 | ⟨q, hq, hle⟩
    · rw [w1]; simp
    · exact Nat.le_trans hle (hB q (.inr (.inl hq)))
  have L2 : c2.length ≤ 140737488351232 := by
    rcases w2 with w2 | ⟨q, hq, hle⟩
    · rw [w2]; simp
    · exact Nat.le_trans hle (hB q (.inr (.inr (.inl hq))))
  have L3 : c3.length ≤ 140737488351232 := by
    rcases w3 with w3 | ⟨q, hq, hle⟩
    · rw [w3]; simp
    · exact Nat.le_trans hle (hB q (.inr (.inr (.inr (.inl hq)))))
  have L4 : c4.length ≤ 140737488351232 := by
    rcases w4 with w4 | ⟨q, hq, hle⟩
    · rw [w4]; simp
    · exact Nat.le_trans hle (hB q (.inr (.inr (.inr (.inr (.inl hq))))))
  exact ⟨⟨z, c1, c2, c3, c4⟩, ⟨v1, v2, v3, v4, rfl, s1, s2, s3, s4⟩, ⟨int_bounds hwf, by show c1.length ≤ _; omega, by show c2.length ≤ _; omega, by show c3.length ≤ _; omega, by show c4.length ≤ _; omega⟩⟩
theorem reach_arg {H : Type} {ts : List TypeId} {ds : List (DataW H)} {j : Nat} {t : TypeId} {d : DataW H} (hsz : (DataW.weightsEach Tryd.prog ts ds).all (· ≤ reachBytes) = true) (ht : ts[j]? = some t) (hd : ds[j]? = some d) : ∀ m ∈ d.weights Tryd.prog t, m ≤ 140737488351232 := by
  intro m hm
  have := List.all_eq_true.1 hsz m (DataW.weights_mem_each ht hd m hm)
  have h2 : m ≤ reachBytes := of_decide_eq_true this
  unfold reachBytes at h2
  exact h2
def partsZ : List Int := [0, 0, 3, 7, 11, 3, 0, 0, 3]
def laidL : List (String × DataW Unit) := [("canopy/wire.parts", Lib.tabData .u8 partsZ)]
theorem g0 : Tryd.prog.globalNamed "canopy/wire.parts" = some 0 := by kernel_rfl
theorem gt0 : (Tryd.prog.globals[0]?).map (·.type) = some 56 := by kernel_rfl
theorem cells65 : Tryd.prog.cellsOf 56 = 9 := by kernel_rfl
theorem parts_eq (i : Nat) (h : i < 9) : partsZ.getD i 0 = ((partN i : Nat) : Int) := (by decide +kernel : ∀ i : Fin 9, partsZ.getD i.1 0 = ((partN i.1 : Nat) : Int)) ⟨i, h⟩
/-- What the rows' list gives: the table. -/
theorem tabs_of {W : World} (h : laidMet Tryd.prog laidL W) : PrtT W := by
  obtain ⟨ps, ⟨a1, b1, cs1, f1, p1, q1, hg1, ht1, hv1, hd1, _, _⟩, _⟩ := h
  obtain rfl := Option.some.inj (g0.symm.trans hg1)
  obtain rfl := Option.some.inj (gt0.symm.trans ht1)
  have t0 : Lib.TabIs Tryd.prog W "canopy/wire.parts" .u8 partsZ := by
    unfold Lib.TabIs; rw [hv1, ← Lib.cells_of_tab Tryd.underlying56 Tryd.underlying5 cellsBR cells65 hd1]
  intro i hi
  rw [t0.cell g0 i hi, parts_eq i hi]
def layTab (cs : Array Value) : Obj → Obj
  | .cells _ t frozen => .cells cs t frozen
  | o => o
/-- A world for the witness: the table as its initialiser lays it. -/
def laidWorld (W : World) : World :=
  { W with heap := W.heap.modify 0 (layTab (partsZ.map fun z => Value.int .u8 z).toArray) }
end Go.Proofs.YtghjikifflpeiabDoor
