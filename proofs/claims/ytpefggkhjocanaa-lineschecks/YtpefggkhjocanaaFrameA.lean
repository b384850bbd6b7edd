/-
  What a row's proof opens with where an act came in.
-/
import Derived.Test.YtpefggkhjocanaaFrameB
import Derived.Test.YtpefggkhjocanaaAcM0
import Derived.Deep.SlicePairs
import Derived.Lib.SmallJoins
namespace Go.Proofs.Ytpefggkhjocanaa
open Go.ChangeShapes Go.WideShapes Go.ChangeAt Go.RowKit Go.Deep Go.Joins
theorem cells8 : Try.prog.cellsOf 22 = 1 := by kernel_rfl
theorem cellsB : Try.prog.cellsOf 5 = 1 := by kernel_rfl
theorem cells3 : Try.prog.cellsOf 3 = 1 := by kernel_rfl
theorem part_open {H : Type} {enc : TypeId × Value → H} {W : World} {hd : Bool} {fuel : Nat} {V : Value} {x : DataW H × List MemPlace} (hf : DataW.trod enc Try.prog W 0 (fun _ => true) hd fuel 22 [V] = some x) :
    ∃ bs, SliceIs W V bs ∧ (bs = [] ∨ ∃ n ∈ x.1.weights Try.prog 22, bs.length ≤ n) := by
  rcases open_ints Try.underlying22 Try.underlying5 cellsB hf with ⟨hcs, _⟩ | ⟨a, l, c, zs, hcs, _, hl, hm, hz, hx, hcell, hwz⟩
  · simp at hcs
    subst hcs
    exact ⟨[], sliceIs_nil W, .inl rfl⟩
  · simp at hcs
    subst hcs
    have hz' : zs.length = c := by simpa using hz
    obtain ⟨bs, hbl, hm', hsl⟩ := isRow_slice (w := W) (a := some a) (len := l) (cap := c) (zs := zs) (.inr ⟨a, rfl, hl, hm, hz', hcell, hwz⟩)
    refine ⟨bs, hsl, .inr ⟨c, ?_, by omega⟩⟩
    rw [hx]
    simp only [DataW.weights, Try.underlying22, List.mem_cons]
    left
    simp only [lits, List.length_map, List.length_take, List.length_drop, bytes5]
    omega
theorem weightsAll_mem {H : Type} {P : Program} {e : TypeId} : ∀ {l : List (DataW H)} {d : DataW H} {n : Nat}, d ∈ l → n ∈ d.weights P e → n ∈ DataW.weightsAll P e l
  | d0 :: r, d, n, hd, hn => by
    simp only [DataW.weightsAll, List.mem_append]
    rcases List.mem_cons.1 hd with rfl | hd
    · exact .inl hn
    · exact .inr (weightsAll_mem hd hn)
theorem reach_arg {H : Type} {ts : List TypeId} {ds : List (DataW H)} {j : Nat} {t : TypeId} {d : DataW H} (hsz : (DataW.weightsEach Try.prog ts ds).all (· ≤ reachBytes) = true) (ht : ts[j]? = some t) (hd : ds[j]? = some d) : ∀ m ∈ d.weights Try.prog t, m ≤ 140737488351232 := by
  intro m hm
  have := List.all_eq_true.1 hsz m (DataW.weights_mem_each ht hd m hm)
  have h2 : m ≤ reachBytes := of_decide_eq_true this
  unfold reachBytes at h2
  exact h2
theorem array4 {α : Type} {cs : Array α} (h : cs.size = 4) : ∃ c0 c1 c2 c3, cs = #[c0, c1, c2, c3] := by
  obtain ⟨l⟩ := cs
  match l, h with
  | [c0, c1, c2, c3], _ => exact ⟨c0, c1, c2, c3, rfl⟩
set_option maxRecDepth 100000 in
/-- An act that came in. -/
theorem act_open {H : Type} {enc : TypeId × Value → H} {W : World} {hd : Bool} {r : Reach} {b0 : Nat} {v : Value} {d : DataW H} {p : List MemPlace} {t : TypeId} {f0 f1 f2 f3 : Field} (hs : Try.prog.underlying t = some (.struct #[f0, f1, f2, f3])) (hone : oneCellFields Try.prog #[f0, f1, f2, f3] = true) (hC : Try.prog.cellsOf t = 4) (t0 : f0.type = 3) (t1 : f1.type = 3) (t2 : f2.type = 3) (t3 : f3.type = 22)
    (hv : Value.okWide Try.prog W r b0 t v) (h : DataW.Trod enc Try.prog W 0 (fun _ => true) hd t v d p) (hB : ∀ m ∈ d.weights Try.prog t, m ≤ 140737488351232) :
    ∃ q : Ac, AcIs W v q ∧ AcFits q := by
  obtain ⟨cs, rfl, hsz⟩ := okWide_struct hs hv
  obtain ⟨v0, v1, v2, v3, rfl⟩ := array4 (hsz.trans hC)
  obtain ⟨fuel, hf⟩ := h
  obtain ⟨xs, n, _, hx, hl, hlen, hff⟩ := DataW.trod_struct hs hf
  obtain ⟨o0, k0⟩ := hone_of hone 0 f0 rfl
  obtain ⟨o1, k1⟩ := hone_of hone 1 f1 rfl
  obtain ⟨o2, k2⟩ := hone_of hone 2 f2 rfl
  obtain ⟨o3, k3⟩ := hone_of hone 3 f3 rfl
  match xs, hlen with
  | [y0, y1, y2, y3], _ =>
    have h0 := hff 0 f0 rfl
    have h1 := hff 1 f1 rfl
    have h2 := hff 2 f2 rfl
    have h3 := hff 3 f3 rfl
    simp only [Prod.mk.injEq] at hx
    have g0 : DataW.trod enc Try.prog W 0 (fun _ => true) hd n f0.type [v0] = some y0 := by simpa [Value.cells, o0, k0] using h0
    have g1 : DataW.trod enc Try.prog W 0 (fun _ => true) hd n f1.type [v1] = some y1 := by simpa [Value.cells, o1, k1] using h1
    have g2 : DataW.trod enc Try.prog W 0 (fun _ => true) hd n f2.type [v2] = some y2 := by simpa [Value.cells, o2, k2] using h2
    have g3 : DataW.trod enc Try.prog W 0 (fun _ => true) hd n f3.type [v3] = some y3 := by simpa [Value.cells, o3, k3] using h3
    rw [t0] at g0
    rw [t1] at g1
    rw [t2] at g2
    rw [t3] at g3
    obtain ⟨z0, e0, _, w0⟩ := DataW.trod_int Try.underlying3 g0
    obtain ⟨z1, e1, _, w1⟩ := DataW.trod_int Try.underlying3 g1
    obtain ⟨z2, e2, _, w2⟩ := DataW.trod_int Try.underlying3 g2
    simp at e0 e1 e2
    subst e0 e1 e2
    obtain ⟨c, sc, wc⟩ := part_open g3
    have hd' : d = .agg [y0.1, y1.1, y2.1, y3.1] := by simpa using hx.1
    rw [hd'] at hB
    simp only [DataW.weights, hs, DataW.weightsEach, List.map_cons, List.map_nil, t0, t1, t2, t3, List.mem_append] at hB
    have L : c.length ≤ 140737488351232 := by
      rcases wc with wc | ⟨q, hq, hle⟩
      · rw [wc]; simp
      · exact Nat.le_trans hle (hB q (.inr (.inr (.inr (.inl hq)))))
    exact ⟨⟨z0, z1, z2, c⟩, ⟨v3, rfl, sc⟩, ⟨int_bounds w0, int_bounds w1, int_bounds w2, by show c.length ≤ _; omega⟩⟩
end Go.Proofs.Ytpefggkhjocanaa
