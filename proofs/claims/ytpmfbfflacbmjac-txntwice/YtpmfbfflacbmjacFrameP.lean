/-
  What a row's proof opens with where pairs came in: lists of structs of two slices of bytes, and such structs.
-/
import Derived.Test.YtpmfbfflacbmjacFrameB
import Derived.Test.YtpmfbfflacbmjacPairM0
import Derived.Test.YtpmfbfflacbmjacPart1
import Derived.Deep.SlicePairs
import Derived.Lib.SmallJoins
namespace Go.Proofs.Ytpmfbfflacbmjac
open Go.ChangeShapes Go.WideShapes Go.ChangeAt Go.RowKit Go.Deep Go.Joins
theorem cells8 : Try.prog.cellsOf 38 = 1 := by kernel_rfl
theorem cellsB : Try.prog.cellsOf 5 = 1 := by kernel_rfl
/-- A slice of bytes that came in, within something else. -/
theorem part_open {H : Type} {enc : TypeId × Value → H} {W : World} {hd : Bool} {fuel : Nat} {V : Value} {x : DataW H × List MemPlace} (hf : DataW.trod enc Try.prog W 0 (fun _ => true) hd fuel 38 [V] = some x) :
    ∃ bs, SliceIs W V bs ∧ (bs = [] ∨ ∃ n ∈ x.1.weights Try.prog 38, bs.length ≤ n) := by
  rcases open_ints Try.underlying38 Try.underlying5 cellsB hf with ⟨hcs, _⟩ | ⟨a, l, c, zs, hcs, _, hl, hm, hz, hx, hcell, hwz⟩
  · simp at hcs
    subst hcs
    exact ⟨[], sliceIs_nil W, .inl rfl⟩
  · simp at hcs
    subst hcs
    have hz' : zs.length = c := by simpa using hz
    obtain ⟨bs, hbl, hm', hsl⟩ := isRow_slice (w := W) (a := some a) (len := l) (cap := c) (zs := zs) (.inr ⟨a, rfl, hl, hm, hz', hcell, hwz⟩)
    refine ⟨bs, hsl, .inr ⟨c, ?_, by omega⟩⟩
    rw [hx]
    simp only [DataW.weights, Try.underlying38, List.mem_cons]
    left
    simp only [lits, List.length_map, List.length_take, List.length_drop, bytes5]
    omega
theorem weightsAll_mem {H : Type} {P : Program} {e : TypeId} : ∀ {l : List (DataW H)} {d : DataW H} {n : Nat}, d ∈ l → n ∈ d.weights P e → n ∈ DataW.weightsAll P e l
  | d0 :: r, d, n, hd, hn => by
    simp only [DataW.weightsAll, List.mem_append]
    rcases List.mem_cons.1 hd with rfl | hd
    · exact .inl hn
    · exact .inr (weightsAll_mem hd hn)
set_option maxRecDepth 100000 in
/-- A list of structs of two slices of bytes that came in. -/
theorem pairs_open {H : Type} {enc : TypeId × Value → H} {W : World} {hd : Bool} {fuel : Nat} {a : Option Addr} {n cap : Nat} {x : DataW H × List MemPlace} {t e : TypeId} {f0 f1 : Field} (ht : Try.prog.underlying t = some (.slice e)) (he : Try.prog.underlying e = some (.struct #[f0, f1]))
    (ce : Try.prog.cellsOf e = 2) (be : Try.prog.bytesOf e = 48) (o0 : f0.offset = 0) (o1 : f1.offset = 1) (t0 : f0.type = 38) (t1 : f1.type = 38)
    (h : DataW.trod enc Try.prog W 0 (fun _ => true) hd fuel t [.slice a n cap] = some x) :
    ∃ l : PL, PairsIs W (.slice a n cap) l ∧ n = l.length ∧ ∀ B, (∀ m ∈ x.1.weights Try.prog t, m ≤ B) → l.length * 48 ≤ B ∧ ∀ i, i < l.length → (l.getD i ([], [])).1.length ≤ B ∧ (l.getD i ([], [])).2.length ≤ B := by
  rcases open_slice_pairs ht he ce o0 o1 (by rw [t0]; exact cells8) (by rw [t1]; exact cells8) h with ⟨hcs, _⟩ | ⟨y, l, c, m, nn, V0, V1, D0, D1, P0, P1, hcs, _, hl, hm, hmm, hx, hcell⟩
  · simp at hcs
    obtain ⟨rfl, rfl, rfl⟩ := hcs
    exact ⟨[], pairsIs_nil W, rfl, fun B _ => ⟨by simp, by simp⟩⟩
  · simp at hcs
    obtain ⟨rfl, rfl, rfl⟩ := hcs
    have hmc : m = cap := by simpa using hmm
    subst hmc
    have each : ∀ i, i < n → ∃ p : Pr, SliceIs W (V0 i) p.1 ∧ SliceIs W (V1 i) p.2 ∧ (p.1 = [] ∨ ∃ q ∈ (D0 i).weights Try.prog 38, p.1.length ≤ q) ∧ (p.2 = [] ∨ ∃ q ∈ (D1 i).weights Try.prog 38, p.2.length ≤ q) := by
      intro i hi
      obtain ⟨_, _, h0, h1⟩ := hcell i (by omega)
      rw [t0] at h0
      rw [t1] at h1
      obtain ⟨b0, s0, w0⟩ := part_open h0
      obtain ⟨b1, s1, w1⟩ := part_open h1
      exact ⟨(b0, b1), s0, s1, w0, w1⟩
    obtain ⟨f, hf⟩ := choose_lt each
    have hlen : ((List.range n).map f).length = n := by simp
    have hget : ∀ i, i < n → ((List.range n).map f).getD i ([], []) = f i := by
      intro i hi
      simp [hi]
    refine ⟨(List.range n).map f, ⟨_, m, by rw [hlen], by omega, ?_⟩, hlen.symm, ?_⟩
    · by_cases h0 : n = 0
      · left; subst h0; exact ⟨rfl, fun h => by cases h⟩
      · right
        obtain ⟨b, o, sp⟩ := y
        have h00 := (hcell 0 (by omega)).1
        obtain rfl : sp = none := by
          cases sp with
          | none => rfl
          | some q =>
            simp [Addr.add, World.cell?] at h00
            split at h00 <;> simp at h00
        refine ⟨b, o, rfl, fun i hi => ?_⟩
        rw [hlen] at hi
        obtain ⟨g0, g1, _, _⟩ := hcell i (by omega)
        rw [addr_add] at g0 g1
        rw [hget i hi]
        exact ⟨V0 i, V1 i, g0, g1, (hf i hi).1, (hf i hi).2.1⟩
    · intro B hB
      rw [hlen]
      rw [hx] at hB
      simp only [DataW.weights, ht, List.mem_cons, List.mem_append] at hB
      constructor
      · have := hB _ (.inl rfl)
        simp only [List.length_map, List.length_range, be] at this
        omega
      · intro i hi
        rw [hget i hi]
        obtain ⟨_, _, q0, q1⟩ := hf i hi
        have key : ∀ d q, (d = D0 i ∨ d = D1 i) → q ∈ d.weights Try.prog 38 → q ≤ B := by
          intro d q hd hq
          refine hB q (.inr (.inl (weightsAll_mem (d := .agg [D0 i, D1 i]) (List.mem_map.2 ⟨i, List.mem_range.2 hi, rfl⟩) ?_)))
          simp only [DataW.weights, he, DataW.weightsEach, List.map_cons, List.map_nil, t0, t1, List.mem_append]
          rcases hd with rfl | rfl
          · exact .inl hq
          · exact .inr (.inl hq)
        constructor
        · rcases q0 with q0 | ⟨q, hq, hle⟩
          · rw [q0]; simp
          · exact Nat.le_trans hle (key _ q (.inl rfl) hq)
        · rcases q1 with q1 | ⟨q, hq, hle⟩
          · rw [q1]; simp
          · exact Nat.le_trans hle (key _ q (.inr rfl) hq)
set_option maxRecDepth 100000 in
/-- A struct of two slices of bytes that came in. -/
theorem pair_open {H : Type} {enc : TypeId × Value → H} {W : World} {hd : Bool} {r : Reach} {b0 : Nat} {v : Value} {d : DataW H} {p : List MemPlace} {t : TypeId} {f0 f1 : Field} (hs : Try.prog.underlying t = some (.struct #[f0, f1])) (hone : oneCellFields Try.prog #[f0, f1] = true) (hC : Try.prog.cellsOf t = 2) (t0 : f0.type = 38) (t1 : f1.type = 38)
    (hv : Value.okWide Try.prog W r b0 t v) (h : DataW.Trod enc Try.prog W 0 (fun _ => true) hd t v d p) :
    ∃ q : Pr, PairIs W v q ∧ ∀ B, (∀ m ∈ d.weights Try.prog t, m ≤ B) → q.1.length ≤ B ∧ q.2.length ≤ B := by
  obtain ⟨v0, v1, y0, y1, n, rfl, rfl, rfl, h0, h1⟩ := open_agg2 hs hone hC hv h
  rw [t0] at h0
  rw [t1] at h1
  obtain ⟨c0, s0, w0⟩ := part_open h0
  obtain ⟨c1, s1, w1⟩ := part_open h1
  refine ⟨(c0, c1), ⟨v0, v1, rfl, s0, s1⟩, fun B hB => ?_⟩
  simp only [DataW.weights, hs, DataW.weightsEach, List.map_cons, List.map_nil, t0, t1, List.mem_append] at hB
  constructor
  · rcases w0 with w0 | ⟨q, hq, hle⟩
    · rw [w0]; simp
    · exact Nat.le_trans hle (hB q (.inl hq))
  · rcases w1 with w1 | ⟨q, hq, hle⟩
    · rw [w1]; simp
    · exact Nat.le_trans hle (hB q (.inr (.inl hq)))
/-- What the reach says of an argument. -/
theorem reach_arg {H : Type} {ts : List TypeId} {ds : List (DataW H)} {j : Nat} {t : TypeId} {d : DataW H} (hsz : (DataW.weightsEach Try.prog ts ds).all (· ≤ reachBytes) = true) (ht : ts[j]? = some t) (hd : ds[j]? = some d) : ∀ m ∈ d.weights Try.prog t, m ≤ 140737488351232 := by
  intro m hm
  have := List.all_eq_true.1 hsz m (DataW.weights_mem_each ht hd m hm)
  have h2 : m ≤ reachBytes := of_decide_eq_true this
  unfold reachBytes at h2
  exact h2
theorem fits_of {l : PL} (h : l.length * 48 ≤ 140737488351232 ∧ ∀ i, i < l.length → (l.getD i ([], [])).1.length ≤ 140737488351232 ∧ (l.getD i ([], [])).2.length ≤ 140737488351232) : Fits l :=
  ⟨by omega, fun i hi => by have := h.2 i hi; omega⟩
end Go.Proofs.Ytpmfbfflacbmjac
