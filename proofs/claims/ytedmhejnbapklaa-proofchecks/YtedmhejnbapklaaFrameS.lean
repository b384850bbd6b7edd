/-
  What a row's proof opens with where a proof came in: a struct of a bool, a list of steps and a pair.
-/
import Derived.Test.YtedmhejnbapklaaFrameP
import Derived.Test.YtedmhejnbapklaaStepMem
namespace Go.Proofs.Ytedmhejnbapklaa
open Go.ChangeShapes Go.WideShapes Go.ChangeAt Go.RowKit Go.Deep Go.Joins
instance : Inhabited Stp := ⟨noStp⟩
instance {H : Type} : Inhabited (DataW H) := ⟨.nil⟩
theorem cellsT : Try.prog.cellsOf 4 = 1 := by kernel_rfl
theorem cellsI : Try.prog.cellsOf 3 = 1 := by kernel_rfl
theorem bitWf {n : Int} (h : (Lit.int .i64 n).wf = true) : -9223372036854775808 ≤ n ∧ n ≤ 9223372036854775807 := int_bounds h
set_option maxRecDepth 100000 in
/-- A list of steps that came in. -/
theorem steps_open {H : Type} {enc : TypeId × Value → H} {W : World} {hd : Bool} {fuel : Nat} {v : Value} {x : DataW H × List MemPlace} {t e : TypeId} {f0 f1 f2 : Field} (ht : Try.prog.underlying t = some (.slice e)) (he : Try.prog.underlying e = some (.struct #[f0, f1, f2]))
    (ce : Try.prog.cellsOf e = 3) (be : Try.prog.bytesOf e = 40) (o0 : f0.offset = 0) (o1 : f1.offset = 1) (o2 : f2.offset = 2) (t0 : f0.type = 3) (t1 : f1.type = 4) (t2 : f2.type = 22)
    (h : DataW.trod enc Try.prog W 0 (fun _ => true) hd fuel t [v] = some x) :
    ∃ l : List Stp, StepsIs W v l ∧ (∀ i, i < l.length → -9223372036854775808 ≤ (l.getD i noStp).bit ∧ (l.getD i noStp).bit ≤ 9223372036854775807) ∧ ∀ B, (∀ m ∈ x.1.weights Try.prog t, m ≤ B) → l.length * 40 ≤ B ∧ ∀ i, i < l.length → (l.getD i noStp).other.length ≤ B := by
  rcases open_slice ht h with ⟨hcs, _⟩ | ⟨y, n, c, m, k, D, Pl, hcs, hb, hl, hm, hmm, hx, hcell⟩
  · simp at hcs
    subst hcs
    exact ⟨[], stepsIs_nil W, by simp, fun B _ => ⟨by simp, by simp⟩⟩
  · simp at hcs
    subst hcs
    have hmc : m = c := by simpa using hmm
    subst hmc
    have each : ∀ i, i < m → ∃ q : Stp × Value × DataW H, W.cell? (y.add (i * 3)) = some (.int .i64 q.1.bit) ∧ W.cell? (y.add (i * 3 + 1)) = some (.bool q.1.right) ∧ W.cell? (y.add (i * 3 + 2)) = some q.2.1 ∧
        SliceIs W q.2.1 q.1.other ∧ (∃ d0 d1, D i = .agg [d0, d1, q.2.2]) ∧ (-9223372036854775808 ≤ q.1.bit ∧ q.1.bit ≤ 9223372036854775807) ∧
        (q.1.other = [] ∨ ∃ z ∈ q.2.2.weights Try.prog 22, q.1.other.length ≤ z) := by
      intro i hi
      obtain ⟨cs', g1, g2⟩ := hcell i hi
      rw [ce] at g1
      obtain ⟨_, hlen, hcc⟩ := World.cells?_some g1
      obtain ⟨xs, k', hk, hxy, _, hxl, hf⟩ := DataW.trod_struct he g2
      match xs, hxl, cs', hlen with
      | [y0, y1, y2], _, [v0, v1, v2], _ =>
        have s0 := hf 0 f0 rfl
        have s1 := hf 1 f1 rfl
        have s2 := hf 2 f2 rfl
        rw [t0] at s0
        rw [t1] at s1
        rw [t2] at s2
        simp [o0, o1, o2, cells8, cellsT, cellsI] at s0 s1 s2
        have e0 := hcc 0 (by omega)
        have e1 := hcc 1 (by omega)
        have e2 := hcc 2 (by omega)
        rw [add_add] at e0 e1 e2
        obtain ⟨bi, hiv, hy0, hwf⟩ := DataW.trod_int Try.underlying3 s0
        obtain ⟨bb, hbv, hy1⟩ := DataW.trod_bool Try.underlying4 s1
        obtain ⟨b2, z2, w2⟩ := part_open s2
        simp at hbv hiv
        subst hbv hy1 hiv hy0
        simp only [Prod.mk.injEq] at hxy
        exact ⟨(⟨bi, bb, b2⟩, v2, y2.1), by simpa using e0, by simpa using e1, by simpa using e2, z2, ⟨_, _, by simpa using hxy.1⟩, bitWf hwf, w2⟩
    obtain ⟨q, hq⟩ := choose_lt each
    have hlen : ((List.range n).map fun i => (q i).1).length = n := by simp
    have hget : ∀ i, i < n → ((List.range n).map fun i => (q i).1).getD i noStp = (q i).1 := by
      intro i hi
      simp [hi]
    refine ⟨(List.range n).map fun i => (q i).1, ⟨_, m, by rw [hlen], by omega, ?_⟩, ?_, ?_⟩
    · by_cases h0 : n = 0
      · left; subst h0; exact ⟨rfl, fun h => by cases h⟩
      · right
        obtain ⟨b, o, sp⟩ := y
        have h00 := (hq 0 (by omega)).1
        obtain rfl : sp = none := by
          cases sp with
          | none => rfl
          | some z =>
            simp [Addr.add, World.cell?] at h00
            split at h00 <;> simp at h00
        refine ⟨b, o, rfl, fun i hi => ?_⟩
        rw [hlen] at hi
        obtain ⟨g0, g1, g2, z2, _⟩ := hq i (by omega)
        rw [addr_add] at g0 g1 g2
        rw [hget i hi]
        exact ⟨_, g0, g1, g2, z2⟩
    · intro i hi
      rw [hlen] at hi
      rw [hget i hi]
      exact (hq i (by omega)).2.2.2.2.2.1
    · intro B hB
      rw [hlen]
      rw [hx] at hB
      simp only [DataW.weights, ht, List.mem_cons, List.mem_append] at hB
      constructor
      · have := hB _ (.inl rfl)
        simp only [List.length_map, List.length_range, be] at this
        omega
      · intro i hi
        rw [hget i hi]
        obtain ⟨_, _, _, _, ⟨d0, d1, hD⟩, _, q2⟩ := hq i (by omega)
        rcases q2 with q2 | ⟨z, hz, hle⟩
        · rw [q2]; simp
        · refine Nat.le_trans hle (hB z (.inr (.inl (weightsAll_mem (d := D i) (List.mem_map.2 ⟨i, List.mem_range.2 hi, rfl⟩) ?_))))
          rw [hD]
          simp only [DataW.weights, he, DataW.weightsEach, List.map_cons, List.map_nil, t0, t1, t2, List.mem_append]
          exact .inr (.inr (.inl hz))
set_option maxRecDepth 100000 in
/-- A proof that came in. -/
theorem proof_open {H : Type} {enc : TypeId × Value → H} {W : World} {hd : Bool} {r : Reach} {b0 : Nat} {v : Value} {d : DataW H} {p : List MemPlace} {t : TypeId} {f0 f1 f2 g0 g1 s0 s1 s2 : Field} {ts e tp : TypeId}
    (hs : Try.prog.underlying t = some (.struct #[f0, f1, f2])) (hC : Try.prog.cellsOf t = 4) (o0 : f0.offset = 0) (o1 : f1.offset = 1) (o2 : f2.offset = 2) (t0 : f0.type = 4) (t1 : f1.type = ts) (t2 : f2.type = tp)
    (hp : Try.prog.underlying tp = some (.struct #[g0, g1])) (hpC : Try.prog.cellsOf tp = 2) (p0 : g0.offset = 0) (p1 : g1.offset = 1) (u0 : g0.type = 22) (u1 : g1.type = 22)
    (hts : Try.prog.underlying ts = some (.slice e)) (htC : Try.prog.cellsOf ts = 1) (he : Try.prog.underlying e = some (.struct #[s0, s1, s2]))
    (ce : Try.prog.cellsOf e = 3) (be : Try.prog.bytesOf e = 40) (q0 : s0.offset = 0) (q1 : s1.offset = 1) (q2 : s2.offset = 2) (x0 : s0.type = 3) (x1 : s1.type = 4) (x2 : s2.type = 22)
    (hv : Value.okWide Try.prog W r b0 t v) (h : DataW.Trod enc Try.prog W 0 (fun _ => true) hd t v d p) (hB : ∀ m ∈ d.weights Try.prog t, m ≤ 140737488351232) :
    ∃ q : Prf, ProofIs W v q ∧ PrfFits q := by
  obtain ⟨cs, rfl, hsz⟩ := okWide_struct hs hv
  obtain ⟨c0, c1, c2, c3, rfl⟩ := array4 (hsz.trans hC)
  obtain ⟨fuel, hf⟩ := h
  obtain ⟨y0, y1, y2, n, hx, _, h0, h1, h2⟩ := trod_struct3 hs hf
  simp only [Prod.mk.injEq] at hx
  rw [t0] at h0
  rw [t1] at h1
  rw [t2] at h2
  simp [Value.cells, o0, o1, o2, cellsT, htC, hpC] at h0 h1 h2
  obtain ⟨be', hbv, hy0⟩ := DataW.trod_bool Try.underlying4 h0
  simp at hbv
  subst hbv
  obtain ⟨l, hl, hlb, hlw⟩ := steps_open hts he ce be q0 q1 q2 x0 x1 x2 h1
  obtain ⟨z0, z1, n', hx', _, k0, k1⟩ := trod_struct2 hp h2
  rw [u0] at k0
  rw [u1] at k1
  simp [p0, p1, cells8] at k0 k1
  obtain ⟨b1, r1, w1⟩ := part_open k0
  obtain ⟨b2, r2, w2⟩ := part_open k1
  rw [hx.1] at hB
  have W1 : ∀ m ∈ y1.1.weights Try.prog ts, m ≤ 140737488351232 := fun m hm => hB m (by
    simp only [DataW.weights, hs, DataW.weightsEach, List.map_cons, List.map_nil, t0, t1, t2, List.mem_append]
    exact .inr (.inl hm))
  have W2 : ∀ m ∈ y2.1.weights Try.prog tp, m ≤ 140737488351232 := fun m hm => hB m (by
    simp only [DataW.weights, hs, DataW.weightsEach, List.map_cons, List.map_nil, t0, t1, t2, List.mem_append]
    exact .inr (.inr (.inl hm)))
  rw [hx'] at W2
  simp only [DataW.weights, hp, DataW.weightsEach, List.map_cons, List.map_nil, u0, u1, List.mem_append] at W2
  have L1 : b1.length ≤ 140737488351232 := by
    rcases w1 with w1 | ⟨z, hz, hle⟩
    · rw [w1]; simp
    · exact Nat.le_trans hle (W2 z (.inl hz))
  have L2 : b2.length ≤ 140737488351232 := by
    rcases w2 with w2 | ⟨z, hz, hle⟩
    · rw [w2]; simp
    · exact Nat.le_trans hle (W2 z (.inr (.inl hz)))
  obtain ⟨M1, M2⟩ := hlw _ W1
  refine ⟨⟨be', l, (b1, b2)⟩, ⟨c1, c2, c3, rfl, hl, r1, r2⟩, by show l.length * 40 ≤ _; omega, fun i hi => ⟨hlb i hi, by have := M2 i hi; show (l.getD i noStp).other.length ≤ _; omega⟩, by show b1.length ≤ _; omega, by show b2.length ≤ _; omega⟩
end Go.Proofs.Ytedmhejnbapklaa
