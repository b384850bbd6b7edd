/-
  Texts of this proof, joined: FrameS, PCCheck, PCProve, FCVerify.
-/
import Derived.Test.YtkkcjnhfbblgiabDoorFrameP
import Derived.Test.YtkkcjnhfbblgiabDoorStepMem
import Derived.Test.YtkkcjnhfbblgiabDoorPart2
/-
  What a row's proof opens with where a proof came in: a struct of a bool, a list of steps and a pair.
-/
namespace Go.Proofs.YtkkcjnhfbblgiabDoor
open Go.ChangeShapes Go.WideShapes Go.ChangeAt Go.RowKit Go.Deep Go.Joins
instance : Inhabited Stp := ⟨noStp⟩
instance {H : Type} : Inhabited (DataW H) := ⟨.nil⟩
theorem cellsT : Tryd.prog.cellsOf 4 = 1 := by kernel_rfl
theorem cellsI : Tryd.prog.cellsOf 3 = 1 := by kernel_rfl
theorem bitWf {n : Int} (h : (Lit.int .i64 n).wf = true) : -9223372036854775808 ≤ n ∧ n ≤ 9223372036854775807 := int_bounds h
set_option maxRecDepth 100000 in
/-- A list of steps that came in. -/
theorem steps_open {H : Type} {enc : TypeId × Value → H} {W : World} {hd : Bool} {fuel : Nat} {v : Value} {x : DataW H × List MemPlace} {t e : TypeId} {f0 f1 f2 : Field} (ht : Tryd.prog.underlying t = some (.slice e)) (he : Tryd.prog.underlying e = some (.struct #[f0, f1, f2]))
    (ce : Tryd.prog.cellsOf e = 3) (be : Tryd.prog.bytesOf e = 40) (o0 : f0.offset = 0) (o1 : f1.offset = 1) (o2 : f2.offset = 2) (t0 : f0.type = 3) (t1 : f1.type = 4) (t2 : f2.type = 23)
    (h : DataW.trod enc Tryd.prog W 0 (fun _ => true) hd fuel t [v] = some x) :
    ∃ l : List Stp, StepsIs W v l ∧ (∀ i, i < l.length → -9223372036854775808 ≤ (l.getD i noStp).bit ∧ (l.getD i noStp).bit ≤ 9223372036854775807) ∧ ∀ B, (∀ m ∈ x.1.weights Tryd.prog t, m ≤ B) → l.length * 40 ≤ B ∧ ∀ i, i < l.length → (l.getD i noStp).other.length ≤ B := by
  rcases open_slice ht h with ⟨hcs, _⟩ | ⟨y, n, c, m, k, D, Pl, hcs, hb, hl, hm, hmm, hx, hcell⟩
  · simp at hcs
    subst hcs
    exact ⟨[], stepsIs_nil W, by simp, fun B _ => ⟨by simp, by simp⟩⟩
  · simp at hcs
    subst hcs
    have hmc : m = c := by simpa using hmm
    subst hmc
    have each : ∀ i, i < m → ∃ q : Stp × Value × DataW H, W.cell? (y.add (i * 3)) = some (.int .i64 q.1.bit) ∧ W.cell? (y.add (i * 3 + 1)) = some (.bool q.1.right) ∧ W.cell? (y.add (i * 3 + 2)) = some q.2.1 ∧
        SliceIs W q.2.1 q.1.other ∧ (∃ d0 d1, D i = .agg [d0, d1, q.2.2]) ∧ (-9223372036854775808 ≤ q.1.bit ∧ q.1.bit ≤ 9223372036854775807) ∧
        (q.1.other = [] ∨ ∃ z ∈ q.2.2.weights Tryd.prog 23, q.1.other.length ≤ z) := by
      intro i hi
      obtain ⟨cs', g1, g2⟩ := hcell i hi
      rw [ce] at g1
      obtain ⟨_, hlen, hcc⟩ := World.cells?_some g1
      obtain ⟨xs, k', hk, hxy, _, hxl, hf⟩ := DataW.trod_struct he g2
      match xs, hxl, cs', hlen with
      | [y0, y1, y2], _, [v0, v1, v2], _ =>
        have s0 := hf 0 f0 rfl
        have s1 := hf 1 f1 rfl
        have s2 := hf 2 f2 rfl
        rw [t0] at s0
        rw [t1] at s1
        rw [t2] at s2
        simp [o0, o1, o2, cells8, cellsT, cellsI] at s0 s1 s2
        have e0 := hcc 0 (by omega)
        have e1 := hcc 1 (by omega)
        have e2 := hcc 2 (by omega)
        rw [add_add] at e0 e1 e2
        obtain ⟨bi, hiv, hy0, hwf⟩ := DataW.trod_int Tryd.underlying3 s0
        obtain ⟨bb, hbv, hy1⟩ := DataW.trod_bool Tryd.underlying4 s1
        obtain ⟨b2, z2, w2⟩ := part_open s2
        simp at hbv hiv
        subst hbv hy1 hiv hy0
        simp only [Prod.mk.injEq] at hxy
        exact ⟨(⟨bi, bb, b2⟩, v2, y2.1), by simpa using e0, by simpa using e1, by simpa using e2, z2, ⟨_, _, by simpa using hxy.1⟩, bitWf hwf, w2⟩
    obtain ⟨q, hq⟩ := choose_lt each
    have hlen : ((List.range n).map fun i => (q i).1).length = n := by simp
    have hget : ∀ i, i < n → ((List.range n).map fun i => (q i).1).getD i noStp = (q i).1 := by
      intro i hi
      simp [hi]
    refine ⟨(List.range n).map fun i => (q i).1, ⟨_, m, by rw [hlen], by omega, ?_⟩, ?_, ?_⟩
    · by_cases h0 : n = 0
      · left; subst h0; exact ⟨rfl, fun h => by cases h⟩
      · right
        obtain ⟨b, o, sp⟩ := y
        have h00 := (hq 0 (by omega)).1
        obtain rfl : sp = none := by
          cases sp with
          | none => rfl
          | some z =>
            simp [Addr.add, World.cell?] at h00
            split at h00 <;> simp at h00
        refine ⟨b, o, rfl, fun i hi => ?_⟩
        rw [hlen] at hi
        obtain ⟨g0, g1, g2, z2, _⟩ := hq i (by omega)
        rw [addr_add] at g0 g1 g2
        rw [hget i hi]
        exact ⟨_, g0, g1, g2, z2⟩
    · intro i hi
      rw [hlen] at hi
      rw [hget i hi]
      exact (hq i (by omega)).2.2.2.2.2.1
    · intro B hB
      rw [hlen]
      rw [hx] at hB
      simp only [DataW.weights, ht, List.mem_cons, List.mem_append] at hB
      constructor
      · have := hB _ (.inl rfl)
        simp only [List.length_map, List.length_range, be] at this
        omega
      · intro i hi
        rw [hget i hi]
        obtain ⟨_, _, _, _, ⟨d0, d1, hD⟩, _, q2⟩ := hq i (by omega)
        rcases q2 with q2 | ⟨z, hz, hle⟩
        · rw [q2]; simp
        · refine Nat.le_trans hle (hB z (.inr (.inl (weightsAll_mem (d := D i) (List.mem_map.2 ⟨i, List.mem_range.2 hi, rfl⟩) ?_))))
          rw [hD]
          simp only [DataW.weights, he, DataW.weightsEach, List.map_cons, List.map_nil, t0, t1, t2, List.mem_append]
          exact .inr (.inr (.inl hz))
set_option maxRecDepth 100000 in
/-- A proof that came in. -/
theorem proof_open {H : Type} {enc : TypeId × Value → H} {W : World} {hd : Bool} {r : Reach} {b0 : Nat} {v : Value} {d : DataW H} {p : List MemPlace} {t : TypeId} {f0 f1 f2 g0 g1 s0 s1 s2 : Field} {ts e tp : TypeId}
    (hs : Tryd.prog.underlying t = some (.struct #[f0, f1, f2])) (hC : Tryd.prog.cellsOf t = 4) (o0 : f0.offset = 0) (o1 : f1.offset = 1) (o2 : f2.offset = 2) (t0 : f0.type = 4) (t1 : f1.type = ts) (t2 : f2.type = tp)
    (hp : Tryd.prog.underlying tp = some (.struct #[g0, g1])) (hpC : Tryd.prog.cellsOf tp = 2) (p0 : g0.offset = 0) (p1 : g1.offset = 1) (u0 : g0.type = 23) (u1 : g1.type = 23)
    (hts : Tryd.prog.underlying ts = some (.slice e)) (htC : Tryd.prog.cellsOf ts = 1) (he : Tryd.prog.underlying e = some (.struct #[s0, s1, s2]))
    (ce : Tryd.prog.cellsOf e = 3) (be : Tryd.prog.bytesOf e = 40) (q0 : s0.offset = 0) (q1 : s1.offset = 1) (q2 : s2.offset = 2) (x0 : s0.type = 3) (x1 : s1.type = 4) (x2 : s2.type = 23)
    (hv : Value.okWide Tryd.prog W r b0 t v) (h : DataW.Trod enc Tryd.prog W 0 (fun _ => true) hd t v d p) (hB : ∀ m ∈ d.weights Tryd.prog t, m ≤ 140737488351232) :
    ∃ q : Prf, ProofIs W v q ∧ PrfFits q := by
  obtain ⟨cs, rfl, hsz⟩ := okWide_struct hs hv
  obtain ⟨c0, c1, c2, c3, rfl⟩ := array4 (hsz.trans hC)
  obtain ⟨fuel, hf⟩ := h
  obtain ⟨y0, y1, y2, n, hx, _, h0, h1, h2⟩ := trod_struct3 hs hf
  simp only [Prod.mk.injEq] at hx
  rw [t0] at h0
  rw [t1] at h1
  rw [t2] at h2
  simp [Value.cells, o0, o1, o2, cellsT, htC, hpC] at h0 h1 h2
  obtain ⟨be', hbv, hy0⟩ := DataW.trod_bool Tryd.underlying4 h0
  simp at hbv
  subst hbv
  obtain ⟨l, hl, hlb, hlw⟩ := steps_open hts he ce be q0 q1 q2 x0 x1 x2 h1
  obtain ⟨z0, z1, n', hx', _, k0, k1⟩ := trod_struct2 hp h2
  rw [u0] at k0
  rw [u1] at k1
  simp [p0, p1, cells8] at k0 k1
  obtain ⟨b1, r1, w1⟩ := part_open k0
  obtain ⟨b2, r2, w2⟩ := part_open k1
  rw [hx.1] at hB
  have W1 : ∀ m ∈ y1.1.weights Tryd.prog ts, m ≤ 140737488351232 := fun m hm => hB m (by
    simp only [DataW.weights, hs, DataW.weightsEach, List.map_cons, List.map_nil, t0, t1, t2, List.mem_append]
    exact .inr (.inl hm))
  have W2 : ∀ m ∈ y2.1.weights Tryd.prog tp, m ≤ 140737488351232 := fun m hm => hB m (by
    simp only [DataW.weights, hs, DataW.weightsEach, List.map_cons, List.map_nil, t0, t1, t2, List.mem_append]
    exact .inr (.inr (.inl hm)))
  rw [hx'] at W2
  simp only [DataW.weights, hp, DataW.weightsEach, List.map_cons, List.map_nil, u0, u1, List.mem_append] at W2
  have L1 : b1.length ≤ 140737488351232 := by
    rcases w1 with w1 | ⟨z, hz, hle⟩
    · rw [w1]; simp
    · exact Nat.le_trans hle (W2 z (.inl hz))
  have L2 : b2.length ≤ 140737488351232 := by
    rcases w2 with w2 | ⟨z, hz, hle⟩
    · rw [w2]; simp
    · exact Nat.le_trans hle (W2 z (.inr (.inl hz)))
  obtain ⟨M1, M2⟩ := hlw _ W1
  refine ⟨⟨be', l, (b1, b2)⟩, ⟨c1, c2, c3, rfl, hl, r1, r2⟩, by show l.length * 40 ≤ _; omega, fun i hi => ⟨hlb i hi, by have := M2 i hi; show (l.getD i noStp).other.length ≤ _; omega⟩, by show b1.length ≤ _; omega, by show b2.length ≤ _; omega⟩
end Go.Proofs.YtkkcjnhfbblgiabDoor

/-
  What proof.Check must keep.
-/
namespace Go.Proofs.YtkkcjnhfbblgiabDoor
open Go.RowKit
/-- proof.Check keeps P4.2. -/
def PCheckOK : Prop := ∀ (w : World) (u v : Value) (k : List UInt8) (p : Prf), SliceIs w u k → ProofIs w v p → PrfFits p → Calls Tryd.prog 61 #[u, v] w fun e w' => e = .returned (.int .i64 (proofE k p)) ∧ w.grownBy w' none
end Go.Proofs.YtkkcjnhfbblgiabDoor

/-
  What proof.Prove and proof.Verify must keep.
-/
namespace Go.Proofs.YtkkcjnhfbblgiabDoor
open Go.RowKit
/-- proof.Prove keeps P4.1. -/
def PProveOK : Prop := ∀ (w : World) (v u : Value) (l : PL) (k : List UInt8), PairsIs w v l → SliceIs w u k → Fits l → Tabs w → Calls Tryd.prog 24 #[v, u] w fun e w' => ∃ x, e = .returned (.tuple #[x, .int .i64 (getE l k)]) ∧ ProofNew w.heap.size w' x (proveF l k) ∧ w.grownBy w' none
/-- proof.Verify keeps P4.3. -/
def PVerifyOK : Prop := ∀ (w : World) (r u v : Value) (root k : List UInt8) (p : Prf), SliceIs w r root → SliceIs w u k → ProofIs w v p → PrfFits p → Tabs w → Calls Tryd.prog 35 #[r, u, v] w fun e w' => ∃ x, e = .returned (.tuple #[.agg #[.bool (verB root k p), x], .int .i64 (verE root k p)]) ∧ SliceIs w' x (verV root k p) ∧ w.grownBy w' none
theorem ver_size {root k : List UInt8} {p : Prf} (h : root.length ≠ 32) : verE root k p = 1 ∧ verB root k p = false ∧ verV root k p = [] := by
  have h1 : verE root k p = 1 := by rw [verE, if_neg h]
  have h2 : verB root k p = false := by rw [verB, h1]; rfl
  exact ⟨h1, h2, by rw [verV, h2, if_neg (by simp)]⟩
theorem ver_form {root k : List UInt8} {p : Prf} (h : root.length = 32) (hp : proofE k p ≠ 0) : verE root k p = proofE k p ∧ verB root k p = false ∧ verV root k p = [] := by
  have h1 : verE root k p = proofE k p := by rw [verE, if_pos h, if_neg hp]
  have h2 : verB root k p = false := by rw [verB, h1]; simp [hp]
  exact ⟨h1, h2, by rw [verV, h2, if_neg (by simp)]⟩
theorem ver_proof {root k : List UInt8} {p : Prf} (h : root.length = 32) (hp : proofE k p = 0) (hr : rootP p ≠ root) : verE root k p = 8 ∧ verB root k p = false ∧ verV root k p = [] := by
  have h1 : verE root k p = 8 := by rw [verE, if_pos h, if_pos hp, if_neg hr]
  have h2 : verB root k p = false := by rw [verB, h1]; rfl
  exact ⟨h1, h2, by rw [verV, h2, if_neg (by simp)]⟩
theorem ver_ok {root k : List UInt8} {p : Prf} (h : root.length = 32) (hp : proofE k p = 0) (hr : rootP p = root) : verE root k p = 0 ∧ verB root k p = foundF k p ∧ verV root k p = if foundF k p = true then p.pair.2 else [] := by
  have h1 : verE root k p = 0 := by rw [verE, if_pos h, if_pos hp, if_pos hr]
  have h2 : verB root k p = foundF k p := by rw [verB, h1]; rfl
  exact ⟨h1, h2, by rw [verV, h2]⟩
end Go.Proofs.YtkkcjnhfbblgiabDoor

/-
  What forest.Verify must keep.
-/
namespace Go.Proofs.YtkkcjnhfbblgiabDoor
/-- forest.Verify keeps P5.7. -/
def FVerifyOK : Prop := ∀ (w : World) (r m u o i : Value) (root n k : List UInt8) (p q : Prf), SliceIs w r root → SliceIs w m n → SliceIs w u k → ProofIs w o p → ProofIs w i q → PrfFits p → PrfFits q → Tabs w → Calls Tryd.prog 12 #[r, m, u, o, i] w fun e w' => ∃ x, e = .returned (.tuple #[.agg #[.bool (fverB root n k p q), x], .int .i64 (fverE root n k p q)]) ∧ SliceIs w' x (fverV root n k p q) ∧ w.grownBy w' none
end Go.Proofs.YtkkcjnhfbblgiabDoor
