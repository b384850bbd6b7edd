/-
  What a row's proof opens with where places came in: structs of three slices of bytes and a bool, and lists of such.
-/
import Derived.Test.YtpmfbfflacbmjacFrameP
import Derived.Test.YtpmfbfflacbmjacPart1
namespace Go.Proofs.Ytpmfbfflacbmjac
open Go.ChangeShapes Go.WideShapes Go.ChangeAt Go.RowKit Go.Deep Go.Joins
instance : Inhabited Plc := ⟨noPlc⟩
instance {H : Type} : Inhabited (DataW H) := ⟨.nil⟩
theorem cells4 : Try.prog.cellsOf 4 = 1 := by kernel_rfl
set_option maxRecDepth 100000 in
/-- A list of places that came in. -/
theorem places_open {H : Type} {enc : TypeId × Value → H} {W : World} {hd : Bool} {fuel : Nat} {a : Option Addr} {n cap : Nat} {x : DataW H × List MemPlace} {t e : TypeId} {f0 f1 f2 f3 : Field} (ht : Try.prog.underlying t = some (.slice e)) (he : Try.prog.underlying e = some (.struct #[f0, f1, f2, f3]))
    (ce : Try.prog.cellsOf e = 4) (be : Try.prog.bytesOf e = 80) (o0 : f0.offset = 0) (o1 : f1.offset = 1) (o2 : f2.offset = 2) (o3 : f3.offset = 3) (t0 : f0.type = 38) (t1 : f1.type = 38) (t2 : f2.type = 38) (t3 : f3.type = 4)
    (h : DataW.trod enc Try.prog W 0 (fun _ => true) hd fuel t [.slice a n cap] = some x) :
    ∃ l : List Plc, PlacesIs W (.slice a n cap) l ∧ n = l.length ∧ ∀ B, (∀ m ∈ x.1.weights Try.prog t, m ≤ B) → l.length * 80 ≤ B ∧ ∀ i, i < l.length → (l.getD i noPlc).name.length ≤ B ∧ (l.getD i noPlc).key.length ≤ B ∧ (l.getD i noPlc).value.length ≤ B := by
  rcases open_slice ht h with ⟨hcs, _⟩ | ⟨y, len, c, m, k, D, Pl, hcs, hb, hl, hm, hmm, hx, hcell⟩
  · simp at hcs
    obtain ⟨rfl, rfl, rfl⟩ := hcs
    exact ⟨[], ⟨none, 0, rfl, Nat.le_refl _, .inl rfl⟩, rfl, fun B _ => ⟨by simp, by simp⟩⟩
  · simp at hcs
    obtain ⟨rfl, rfl, rfl⟩ := hcs
    have hmc : m = cap := by simpa using hmm
    subst hmc
    have each : ∀ i, i < m → ∃ q : Plc × Value × Value × Value × DataW H × DataW H × DataW H, W.cell? (y.add (i * 4)) = some q.2.1 ∧ W.cell? (y.add (i * 4 + 1)) = some q.2.2.1 ∧ W.cell? (y.add (i * 4 + 2)) = some q.2.2.2.1 ∧ W.cell? (y.add (i * 4 + 3)) = some (.bool q.1.gone) ∧
        SliceIs W q.2.1 q.1.name ∧ SliceIs W q.2.2.1 q.1.key ∧ SliceIs W q.2.2.2.1 q.1.value ∧ D i = .agg [q.2.2.2.2.1, q.2.2.2.2.2.1, q.2.2.2.2.2.2, .lit (.bool q.1.gone)] ∧
        (q.1.name = [] ∨ ∃ z ∈ q.2.2.2.2.1.weights Try.prog 38, q.1.name.length ≤ z) ∧ (q.1.key = [] ∨ ∃ z ∈ q.2.2.2.2.2.1.weights Try.prog 38, q.1.key.length ≤ z) ∧ (q.1.value = [] ∨ ∃ z ∈ q.2.2.2.2.2.2.weights Try.prog 38, q.1.value.length ≤ z) := by
      intro i hi
      obtain ⟨cs', g1, g2⟩ := hcell i hi
      rw [ce] at g1
      obtain ⟨_, hlen, hcc⟩ := World.cells?_some g1
      obtain ⟨xs, k', hk, hxy, _, hxl, hf⟩ := DataW.trod_struct he g2
      match xs, hxl, cs', hlen with
      | [y0, y1, y2, y3], _, [v0, v1, v2, v3], _ =>
        have s0 := hf 0 f0 rfl
        have s1 := hf 1 f1 rfl
        have s2 := hf 2 f2 rfl
        have s3 := hf 3 f3 rfl
        rw [t0] at s0
        rw [t1] at s1
        rw [t2] at s2
        rw [t3] at s3
        simp [o0, o1, o2, o3, cells8, cells4] at s0 s1 s2 s3
        have e0 := hcc 0 (by omega)
        have e1 := hcc 1 (by omega)
        have e2 := hcc 2 (by omega)
        have e3 := hcc 3 (by omega)
        rw [add_add] at e0 e1 e2 e3
        obtain ⟨b0, z0, w0⟩ := part_open s0
        obtain ⟨b1, z1, w1⟩ := part_open s1
        obtain ⟨b2, z2, w2⟩ := part_open s2
        obtain ⟨bb, hbv, hy3⟩ := DataW.trod_bool Try.underlying4 s3
        simp at hbv
        subst hbv hy3
        simp only [Prod.mk.injEq] at hxy
        exact ⟨(⟨b0, b1, b2, bb⟩, v0, v1, v2, y0.1, y1.1, y2.1), by simpa using e0, by simpa using e1, by simpa using e2, by simpa using e3, z0, z1, z2, by simpa using hxy.1, w0, w1, w2⟩
    obtain ⟨q, hq⟩ := choose_lt each
    have hlen : ((List.range n).map fun i => (q i).1).length = n := by simp
    have hget : ∀ i, i < n → ((List.range n).map fun i => (q i).1).getD i noPlc = (q i).1 := by
      intro i hi
      simp [hi]
    refine ⟨(List.range n).map fun i => (q i).1, ⟨_, m, by rw [hlen], by omega, ?_⟩, hlen.symm, ?_⟩
    · by_cases h0 : n = 0
      · left; subst h0; rfl
      · right
        obtain ⟨b, o, sp⟩ := y
        have h00 := (hq 0 (by omega)).1
        obtain rfl : sp = none := by
          cases sp with
          | none => rfl
          | some z =>
            simp [Addr.add, World.cell?] at h00
            split at h00 <;> simp at h00
        refine ⟨b, o, rfl, fun i hi => ?_⟩
        rw [hlen] at hi
        obtain ⟨g0, g1, g2, g3, z0, z1, z2, _⟩ := hq i (by omega)
        rw [addr_add] at g0 g1 g2 g3
        rw [hget i hi]
        exact ⟨_, _, _, g0, g1, g2, g3, z0, z1, z2⟩
    · intro B hB
      rw [hlen]
      rw [hx] at hB
      simp only [DataW.weights, ht, List.mem_cons, List.mem_append] at hB
      constructor
      · have := hB _ (.inl rfl)
        simp only [List.length_map, List.length_range, be] at this
        omega
      · intro i hi
        rw [hget i hi]
        obtain ⟨_, _, _, _, _, _, _, hD, q0, q1, q2⟩ := hq i (by omega)
        have key : ∀ d z, (d = (q i).2.2.2.2.1 ∨ d = (q i).2.2.2.2.2.1 ∨ d = (q i).2.2.2.2.2.2) → z ∈ d.weights Try.prog 38 → z ≤ B := by
          intro d z hd hz
          refine hB z (.inr (.inl (weightsAll_mem (d := D i) (List.mem_map.2 ⟨i, List.mem_range.2 hi, rfl⟩) ?_)))
          rw [hD]
          simp only [DataW.weights, he, DataW.weightsEach, List.map_cons, List.map_nil, t0, t1, t2, List.mem_append]
          rcases hd with rfl | rfl | rfl
          · exact .inl hz
          · exact .inr (.inl hz)
          · exact .inr (.inr (.inl hz))
        refine ⟨?_, ?_, ?_⟩
        · rcases q0 with q0 | ⟨z, hz, hle⟩
          · rw [q0]; simp
          · exact Nat.le_trans hle (key _ z (.inl rfl) hz)
        · rcases q1 with q1 | ⟨z, hz, hle⟩
          · rw [q1]; simp
          · exact Nat.le_trans hle (key _ z (.inr (.inl rfl)) hz)
        · rcases q2 with q2 | ⟨z, hz, hle⟩
          · rw [q2]; simp
          · exact Nat.le_trans hle (key _ z (.inr (.inr rfl)) hz)
set_option maxRecDepth 100000 in
/-- A place that came in. -/
theorem place_open {H : Type} {enc : TypeId × Value → H} {W : World} {hd : Bool} {r : Reach} {b0 : Nat} {v : Value} {d : DataW H} {p : List MemPlace} {t : TypeId} {f0 f1 f2 f3 : Field} (hs : Try.prog.underlying t = some (.struct #[f0, f1, f2, f3])) (hone : oneCellFields Try.prog #[f0, f1, f2, f3] = true) (hC : Try.prog.cellsOf t = 4) (t0 : f0.type = 38) (t1 : f1.type = 38) (t2 : f2.type = 38) (t3 : f3.type = 4)
    (hv : Value.okWide Try.prog W r b0 t v) (h : DataW.Trod enc Try.prog W 0 (fun _ => true) hd t v d p) :
    ∃ q : Plc, PlaceIs W v q ∧ ∀ B, (∀ m ∈ d.weights Try.prog t, m ≤ B) → q.name.length ≤ B ∧ q.key.length ≤ B ∧ q.value.length ≤ B := by
  obtain ⟨v0, v1, v2, v3, y0, y1, y2, y3, n, rfl, rfl, rfl, h0, h1, h2, h3⟩ := open_agg4 hs hone hC hv h
  rw [t0] at h0
  rw [t1] at h1
  rw [t2] at h2
  rw [t3] at h3
  obtain ⟨c0, s0, w0⟩ := part_open h0
  obtain ⟨c1, s1, w1⟩ := part_open h1
  obtain ⟨c2, s2, w2⟩ := part_open h2
  obtain ⟨bb, hbv, hy3⟩ := DataW.trod_bool Try.underlying4 h3
  simp at hbv
  subst hbv hy3
  refine ⟨⟨c0, c1, c2, bb⟩, ⟨v0, v1, v2, rfl, s0, s1, s2⟩, fun B hB => ?_⟩
  simp only [DataW.weights, hs, DataW.weightsEach, List.map_cons, List.map_nil, t0, t1, t2, List.mem_append] at hB
  refine ⟨?_, ?_, ?_⟩
  · rcases w0 with w0 | ⟨q, hq, hle⟩
    · rw [w0]; simp
    · exact Nat.le_trans hle (hB q (.inl hq))
  · rcases w1 with w1 | ⟨q, hq, hle⟩
    · rw [w1]; simp
    · exact Nat.le_trans hle (hB q (.inr (.inl hq)))
  · rcases w2 with w2 | ⟨q, hq, hle⟩
    · rw [w2]; simp
    · exact Nat.le_trans hle (hB q (.inr (.inr (.inl hq))))
end Go.Proofs.Ytpmfbfflacbmjac
