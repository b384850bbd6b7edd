/-
  What a row's proof opens with where a list of raw numbers of acts came in.
-/
import Derived.Test.YtpefggkhjocanaaDoorFrameA
import Derived.Test.YtpefggkhjocanaaDoorKActs
namespace Go.Proofs.YtpefggkhjocanaaDoor
open Go.ChangeShapes Go.WideShapes Go.ChangeAt Go.RowKit Go.Deep Go.Joins
instance : Inhabited Ft := ⟨noFt⟩
instance {H : Type} : Inhabited (DataW H) := ⟨.nil⟩
set_option maxRecDepth 100000 in
theorem feats_open {H : Type} {enc : TypeId × Value → H} {W : World} {hd : Bool} {fuel : Nat} {a : Option Addr} {n cap : Nat} {x : DataW H × List MemPlace} {t e : TypeId} {f0 f1 f2 : Field} (ht : Tryd.prog.underlying t = some (.slice e)) (he : Tryd.prog.underlying e = some (.struct #[f0, f1, f2]))
    (ce : Tryd.prog.cellsOf e = 3) (be : Tryd.prog.bytesOf e = 40) (o0 : f0.offset = 0) (o1 : f1.offset = 1) (o2 : f2.offset = 2) (t0 : f0.type = 3) (t1 : f1.type = 3) (t2 : f2.type = 34)
    (h : DataW.trod enc Tryd.prog W 0 (fun _ => true) hd fuel t [.slice a n cap] = some x) (hB : ∀ m ∈ x.1.weights Tryd.prog t, m ≤ 140737488351232) :
    ∃ l : List Ft, FeatsIs W (.slice a n cap) l ∧ FitsFt l := by
  rcases open_slice ht h with ⟨hcs, _⟩ | ⟨y, len, c, m, k, D, Pl, hcs, hb, hl, hm, hmm, hx, hcell⟩
  · simp at hcs
    obtain ⟨rfl, rfl, rfl⟩ := hcs
    exact ⟨[], ⟨none, 0, rfl, Nat.le_refl _, .inl ⟨rfl, fun _ => rfl⟩⟩, ⟨by simp, by simp⟩⟩
  · simp at hcs
    obtain ⟨rfl, rfl, rfl⟩ := hcs
    have hmc : m = cap := by simpa using hmm
    subst hmc
    have each : ∀ i, i < m → ∃ q : Ft × Value × DataW H, (W.cell? (y.add (i * 3)) = some (.int .i64 q.1.kind) ∧ W.cell? (y.add (i * 3 + 1)) = some (.int .i64 q.1.num) ∧ W.cell? (y.add (i * 3 + 2)) = some q.2.1) ∧ SliceIs W q.2.1 q.1.data ∧ D i = .agg [.lit (.int .i64 q.1.kind), .lit (.int .i64 q.1.num), q.2.2] ∧ ((-9223372036854775808 ≤ q.1.kind ∧ q.1.kind ≤ 9223372036854775807) ∧ (-9223372036854775808 ≤ q.1.num ∧ q.1.num ≤ 9223372036854775807)) ∧ (q.1.data = [] ∨ ∃ z ∈ q.2.2.weights Tryd.prog 34, q.1.data.length ≤ z) := by
      intro i hi
      obtain ⟨cs', g1, g2⟩ := hcell i hi
      rw [ce] at g1
      obtain ⟨_, hlen, hcc⟩ := World.cells?_some g1
      obtain ⟨xs, k', hk, hxy, _, hxl, hf⟩ := DataW.trod_struct he g2
      match xs, hxl, cs', hlen with
      | [y0, y1, y2], _, [v0, v1, v2], _ =>
        have s0 := hf 0 f0 rfl
        have s1 := hf 1 f1 rfl
        have s2 := hf 2 f2 rfl
        rw [t0] at s0
        rw [t1] at s1
        rw [t2] at s2
        simp [o0, o1, o2, cells8, cells3] at s0 s1 s2
        have e0 := hcc 0 (by omega)
        have e1 := hcc 1 (by omega)
        have e2 := hcc 2 (by omega)
        rw [add_add] at e0 e1 e2
        obtain ⟨z0, hz0, hy0, w0⟩ := DataW.trod_int Tryd.underlying3 s0
        obtain ⟨z1, hz1, hy1, w1⟩ := DataW.trod_int Tryd.underlying3 s1
        simp at hz0 hz1
        subst hz0 hy0 hz1 hy1
        obtain ⟨bb, zb, wb⟩ := part_open s2
        simp only [Prod.mk.injEq] at hxy
        exact ⟨(⟨z0, z1, bb⟩, v2, y2.1), ⟨by simpa using e0, by simpa using e1, by simpa using e2⟩, zb, by simpa using hxy.1, ⟨int_bounds w0, int_bounds w1⟩, wb⟩
    obtain ⟨q, hq⟩ := choose_lt each
    have hlen : ((List.range n).map fun i => (q i).1).length = n := by simp
    have hget : ∀ i, i < n → ((List.range n).map fun i => (q i).1).getD i noFt = (q i).1 := by
      intro i hi
      simp [hi]
    rw [hx] at hB
    simp only [DataW.weights, ht, List.mem_cons, List.mem_append] at hB
    refine ⟨(List.range n).map fun i => (q i).1, ⟨_, m, by rw [hlen], by omega, ?_⟩, ⟨?_, ?_⟩⟩
    · by_cases h0 : n = 0
      · left; subst h0; exact ⟨rfl, fun h => by cases h⟩
      · right
        obtain ⟨b, o, sp⟩ := y
        have h00 := (hq 0 (by omega)).1.1
        obtain rfl : sp = none := by
          cases sp with
          | none => rfl
          | some z =>
            simp [Addr.add, World.cell?] at h00
            split at h00 <;> simp at h00
        refine ⟨b, o, rfl, fun i hi => ?_⟩
        rw [hlen] at hi
        obtain ⟨⟨g0, g1, g2⟩, zz, _⟩ := hq i (by omega)
        rw [addr_add] at g0 g1 g2
        rw [hget i hi]
        exact ⟨_, g0, g1, g2, zz⟩
    · rw [hlen]
      have := hB _ (.inl rfl)
      simp only [List.length_map, List.length_range, be] at this
      omega
    · intro i hi
      rw [hlen] at hi
      rw [hget i hi]
      obtain ⟨_, _, hD, hbd, qd⟩ := hq i (by omega)
      have L : (q i).1.data.length ≤ 140737488351232 := by
        rcases qd with qd | ⟨z, hz, hle⟩
        · rw [qd]; simp
        · refine Nat.le_trans hle (hB z (.inr (.inl (weightsAll_mem (d := D i) (List.mem_map.2 ⟨i, List.mem_range.2 hi, rfl⟩) ?_))))
          rw [hD]
          simp only [DataW.weights, he, DataW.weightsEach, List.map_cons, List.map_nil, t0, t1, t2, List.mem_append]
          exact .inr (.inr (.inl hz))
      exact ⟨hbd.1, hbd.2, by omega⟩
end Go.Proofs.YtpefggkhjocanaaDoor
