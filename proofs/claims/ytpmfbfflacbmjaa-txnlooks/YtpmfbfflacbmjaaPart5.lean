/-
  Texts of this proof, joined: FrameT, FCCheck, FCGet.
-/
import Derived.Test.YtpmfbfflacbmjaaFrameP
import Derived.Test.YtpmfbfflacbmjaaFrameD
import Derived.Test.YtpmfbfflacbmjaaPart4
import Derived.Test.YtpmfbfflacbmjaaPart1
/-
  What a row's proof opens with where tenants came in: structs of a slice of bytes and a list of pairs, and lists of such.
-/
namespace Go.Proofs.Ytpmfbfflacbmjaa
open Go.ChangeShapes Go.WideShapes Go.ChangeAt Go.RowKit Go.Deep Go.Joins
/-- A list of pairs that came in, within something else. -/
theorem pairs_openV {H : Type} {enc : TypeId × Value → H} {W : World} {hd : Bool} {fuel : Nat} {v : Value} {x : DataW H × List MemPlace} {t e : TypeId} {f0 f1 : Field} (ht : Try.prog.underlying t = some (.slice e)) (he : Try.prog.underlying e = some (.struct #[f0, f1]))
    (ce : Try.prog.cellsOf e = 2) (be : Try.prog.bytesOf e = 48) (o0 : f0.offset = 0) (o1 : f1.offset = 1) (t0 : f0.type = 31) (t1 : f1.type = 31)
    (h : DataW.trod enc Try.prog W 0 (fun _ => true) hd fuel t [v] = some x) :
    ∃ l : PL, PairsIs W v l ∧ ∀ B, (∀ m ∈ x.1.weights Try.prog t, m ≤ B) → l.length * 48 ≤ B ∧ ∀ i, i < l.length → (l.getD i ([], [])).1.length ≤ B ∧ (l.getD i ([], [])).2.length ≤ B := by
  obtain ⟨a, n, c, rfl⟩ : ∃ a n c, v = .slice a n c := by
    rcases open_slice ht h with ⟨hcs, _⟩ | ⟨y, n, c, m, k, D, Pl, hcs, _⟩
    · simp at hcs; exact ⟨_, _, _, hcs⟩
    · simp at hcs; exact ⟨_, _, _, hcs⟩
  obtain ⟨l, h1, _, h2⟩ := pairs_open ht he ce be o0 o1 t0 t1 h
  exact ⟨l, h1, h2⟩
set_option maxRecDepth 100000 in
/-- A list of tenants that came in. -/
theorem tens_open {H : Type} {enc : TypeId × Value → H} {W : World} {hd : Bool} {fuel : Nat} {a : Option Addr} {n cap : Nat} {x : DataW H × List MemPlace} {t e tp ep : TypeId} {f0 f1 g0 g1 : Field} (ht : Try.prog.underlying t = some (.slice e)) (he : Try.prog.underlying e = some (.struct #[f0, f1]))
    (ce : Try.prog.cellsOf e = 2) (be : Try.prog.bytesOf e = 48) (o0 : f0.offset = 0) (o1 : f1.offset = 1) (t0 : f0.type = 31) (t1 : f1.type = tp)
    (htp : Try.prog.underlying tp = some (.slice ep)) (ctp : Try.prog.cellsOf tp = 1) (hep : Try.prog.underlying ep = some (.struct #[g0, g1]))
    (cep : Try.prog.cellsOf ep = 2) (bep : Try.prog.bytesOf ep = 48) (p0 : g0.offset = 0) (p1 : g1.offset = 1) (u0 : g0.type = 31) (u1 : g1.type = 31)
    (h : DataW.trod enc Try.prog W 0 (fun _ => true) hd fuel t [.slice a n cap] = some x) (hB : ∀ m ∈ x.1.weights Try.prog t, m ≤ 140737488351232) :
    ∃ l : FL, TensIs W (.slice a n cap) l ∧ FitsT l := by
  rcases open_slice ht h with ⟨hcs, _⟩ | ⟨y, len, c, m, k, D, Pl, hcs, hb, hl, hm, hmm, hx, hcell⟩
  · simp at hcs
    obtain ⟨rfl, rfl, rfl⟩ := hcs
    exact ⟨[], tensIs_nil W, ⟨by simp, by simp⟩⟩
  · simp at hcs
    obtain ⟨rfl, rfl, rfl⟩ := hcs
    have hmc : m = cap := by simpa using hmm
    subst hmc
    have each : ∀ i, i < m → ∃ q : Tn × Value × Value × DataW H × DataW H, W.cell? (y.add (i * 2)) = some q.2.1 ∧ W.cell? (y.add (i * 2 + 1)) = some q.2.2.1 ∧
        SliceIs W q.2.1 q.1.1 ∧ PairsIs W q.2.2.1 q.1.2 ∧ D i = .agg [q.2.2.2.1, q.2.2.2.2] ∧
        (q.1.1 = [] ∨ ∃ z ∈ q.2.2.2.1.weights Try.prog 31, q.1.1.length ≤ z) ∧ ((∀ m ∈ q.2.2.2.2.weights Try.prog tp, m ≤ 140737488351232) → Fits q.1.2) := by
      intro i hi
      obtain ⟨cs', g1, g2⟩ := hcell i hi
      rw [ce] at g1
      obtain ⟨_, hlen, hcc⟩ := World.cells?_some g1
      obtain ⟨xs, k', hk, hxy, _, hxl, hf⟩ := DataW.trod_struct he g2
      match xs, hxl, cs', hlen with
      | [y0, y1], _, [v0, v1], _ =>
        have s0 := hf 0 f0 rfl
        have s1 := hf 1 f1 rfl
        rw [t0] at s0
        rw [t1] at s1
        simp [o0, o1, cells8, ctp] at s0 s1
        have e0 := hcc 0 (by omega)
        have e1 := hcc 1 (by omega)
        rw [add_add] at e0 e1
        obtain ⟨b0, z0, w0⟩ := part_open s0
        obtain ⟨l1, z1, w1⟩ := pairs_openV htp hep cep bep p0 p1 u0 u1 s1
        simp only [Prod.mk.injEq] at hxy
        exact ⟨((b0, l1), v0, v1, y0.1, y1.1), by simpa using e0, by simpa using e1, z0, z1, by simpa using hxy.1, w0, fun h => fits_of (w1 _ h)⟩
    obtain ⟨q, hq⟩ := choose_lt each
    have hlen : ((List.range n).map fun i => (q i).1).length = n := by simp
    have hget : ∀ i, i < n → ((List.range n).map fun i => (q i).1).getD i ([], []) = (q i).1 := by
      intro i hi
      simp [hi]
    refine ⟨(List.range n).map fun i => (q i).1, ⟨_, m, by rw [hlen], by omega, ?_⟩, ?_⟩
    · by_cases h0 : n = 0
      · left; subst h0; exact ⟨rfl, fun h => by cases h⟩
      · right
        obtain ⟨b, o, sp⟩ := y
        have h00 := (hq 0 (by omega)).1
        obtain rfl : sp = none := by
          cases sp with
          | none => rfl
          | some z =>
            simp [Addr.add, World.cell?] at h00
            split at h00 <;> simp at h00
        refine ⟨b, o, rfl, fun i hi => ?_⟩
        rw [hlen] at hi
        obtain ⟨g0, g1, z0, z1, _⟩ := hq i (by omega)
        rw [addr_add] at g0 g1
        rw [hget i hi]
        exact ⟨_, _, g0, g1, z0, z1⟩
    · rw [hx] at hB
      simp only [DataW.weights, ht, List.mem_cons, List.mem_append] at hB
      constructor
      · rw [hlen]
        have := hB _ (.inl rfl)
        simp only [List.length_map, List.length_range, be] at this
        omega
      · intro i hi
        rw [hlen] at hi
        rw [hget i hi]
        obtain ⟨_, _, _, _, hD, q0, q1⟩ := hq i (by omega)
        have key : ∀ z, (z ∈ (q i).2.2.2.1.weights Try.prog 31 ∨ z ∈ (q i).2.2.2.2.weights Try.prog tp) → z ≤ 140737488351232 := by
          intro z hz
          refine hB z (.inr (.inl (weightsAll_mem (d := D i) (List.mem_map.2 ⟨i, List.mem_range.2 hi, rfl⟩) ?_)))
          rw [hD]
          simp only [DataW.weights, he, DataW.weightsEach, List.map_cons, List.map_nil, t0, t1, List.mem_append]
          rcases hz with hz | hz
          · exact .inl hz
          · exact .inr (.inl hz)
        refine ⟨?_, q1 fun z hz => key z (.inr hz)⟩
        rcases q0 with q0 | ⟨z, hz, hle⟩
        · rw [q0]; simp
        · have := key z (.inl hz); omega
end Go.Proofs.Ytpmfbfflacbmjaa

/-
  What forest.Check must keep.
-/
namespace Go.Proofs.Ytpmfbfflacbmjaa
/-- forest.Check keeps P5.2. -/
def FCheckOK : Prop := ∀ (w : World) (v : Value) (l : FL), TensIs w v l → FitsT l → Calls Try.prog 81 #[v] w fun e w' => e = .returned (.int .i64 (forestE l)) ∧ w.grownBy w' none
end Go.Proofs.Ytpmfbfflacbmjaa

/-
  What forest.Get must keep.
-/
namespace Go.Proofs.Ytpmfbfflacbmjaa
/-- forest.Get keeps P5.3. -/
def FGetOK : Prop := ∀ (w : World) (v r u : Value) (l : FL) (n k : List UInt8), TensIs w v l → SliceIs w r n → SliceIs w u k → FitsT l → n.length ≤ 140737488355328 → k.length ≤ 140737488355328 → Calls Try.prog 50 #[v, r, u] w fun e w' => ∃ x, e = .returned (.tuple #[.agg #[.bool (fgetB l n k), x], .int .i64 (fgetE l n k)]) ∧ SliceIs w' x (fgetV l n k) ∧ w.grownBy w' none
end Go.Proofs.Ytpmfbfflacbmjaa
