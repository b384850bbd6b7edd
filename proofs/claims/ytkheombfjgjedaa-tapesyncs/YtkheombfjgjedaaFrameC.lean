/-
  What a row's proof opens with where a commit or a tape came in.
-/
import Derived.Test.YtkheombfjgjedaaFrameW
import Derived.Test.YtkheombfjgjedaaCmtMem
namespace Go.Proofs.Ytkheombfjgjedaa
open Go.ChangeShapes Go.WideShapes Go.ChangeAt Go.RowKit Go.Deep Go.Joins
set_option maxRecDepth 100000 in
/-- A commit that came in. -/
theorem commit_open {H : Type} {enc : TypeId × Value → H} {W : World} {hd : Bool} {r : Reach} {b0 : Nat} {v : Value} {d : DataW H} {p : List MemPlace} {t tw e : TypeId} {f0 f1 g0 g1 g2 g3 : Field} (hs : Try.prog.underlying t = some (.struct #[f0, f1])) (hone : oneCellFields Try.prog #[f0, f1] = true) (hC : Try.prog.cellsOf t = 2) (t0 : f0.type = 3) (t1 : f1.type = tw)
    (ht : Try.prog.underlying tw = some (.slice e)) (he : Try.prog.underlying e = some (.struct #[g0, g1, g2, g3])) (ce : Try.prog.cellsOf e = 4) (be : Try.prog.bytesOf e = 80) (o0 : g0.offset = 0) (o1 : g1.offset = 1) (o2 : g2.offset = 2) (o3 : g3.offset = 3) (u0 : g0.type = 29) (u1 : g1.type = 29) (u2 : g2.type = 4) (u3 : g3.type = 29)
    (hv : Value.okWide Try.prog W r b0 t v) (h : DataW.Trod enc Try.prog W 0 (fun _ => true) hd t v d p) (hB : ∀ m ∈ d.weights Try.prog t, m ≤ 140737488351232) :
    ∃ q : Cmt, CommitIs W v q ∧ FitsC q := by
  obtain ⟨v0, v1, y0, y1, n, rfl, rfl, rfl, h0, h1⟩ := open_agg2 hs hone hC hv h
  rw [t0] at h0
  rw [t1] at h1
  obtain ⟨z, hz, hy0, hwf⟩ := DataW.trod_int Try.underlying3 h0
  simp at hz
  subst hz
  obtain ⟨a, m, c, rfl⟩ : ∃ a m c, v1 = .slice a m c := by
    rcases open_slice ht h1 with ⟨hcs, _⟩ | ⟨y, n, c, m, k, D, Pl, hcs, _⟩
    · simp at hcs; exact ⟨_, _, _, hcs⟩
    · simp at hcs; exact ⟨_, _, _, hcs⟩
  obtain ⟨l, g1', _, g2'⟩ := writes_open ht he ce be o0 o1 o2 o3 u0 u1 u2 u3 h1
  refine ⟨⟨z, l⟩, ⟨_, rfl, g1'⟩, ⟨int_bounds hwf, fitsW_of (g2' _ (fun m hm => hB m ?_))⟩⟩
  simp only [DataW.weights, hs, DataW.weightsEach, List.map_cons, List.map_nil, t0, t1, List.mem_append]
  exact .inr (.inl hm)
set_option maxRecDepth 100000 in
/-- A tape that came in. -/
theorem tape_open {H : Type} {enc : TypeId × Value → H} {W : World} {hd : Bool} {r : Reach} {b0 : Nat} {v : Value} {d : DataW H} {p : List MemPlace} {t : TypeId} {f0 f1 : Field} (hs : Try.prog.underlying t = some (.struct #[f0, f1])) (hone : oneCellFields Try.prog #[f0, f1] = true) (hC : Try.prog.cellsOf t = 2) (t0 : f0.type = 29) (t1 : f1.type = 3)
    (hv : Value.okWide Try.prog W r b0 t v) (h : DataW.Trod enc Try.prog W 0 (fun _ => true) hd t v d p) (hB : ∀ m ∈ d.weights Try.prog t, m ≤ 140737488351232) :
    ∃ q : Tap, TapeIs W v q ∧ FitsTp q := by
  obtain ⟨v0, v1, y0, y1, n, rfl, rfl, rfl, h0, h1⟩ := open_agg2 hs hone hC hv h
  rw [t0] at h0
  rw [t1] at h1
  obtain ⟨z, hz, hy1, hwf⟩ := DataW.trod_int Try.underlying3 h1
  simp at hz
  subst hz
  obtain ⟨b, s0, w0⟩ := part_open h0
  refine ⟨⟨b, z⟩, ⟨_, rfl, s0⟩, ⟨?_, int_bounds hwf⟩⟩
  simp only [DataW.weights, hs, DataW.weightsEach, List.map_cons, List.map_nil, t0, t1, List.mem_append] at hB
  show b.length ≤ 140737488355328
  rcases w0 with w0 | ⟨q, hq, hle⟩
  · rw [w0]; simp
  · have := hB q (.inl hq); omega
end Go.Proofs.Ytkheombfjgjedaa
