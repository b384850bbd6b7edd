/-
  What a row's proof opens with where raw numbers of an act came in.
-/
import Derived.Test.YtpefggkhjocanabFrameA
import Derived.Test.YtpefggkhjocanabKAct
namespace Go.Proofs.Ytpefggkhjocanab
open Go.ChangeShapes Go.WideShapes Go.ChangeAt Go.RowKit Go.Deep Go.Joins
theorem array3 {α : Type} {cs : Array α} (h : cs.size = 3) : ∃ c0 c1 c2, cs = #[c0, c1, c2] := by
  obtain ⟨l⟩ := cs
  match l, h with
  | [c0, c1, c2], _ => exact ⟨c0, c1, c2, rfl⟩
set_option maxRecDepth 100000 in
theorem feat_open {H : Type} {enc : TypeId × Value → H} {W : World} {hd : Bool} {r : Reach} {b0 : Nat} {v : Value} {d : DataW H} {p : List MemPlace} {t : TypeId} {f0 f1 f2 : Field} (hs : Try.prog.underlying t = some (.struct #[f0, f1, f2])) (hone : oneCellFields Try.prog #[f0, f1, f2] = true) (hC : Try.prog.cellsOf t = 3) (t0 : f0.type = 3) (t1 : f1.type = 3) (t2 : f2.type = 22)
    (hv : Value.okWide Try.prog W r b0 t v) (h : DataW.Trod enc Try.prog W 0 (fun _ => true) hd t v d p) (hB : ∀ m ∈ d.weights Try.prog t, m ≤ 140737488351232) :
    ∃ (k A : Int) (c : List UInt8), FeatIs W v k A c ∧ FeatFits k A c := by
  obtain ⟨cs, rfl, hsz⟩ := okWide_struct hs hv
  obtain ⟨v0, v1, v2, rfl⟩ := array3 (hsz.trans hC)
  obtain ⟨fuel, hf⟩ := h
  obtain ⟨xs, n, _, hx, hl, hlen, hff⟩ := DataW.trod_struct hs hf
  obtain ⟨o0, k0⟩ := hone_of hone 0 f0 rfl
  obtain ⟨o1, k1⟩ := hone_of hone 1 f1 rfl
  obtain ⟨o2, k2⟩ := hone_of hone 2 f2 rfl
  match xs, hlen with
  | [y0, y1, y2], _ =>
    have h0 := hff 0 f0 rfl
    have h1 := hff 1 f1 rfl
    have h2 := hff 2 f2 rfl
    simp only [Prod.mk.injEq] at hx
    have g0 : DataW.trod enc Try.prog W 0 (fun _ => true) hd n f0.type [v0] = some y0 := by simpa [Value.cells, o0, k0] using h0
    have g1 : DataW.trod enc Try.prog W 0 (fun _ => true) hd n f1.type [v1] = some y1 := by simpa [Value.cells, o1, k1] using h1
    have g2 : DataW.trod enc Try.prog W 0 (fun _ => true) hd n f2.type [v2] = some y2 := by simpa [Value.cells, o2, k2] using h2
    rw [t0] at g0
    rw [t1] at g1
    rw [t2] at g2
    obtain ⟨z0, e0, _, w0⟩ := DataW.trod_int Try.underlying3 g0
    obtain ⟨z1, e1, _, w1⟩ := DataW.trod_int Try.underlying3 g1
    simp at e0 e1
    subst e0 e1
    obtain ⟨c, sc, wc⟩ := part_open g2
    have hd' : d = .agg [y0.1, y1.1, y2.1] := by simpa using hx.1
    rw [hd'] at hB
    simp only [DataW.weights, hs, DataW.weightsEach, List.map_cons, List.map_nil, t0, t1, t2, List.mem_append] at hB
    have L : c.length ≤ 140737488351232 := by
      rcases wc with wc | ⟨q, hq, hle⟩
      · rw [wc]; simp
      · exact Nat.le_trans hle (hB q (.inr (.inr (.inl hq))))
    exact ⟨z0, z1, c, ⟨v2, rfl, sc⟩, ⟨int_bounds w0, int_bounds w1, by omega⟩⟩
end Go.Proofs.Ytpefggkhjocanab
