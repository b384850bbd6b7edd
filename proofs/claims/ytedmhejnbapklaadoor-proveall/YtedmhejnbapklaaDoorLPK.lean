/-
  What the laws on proofs rest on: what proof.Prove, proof.Verify and tree.Get tell of a tree and of a key.
-/
import Derived.Test.YtedmhejnbapklaaDoorPart5
import Derived.Test.YtedmhejnbapklaaDoorPart3
import Derived.Test.YtedmhejnbapklaaDoorPart2
import Derived.Test.YtedmhejnbapklaaDoorKey
import Derived.Test.YtedmhejnbapklaaDoorKSame
import Derived.Deep.RegionWith
import Derived.Handy
namespace Go.Proofs.YtedmhejnbapklaaDoor
open Go.RowKit
theorem prove_fits {l : PL} (hT : Tree l) (k : List UInt8) : PrfFits (proveL l k) := by
  unfold proveL
  by_cases h : l.length = 0
  · rw [if_pos h]; exact ⟨by simp, fun i hi => by simp at hi, by simp, by simp⟩
  · rw [if_neg h]
    have h60 := hT.room
    have hl := steps_len k hT (by omega)
    have hp := hT.pairs _ (end_mem k hT (by omega))
    refine ⟨by simp; omega, fun i hi => ?_, by simp; omega, by simp; omega⟩
    obtain ⟨g1, g2, _⟩ := steps_may k hT (by omega) i hi
    show (-9223372036854775808 ≤ ((stepsL l k).getD i noStp).bit ∧ ((stepsL l k).getD i noStp).bit ≤ 9223372036854775807) ∧ ((stepsL l k).getD i noStp).other.length ≤ 140737488355328
    omega
theorem PProveOK.of (hP : PProveOK) (w : World) (v u : Value) (l : PL) (k : List UInt8) (hv : PairsIs w v l) (hu : SliceIs w u k) (hT : Tree l) (hk : 1 ≤ k.length ∧ k.length ≤ 16) (ht : Tabs w) :
    Calls Tryd.prog 9 #[v, u] w fun e w' => ∃ sa sc ka kc va vc, e = .returned (.tuple #[.agg #[.bool (proveL l k).empty, .slice sa (proveL l k).steps.length sc, .slice ka (proveL l k).pair.1.length kc, .slice va (proveL l k).pair.2.length vc], .int .i64 0]) ∧ ProofNew w.heap.size w' (.agg #[.bool (proveL l k).empty, .slice sa (proveL l k).steps.length sc, .slice ka (proveL l k).pair.1.length kc, .slice va (proveL l k).pair.2.length vc]) (proveL l k) ∧ w.grownBy w' none := by
  refine (hP w v u l k hv hu hT.fits ht).mono ?_
  rintro e w' ⟨x, rfl, hx, hg⟩
  have hE := getE_ok hT hk
  rw [proveF, if_pos hE] at hx
  rw [hE]
  have hx0 := hx
  obtain ⟨base, vs, vk, vv, rfl, _, _, h1, h2, h3⟩ := hx
  obtain ⟨sa, sc, rfl⟩ := h1.shape
  obtain ⟨ka, kc, rfl⟩ := h2.1.shape
  obtain ⟨va, vc, rfl⟩ := h3.1.shape
  exact ⟨sa, sc, ka, kc, va, vc, rfl, hx0, hg⟩
theorem TGetOK.of (hG : TGetOK) (w : World) (v u : Value) (l : PL) (k : List UInt8) (hv : PairsIs w v l) (hu : SliceIs w u k) (hT : Tree l) (hk : 1 ≤ k.length ∧ k.length ≤ 16) :
    Calls Tryd.prog 21 #[v, u] w fun e w' => ∃ xa xc, e = .returned (.tuple #[.agg #[.bool (getF l k).isSome, .slice xa ((getF l k).getD []).length xc], .int .i64 0]) ∧ SliceIs w' (.slice xa ((getF l k).getD []).length xc) ((getF l k).getD []) ∧ w.grownBy w' none := by
  refine (hG w v u l k hv hu hT.fits (by omega)).mono ?_
  rintro e w' ⟨x, rfl, hx, hg⟩
  have hE := getE_ok hT hk
  have h1 : getB l k = (getF l k).isSome := by rw [getB, hE]; rfl
  have h2 : getV l k = (getF l k).getD [] := by rw [getV, if_pos hE]
  rw [h2] at hx
  rw [h1, hE]
  obtain ⟨xa, xc, rfl⟩ := hx.shape
  exact ⟨xa, xc, rfl, hx, hg⟩
/-- tree.Root of a tree. -/
theorem TRootOK.tree (hR : TRootOK) (w : World) (v : Value) (l : PL) (hv : PairsIs w v l) (hT : Tree l) (ht : Tabs w) :
    Calls Tryd.prog 20 #[v] w fun e w' => ∃ xa xc, e = .returned (.tuple #[.slice xa 32 xc, .int .i64 0]) ∧ SliceIs w' (.slice xa 32 xc) (rootL l) ∧ w.grownBy w' none := by
  have := hR w v l hv hT.fits ht
  rw [tree_fault l hT, rootF, if_pos (tree_fault l hT)] at this
  refine this.mono ?_
  rintro e w' ⟨x, rfl, hx, hg⟩
  obtain ⟨xa, xc, rfl⟩ := hx.shape
  rw [rootL_len] at hx ⊢
  exact ⟨xa, xc, rfl, hx, hg⟩
theorem PVerifyOK.of (hV : PVerifyOK) (w : World) (r u v : Value) (root k : List UInt8) (p : Prf) (E : Int) (B : Bool) (V : List UInt8) (hr : SliceIs w r root) (hu : SliceIs w u k) (hv : ProofIs w v p) (hf : PrfFits p) (ht : Tabs w) (hE : verE root k p = E) (hB : verB root k p = B) (hVV : verV root k p = V) :
    Calls Tryd.prog 15 #[r, u, v] w fun e w' => ∃ xa xc, e = .returned (.tuple #[.agg #[.bool B, .slice xa V.length xc], .int .i64 E]) ∧ SliceIs w' (.slice xa V.length xc) V ∧ w.grownBy w' none := by
  refine (hV w r u v root k p hr hu hv hf ht).mono ?_
  rintro e w' ⟨x, rfl, hx, hg⟩
  rw [hVV] at hx
  rw [hE, hB]
  obtain ⟨xa, xc, rfl⟩ := hx.shape
  exact ⟨xa, xc, rfl, hx, hg⟩
end Go.Proofs.YtedmhejnbapklaaDoor
