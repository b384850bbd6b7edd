/-
  A list of slices of bytes that came in, and what the reach says of it.
-/
import Derived.Test.YtpkegibjoieemaaDoorFrame
import Derived.Test.YtpkegibjoieemaaDoorParts
import Derived.Deep.Matrix
namespace Go.Proofs.YtpkegibjoieemaaDoor
open Go.ChangeShapes Go.WideShapes Go.ChangeAt Go.RowKit Go.Deep
theorem bytes22 : Tryd.prog.bytesOf 22 = 24 := by kernel_rfl
theorem cells22 : Tryd.prog.cellsOf 22 = 1 := by kernel_rfl
theorem cells5 : Tryd.prog.cellsOf 5 = 1 := by kernel_rfl
theorem mem_weightsAll {H : Type} {P : Program} {e : TypeId} : ∀ {l : List (DataW H)} {d : DataW H} {n : Nat}, d ∈ l → n ∈ d.weights P e → n ∈ DataW.weightsAll P e l
  | d0 :: r, d, n, hd, hn => by
    simp only [DataW.weightsAll, List.mem_append]
    rcases List.mem_cons.1 hd with rfl | hd
    · exact .inl hn
    · exact .inr (mem_weightsAll hd hn)
/-- A list of slices of bytes that came in. -/
theorem rows_list {W : World} {x : Addr} {len cap : Nat} {A : Nat → Option Addr} {L C : Nat → Nat} {Z : Nat → List Int} (hl : len ≤ cap)
    (hcell : ∀ r, r < cap → W.cell? (x.add r) = some (.slice (A r) (L r) (C r)) ∧ L r ≤ C r ∧ C r ≤ maxLen ∧ (Z r).length = C r ∧ (∀ n ∈ Z r, (Lit.int .u8 n).wf = true) ∧ (A r = none → C r = 0) ∧
      ∀ a', A r = some a' → 0 ≤ a'.block ∧ ∀ c, c < C r → W.cell? (a'.add c) = some (.int .u8 ((Z r).getD c 0))) :
    ∃ ps : List (List UInt8), ps.length = len ∧ ListIs W (.slice (some x) len cap) ps ∧ ∀ i, i < len → (ps.getD i []).length = L i := by
  have each : ∀ r, r < cap → ∃ bs : List UInt8, bs.length = L r ∧ SliceIs W (.slice (A r) (L r) (C r)) bs := by
    intro r hr
    obtain ⟨_, h1, h2, h3, h4, h5, h6⟩ := hcell r hr
    have hrow : IsRow .u8 W (A r) (L r) (C r) (Z r) := by
      cases hA : A r with
      | none =>
        have hc0 := h5 hA
        exact .inl ⟨rfl, by omega, hc0, List.eq_nil_of_length_eq_zero (by omega)⟩
      | some a' => exact .inr ⟨a', rfl, h1, h2, h3, fun i hi => (h6 a' hA).2 i (by omega), h4⟩
    obtain ⟨bs, hb1, _, hb2⟩ := isRow_slice hrow
    exact ⟨bs, hb1, hb2⟩
  obtain ⟨f, hf⟩ := choose_lt each
  have hlen : ((List.range len).map f).length = len := by simp
  have hget : ∀ i, i < len → ((List.range len).map f).getD i [] = f i := by
    intro i hi
    simp [hi]
  refine ⟨(List.range len).map f, hlen, ⟨_, cap, by rw [hlen], by omega, ?_⟩, fun i hi => by rw [hget i hi]; exact (hf i (by omega)).1⟩
  by_cases h0 : len = 0
  · left; subst h0; rfl
  · right
    obtain ⟨b, o, sp⟩ := x
    have h00 := (hcell 0 (by omega)).1
    obtain rfl : sp = none := by
      cases sp with
      | none => rfl
      | some q =>
        simp [Addr.add, World.cell?] at h00
        split at h00 <;> simp at h00
    refine ⟨b, o, rfl, fun i hi => ?_⟩
    rw [hlen] at hi
    refine ⟨.slice (A i) (L i) (C i), ?_, ?_⟩
    · have := (hcell i (by omega)).1
      rw [addr_add] at this
      exact this
    · rw [hget i hi]
      exact (hf i (by omega)).2
/-- What the reach says of a list of slices of bytes. -/
theorem reach_list {H : Type} {ts : List TypeId} {ds : List (DataW H)} {j : Nat} {W : World} {x : Addr} {len cap : Nat} {A : Nat → Option Addr} {L C : Nat → Nat} {Z : Nat → List Int} (hsz : (DataW.weightsEach Tryd.prog ts ds).all (· ≤ reachBytes) = true)
    (ht : ts[j]? = some 29) (hl : len ≤ cap) (hd : ds[j]? = some (.slice ((List.range len).map fun r => intRow .u8 (A r) (L r) (Z r)) ((List.range (cap - len)).map fun i => intRow .u8 (A (len + i)) (L (len + i)) (Z (len + i)))))
    (hcell : ∀ r, r < cap → W.cell? (x.add r) = some (.slice (A r) (L r) (C r)) ∧ L r ≤ C r ∧ C r ≤ maxLen ∧ (Z r).length = C r ∧ (∀ n ∈ Z r, (Lit.int .u8 n).wf = true) ∧ (A r = none → C r = 0) ∧
      ∀ a', A r = some a' → 0 ≤ a'.block ∧ ∀ c, c < C r → W.cell? (a'.add c) = some (.int .u8 ((Z r).getD c 0))) :
    len * 24 ≤ 140737488351232 ∧ ∀ i, i < len → L i ≤ 140737488351232 := by
  constructor
  · have hs := sized_slice hsz ht hd Tryd.underlying29
    rw [bytes22] at hs
    simp only [List.length_map, List.length_range, reachBytes] at hs
    omega
  · intro i hi
    obtain ⟨_, h1, _, h3, _, h5, _⟩ := hcell i (by omega)
    cases hA : A i with
    | none => have := h5 hA; omega
    | some a' =>
      have hm := List.all_eq_true.1 hsz _ (DataW.weights_mem_each ht hd (((lits (H := H) .u8 ((Z i).take (L i))).length + (lits (H := H) .u8 ((Z i).drop (L i))).length) * Tryd.prog.bytesOf 5) (by
        simp only [DataW.weights, Tryd.underlying29, List.mem_cons, List.mem_append]
        right; left
        refine mem_weightsAll (d := intRow .u8 (A i) (L i) (Z i)) (List.mem_map.2 ⟨i, List.mem_range.2 hi, rfl⟩) ?_
        rw [hA]
        simp [intRow, DataW.weights, Tryd.underlying22]))
      rw [bytes5] at hm
      simp only [lits, List.length_map, List.length_take, List.length_drop, reachBytes, decide_eq_true_eq] at hm
      omega
end Go.Proofs.YtpkegibjoieemaaDoor
