/-
  proof.upward, as it landed: the steps of a proof, from the last one on.
-/
import Derived.RangeFuncNested
import Derived.RangeFuncBound
import Derived.RangeFuncCalls
import Derived.RangeFuncLeaves
import Derived.Shelf.Abstract
import Derived.Shelf.RegionOpen
import Derived.WalkKit
import Derived.OwnWalkIn
import Derived.TacticsInMore
import Derived.LoopNIn
import Derived.LoopIn
import Derived.Test.YtedmhejnbapklaaDoorStepMem
namespace Go.Proofs.YtedmhejnbapklaaDoor
open Go.RowKit Go.Shelf
attribute [local go_sem] Oper.semAt_some
/-- The places, from the last one on. -/
def dnl (n k : Nat) : List Nat := (List.range k).map fun j => n - 1 - j
theorem dnl_succ (n k : Nat) : dnl n (k + 1) = dnl n k ++ [n - 1 - k] := by simp [dnl, List.range_succ]
theorem dnl_len (n k : Nat) : (dnl n k).length = k := by simp [dnl]
/-- What a round that goes on keeps: what lay below, and one block more. -/
def KpU (n₀ c : Nat) (A B : World) : Prop := Below n₀ A B ∧ (c < A.heap.size → B.heap[c]? = A.heap[c]?)
theorem kpU_t {n₀ c : Nat} {A B C : World} (h : KpU n₀ c A B) (k : KpU n₀ c B C) : KpU n₀ c A C :=
  ⟨h.1.trans k.1, fun hc => (k.2 (Nat.lt_of_lt_of_le hc h.1.size)).trans (h.2 hc)⟩
theorem kpU_b {n₀ c : Nat} {w : World} (hn : n₀ ≤ w.heap.size) (hc : c < w.heap.size) (W : World) (l : Nat) (o o' : Obj) (hl : w.heap.size ≤ l) (h : W.heap[l]? = some o) (h1 : o.isCells = false) (h2 : o.isWalk = false) : KpU n₀ c W (W.putObj l o') :=
  ⟨belowK_b hn W l o o' hl h h1 h2, fun _ => World.putObj_heap_other (by omega)⟩
theorem KpU.refl {n₀ c : Nat} (A : World) : KpU n₀ c A A := ⟨Below.refl _ _, fun _ => rfl⟩
set_option maxRecDepth 100000 in
set_option maxHeartbeats 2000000 in
theorem up1_in (F : Fence) (n : Nat) (hf : F.fn 77) (hro : F.round = none) (hn : 1 ≤ n) (l c n₀ b off len cap : Nat) (fb : Nat → Int) (fr : Nat → Bool) (fo : Nat → Value) (hlen : len ≤ 140737488355328) (hb : b < n₀)
    (ho : ∀ j, j < len → ∃ a m q, fo j = .slice a m q)
    (J Jx : List Nat → World → Prop)
    (hY : ∀ pre x W, J pre W → pre.length < len → YieldAt F (n - 1) Tryd.prog l #[.agg #[.int .i64 (fb x), .bool (fr x), fo x]] W fun e W' =>
      (e = .returned (.bool true) ∧ J (pre ++ [x]) W' ∧ KpU n₀ c W W') ∨ (e = .returned (.bool false) ∧ Jx (pre ++ [x]) W'))
    (W : World) (hc : W.cell? ⟨c, 0, none⟩ = some (.slice (some ⟨b, off, none⟩) len cap)) (hs : ∀ j, j < len → W.cell? ⟨b, off + j * 3, none⟩ = some (.int .i64 (fb j)) ∧ W.cell? ⟨b, off + j * 3 + 1, none⟩ = some (.bool (fr j)) ∧ W.cell? ⟨b, off + j * 3 + 2, none⟩ = some (fo j)) (h0 : J [] W) :
    CallsIn F n Tryd.prog 77 #[.func (.yield l) #[] #[], .pointer (some ⟨c, 0, none⟩)] W fun e W' => (∃ v, e = .returned v) ∧
      ((∃ ys, ys = dnl len len ∧ J ys W') ∨ (∃ pre, True ∧ Jx pre W')) := by
  have hcw : c < W.heap.size := cell_lt hc
  refine callsIn_of_wp Tryd.func77 rfl hf ?_ hro
  simp only [Tryd.ntmps77, List.size_toArray, List.length_cons, List.length_nil, Nat.reduceAdd, Nat.reduceSub, Array.replicate_succ, Array.replicate_zero, List.push_toArray, List.append_toArray, List.nil_append, List.cons_append]
  gi_wp2
  gi_loopw [3] (fun i wr => ∃ k : Nat, k ≤ len ∧ i = .int .i64 ((len : Int) - 1 - (k : Int)) ∧ J (dnl len k) wr ∧ KpU n₀ c W wr)
    (fun i _ => (intOf i + 1).toNat)
  case atStart => exact ⟨0, Nat.zero_le _, by go_num, h0, KpU.refl _⟩
  case round =>
    obtain ⟨k, hk, rfl, hJs, hnx⟩ := hrel
    have hcx : wr.cell? ⟨c, 0, none⟩ = some (.slice (some ⟨b, off, none⟩) len cap) := by
      have := hnx.2 hcw
      simpa [World.cell?, this] using hc
    by_cases hlt : k < len
    · obtain ⟨j, hj⟩ : ∃ j : Nat, len - 1 - k = j := ⟨_, rfl⟩
      have hj' : (len : Int) - 1 - (k : Int) = (j : Int) := by omega
      have hjl : j < len := by omega
      obtain ⟨x1, x2, x3⟩ := hs j hjl
      have y1 := (hnx.1.cell (p := ⟨b, off + j * 3, none⟩) hb).trans x1
      have y2 := (hnx.1.cell (p := ⟨b, off + j * 3 + 1, none⟩) hb).trans x2
      have y3 := (hnx.1.cell (p := ⟨b, off + j * 3 + 2, none⟩) hb).trans x3
      obtain ⟨oa, om, oq, eo⟩ := ho j hjl
      obtain ⟨fn, tmps, assign, body, hy, hR⟩ := hY _ j wr hJs (by rw [dnl_len]; exact hlt)
      rw [eo] at y3 hy
      have i1 : (j : Int) < (len : Int) := by omega
      have HDN : Hid (dnl len (k + 1) = dnl len k ++ [j]) := by
        show _ = _
        rw [dnl_succ, hj]
      rw [hj']
      clear hs hY x1 x2 x3
      gi_wp2
      refine hR.mono ?_
      rintro e W3 (⟨rfl, hJ3, hk3⟩ | ⟨rfl, hJx3⟩)
      · gi_wp2
        go_roundw
        case rel => exact ⟨k + 1, by omega, by go_num, by rw [HDN.out]; exact hJ3, kpU_t hnx hk3⟩
        case measure => simp [intOf]
      · gi_wp2
        refine bodyPost_ret (results_none rfl _ _ _) rfl ?_
        exact ⟨⟨_, rfl⟩, .inr ⟨_, trivial, hJx3⟩⟩
    · obtain rfl : k = len := by omega
      have e1 : (k : Int) - 1 - (k : Int) = -1 := by omega
      rw [e1]
      gi_wp2
      go_end0
      exact ⟨⟨_, rfl⟩, .inl ⟨_, rfl, hJs⟩⟩
set_option maxRecDepth 100000 in
set_option maxHeartbeats 1000000 in
theorem up0_in (F : Fence) (n : Nat) (hf : F.fn 77) (hro : F.round = none) (l c : Nat) (a : Option Addr) (cap : Nat) (J : List Nat → World → Prop) (W : World) (hc : W.cell? ⟨c, 0, none⟩ = some (.slice a 0 cap)) (h0 : J [] W) :
    CallsIn F n Tryd.prog 77 #[.func (.yield l) #[] #[], .pointer (some ⟨c, 0, none⟩)] W fun e W' => (∃ v, e = .returned v) ∧ J [] W' := by
  refine callsIn_of_wp Tryd.func77 rfl hf ?_ hro
  simp only [Tryd.ntmps77, List.size_toArray, List.length_cons, List.length_nil, Nat.reduceAdd, Nat.reduceSub, Array.replicate_succ, Array.replicate_zero, List.push_toArray, List.append_toArray, List.nil_append, List.cons_append]
  gi_wp2
  gi_loopw [3] (fun i wr => i = .int .i64 (-1) ∧ J [] wr) (fun _ _ => 0)
  case atStart => exact ⟨by first | rfl | go_num, h0⟩
  case round =>
    obtain ⟨rfl, hJs⟩ := hrel
    gi_wp2
    go_end0
    exact ⟨⟨_, rfl⟩, hJs⟩
set_option maxHeartbeats 1000000 in
theorem upward_in (F : Fence) (n : Nat) (hf : F.fn 62) (hro : F.round = none) (a : Option Addr) (len cap : Nat) (w : World) :
    CallsIn F n Tryd.prog 62 #[.slice a len cap] w fun e w' => e = .returned (.func (.func 77) #[] #[.pointer (some ⟨w.heap.size, 0, none⟩)]) ∧ w' = w.alloc (.cells #[.slice a len cap] 25) := by
  refine callsIn_of_wp Tryd.func62 rfl hf ?_ hro
  simp only [Tryd.ntmps62, List.size_toArray, List.length_cons, List.length_nil, Nat.reduceAdd, Nat.reduceSub, Array.replicate_succ, Array.replicate_zero, List.push_toArray, List.append_toArray, List.nil_append, List.cons_append]
  gi_wp2
  go_ret
  exact ⟨rfl, rfl⟩
theorem Below.stepAt {n₀ : Nat} {A B : World} (h : Below n₀ A B) {b : Nat} (hb : b < n₀) (o : Nat) : B.cell? ⟨b, o, none⟩ = A.cell? ⟨b, o, none⟩ := h.cell (p := ⟨b, o, none⟩) hb
/-- The steps come from the last one on. -/
theorem up_stops (F : Fence) (n : Nat) (hf : F.fn 77) (hro : F.round = none) (hn : 1 ≤ n) (c n₀ : Nat) (a : Option Addr) (cap : Nat) (S : List Stp) (fo : Nat → Value) (hlen : S.length ≤ 140737488355328) (w : World) (hcw : c < w.heap.size) (hn₀ : n₀ ≤ w.heap.size)
    (hc : w.cell? ⟨c, 0, none⟩ = some (.slice a S.length cap))
    (hs : S.length = 0 ∨ ∃ b o, a = some ⟨b, o, none⟩ ∧ b < n₀ ∧ ∀ j, j < S.length → (∃ x m q, fo j = .slice x m q) ∧ w.cell? ⟨b, o + j * 3, none⟩ = some (.int .i64 (S.getD j noStp).bit) ∧ w.cell? ⟨b, o + j * 3 + 1, none⟩ = some (.bool (S.getD j noStp).right) ∧ w.cell? ⟨b, o + j * 3 + 2, none⟩ = some (fo j)) :
    SeqStopsK F n Tryd.prog 77 #[.pointer (some ⟨c, 0, none⟩)] (fun x : Nat => #[.agg #[.int .i64 (S.getD x noStp).bit, .bool (S.getD x noStp).right, fo x]]) (KpU n₀ c) (fun ys => ys = dnl S.length S.length) (fun _ => True) S.length w := fun l J Jx W hW _ _ hY h0 => by
  have hc' := (hW.cell (p := ⟨c, 0, none⟩) hcw).trans hc
  rcases hs with h | ⟨b, o, rfl, hb, hs⟩
  · rw [h] at hc' ⊢
    refine (up0_in F n hf hro l c a cap J W hc' h0).mono ?_
    rintro e W' ⟨he, hj⟩
    exact ⟨he, .inl ⟨_, rfl, hj⟩⟩
  · refine up1_in F n hf hro hn l c n₀ b o S.length cap (fun x => (S.getD x noStp).bit) (fun x => (S.getD x noStp).right) fo hlen hb (fun j hj => (hs j hj).1) J Jx hY W hc' (fun j hj => ?_) h0
    obtain ⟨_, h1, h2, h3⟩ := hs j hj
    have hbw : b < w.heap.size := by omega
    exact ⟨(Below.stepAt hW hbw _).trans h1, (Below.stepAt hW hbw _).trans h2, (Below.stepAt hW hbw _).trans h3⟩
end Go.Proofs.YtedmhejnbapklaaDoor
