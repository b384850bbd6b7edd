/-
  Texts of this proof, joined: PUpP, PRootP, PVerP.
-/
import Derived.RangeFuncNested
import Derived.RangeFuncBound
import Derived.RangeFuncCalls
import Derived.RangeFuncLeaves
import Derived.Shelf.Abstract
import Derived.Shelf.RegionOpen
import Derived.WalkKit
import Derived.OwnWalkIn
import Derived.TacticsInMore
import Derived.LoopNIn
import Derived.LoopIn
import Derived.Test.YtkkcjnhfbblgiabDoorStepMem
import Derived.Test.YtkkcjnhfbblgiabDoorPart8
import Derived.Test.YtkkcjnhfbblgiabDoorTRootP
import Derived.Test.YtkkcjnhfbblgiabDoorPart2
import Derived.Test.YtkkcjnhfbblgiabDoorPCheckP
import Derived.Test.YtkkcjnhfbblgiabDoorPart4
import Derived.Test.YtkkcjnhfbblgiabDoorCloneP
import Derived.Test.YtkkcjnhfbblgiabDoorEqB
/-
  proof.upward, as it landed: the steps of a proof, from the last one on.
-/
namespace Go.Proofs.YtkkcjnhfbblgiabDoor
open Go.RowKit Go.Shelf
attribute [local go_sem] Oper.semAt_some
/-- The places, from the last one on. -/
def dnl (n k : Nat) : List Nat := (List.range k).map fun j => n - 1 - j
theorem dnl_succ (n k : Nat) : dnl n (k + 1) = dnl n k ++ [n - 1 - k] := by simp [dnl, List.range_succ]
theorem dnl_len (n k : Nat) : (dnl n k).length = k := by simp [dnl]
/-- What a round that goes on keeps: what lay below, and one block more. -/
def KpU (n₀ c : Nat) (A B : World) : Prop := Below n₀ A B ∧ (c < A.heap.size → B.heap[c]? = A.heap[c]?)
theorem kpU_t {n₀ c : Nat} {A B C : World} (h : KpU n₀ c A B) (k : KpU n₀ c B C) : KpU n₀ c A C :=
  ⟨h.1.trans k.1, fun hc => (k.2 (Nat.lt_of_lt_of_le hc h.1.size)).trans (h.2 hc)⟩
theorem kpU_b {n₀ c : Nat} {w : World} (hn : n₀ ≤ w.heap.size) (hc : c < w.heap.size) (W : World) (l : Nat) (o o' : Obj) (hl : w.heap.size ≤ l) (h : W.heap[l]? = some o) (h1 : o.isCells = false) (h2 : o.isWalk = false) : KpU n₀ c W (W.putObj l o') :=
  ⟨belowK_b hn W l o o' hl h h1 h2, fun _ => World.putObj_heap_other (by omega)⟩
theorem KpU.refl {n₀ c : Nat} (A : World) : KpU n₀ c A A := ⟨Below.refl _ _, fun _ => rfl⟩
set_option maxRecDepth 100000 in
set_option maxHeartbeats 2000000 in
theorem up1_in (F : Fence) (n : Nat) (hf : F.fn 112) (hro : F.round = none) (hn : 1 ≤ n) (l c n₀ b off len cap : Nat) (fb : Nat → Int) (fr : Nat → Bool) (fo : Nat → Value) (hlen : len ≤ 140737488355328) (hb : b < n₀)
    (ho : ∀ j, j < len → ∃ a m q, fo j = .slice a m q)
    (J Jx : List Nat → World → Prop)
    (hY : ∀ pre x W, J pre W → pre.length < len → YieldAt F (n - 1) Tryd.prog l #[.agg #[.int .i64 (fb x), .bool (fr x), fo x]] W fun e W' =>
      (e = .returned (.bool true) ∧ J (pre ++ [x]) W' ∧ KpU n₀ c W W') ∨ (e = .returned (.bool false) ∧ Jx (pre ++ [x]) W'))
    (W : World) (hc : W.cell? ⟨c, 0, none⟩ = some (.slice (some ⟨b, off, none⟩) len cap)) (hs : ∀ j, j < len → W.cell? ⟨b, off + j * 3, none⟩ = some (.int .i64 (fb j)) ∧ W.cell? ⟨b, off + j * 3 + 1, none⟩ = some (.bool (fr j)) ∧ W.cell? ⟨b, off + j * 3 + 2, none⟩ = some (fo j)) (h0 : J [] W) :
    CallsIn F n Tryd.prog 112 #[.func (.yield l) #[] #[], .pointer (some ⟨c, 0, none⟩)] W fun e W' => (∃ v, e = .returned v) ∧
      ((∃ ys, ys = dnl len len ∧ J ys W') ∨ (∃ pre, True ∧ Jx pre W')) := by
  have hcw : c < W.heap.size := cell_lt hc
  refine callsIn_of_wp Tryd.func112 rfl hf ?_ hro
  simp only [Tryd.ntmps112, List.size_toArray, List.length_cons, List.length_nil, Nat.reduceAdd, Nat.reduceSub, Array.replicate_succ, Array.replicate_zero, List.push_toArray, List.append_toArray, List.nil_append, List.cons_append]
  gi_wp2
  gi_loopw [3] (fun i wr => ∃ k : Nat, k ≤ len ∧ i = .int .i64 ((len : Int) - 1 - (k : Int)) ∧ J (dnl len k) wr ∧ KpU n₀ c W wr)
    (fun i _ => (intOf i + 1).toNat)
  case atStart => exact ⟨0, Nat.zero_le _, by go_num, h0, KpU.refl _⟩
  case round =>
    obtain ⟨k, hk, rfl, hJs, hnx⟩ := hrel
    have hcx : wr.cell? ⟨c, 0, none⟩ = some (.slice (some ⟨b, off, none⟩) len cap) := by
      have := hnx.2 hcw
      simpa [World.cell?, this] using hc
    by_cases hlt : k < len
    · obtain ⟨j, hj⟩ : ∃ j : Nat, len - 1 - k = j := ⟨_, rfl⟩
      have hj' : (len : Int) - 1 - (k : Int) = (j : Int) := by omega
      have hjl : j < len := by omega
      obtain ⟨x1, x2, x3⟩ := hs j hjl
      have y1 := (hnx.1.cell (p := ⟨b, off + j * 3, none⟩) hb).trans x1
      have y2 := (hnx.1.cell (p := ⟨b, off + j * 3 + 1, none⟩) hb).trans x2
      have y3 := (hnx.1.cell (p := ⟨b, off + j * 3 + 2, none⟩) hb).trans x3
      obtain ⟨oa, om, oq, eo⟩ := ho j hjl
      obtain ⟨fn, tmps, assign, body, hy, hR⟩ := hY _ j wr hJs (by rw [dnl_len]; exact hlt)
      rw [eo] at y3 hy
      have i1 : (j : Int) < (len : Int) := by omega
      have HDN : Hid (dnl len (k + 1) = dnl len k ++ [j]) := by
        show _ = _
        rw [dnl_succ, hj]
      rw [hj']
      clear hs hY x1 x2 x3
      gi_wp2
      refine hR.mono ?_
      rintro e W3 (⟨rfl, hJ3, hk3⟩ | ⟨rfl, hJx3⟩)
      · gi_wp2
        go_roundw
        case rel => exact ⟨k + 1, by omega, by go_num, by rw [HDN.out]; exact hJ3, kpU_t hnx hk3⟩
        case measure => simp [intOf]
      · gi_wp2
        refine bodyPost_ret (results_none rfl _ _ _) rfl ?_
        exact ⟨⟨_, rfl⟩, .inr ⟨_, trivial, hJx3⟩⟩
    · obtain rfl : k = len := by omega
      have e1 : (k : Int) - 1 - (k : Int) = -1 := by omega
      rw [e1]
      gi_wp2
      go_end0
      exact ⟨⟨_, rfl⟩, .inl ⟨_, rfl, hJs⟩⟩
set_option maxRecDepth 100000 in
set_option maxHeartbeats 1000000 in
theorem up0_in (F : Fence) (n : Nat) (hf : F.fn 112) (hro : F.round = none) (l c : Nat) (a : Option Addr) (cap : Nat) (J : List Nat → World → Prop) (W : World) (hc : W.cell? ⟨c, 0, none⟩ = some (.slice a 0 cap)) (h0 : J [] W) :
    CallsIn F n Tryd.prog 112 #[.func (.yield l) #[] #[], .pointer (some ⟨c, 0, none⟩)] W fun e W' => (∃ v, e = .returned v) ∧ J [] W' := by
  refine callsIn_of_wp Tryd.func112 rfl hf ?_ hro
  simp only [Tryd.ntmps112, List.size_toArray, List.length_cons, List.length_nil, Nat.reduceAdd, Nat.reduceSub, Array.replicate_succ, Array.replicate_zero, List.push_toArray, List.append_toArray, List.nil_append, List.cons_append]
  gi_wp2
  gi_loopw [3] (fun i wr => i = .int .i64 (-1) ∧ J [] wr) (fun _ _ => 0)
  case atStart => exact ⟨by first | rfl | go_num, h0⟩
  case round =>
    obtain ⟨rfl, hJs⟩ := hrel
    gi_wp2
    go_end0
    exact ⟨⟨_, rfl⟩, hJs⟩
set_option maxHeartbeats 1000000 in
theorem upward_in (F : Fence) (n : Nat) (hf : F.fn 89) (hro : F.round = none) (a : Option Addr) (len cap : Nat) (w : World) :
    CallsIn F n Tryd.prog 89 #[.slice a len cap] w fun e w' => e = .returned (.func (.func 112) #[] #[.pointer (some ⟨w.heap.size, 0, none⟩)]) ∧ w' = w.alloc (.cells #[.slice a len cap] 25) := by
  refine callsIn_of_wp Tryd.func89 rfl hf ?_ hro
  simp only [Tryd.ntmps89, List.size_toArray, List.length_cons, List.length_nil, Nat.reduceAdd, Nat.reduceSub, Array.replicate_succ, Array.replicate_zero, List.push_toArray, List.append_toArray, List.nil_append, List.cons_append]
  gi_wp2
  go_ret
  exact ⟨rfl, rfl⟩
theorem Below.stepAt {n₀ : Nat} {A B : World} (h : Below n₀ A B) {b : Nat} (hb : b < n₀) (o : Nat) : B.cell? ⟨b, o, none⟩ = A.cell? ⟨b, o, none⟩ := h.cell (p := ⟨b, o, none⟩) hb
/-- The steps come from the last one on. -/
theorem up_stops (F : Fence) (n : Nat) (hf : F.fn 112) (hro : F.round = none) (hn : 1 ≤ n) (c n₀ : Nat) (a : Option Addr) (cap : Nat) (S : List Stp) (fo : Nat → Value) (hlen : S.length ≤ 140737488355328) (w : World) (hcw : c < w.heap.size) (hn₀ : n₀ ≤ w.heap.size)
    (hc : w.cell? ⟨c, 0, none⟩ = some (.slice a S.length cap))
    (hs : S.length = 0 ∨ ∃ b o, a = some ⟨b, o, none⟩ ∧ b < n₀ ∧ ∀ j, j < S.length → (∃ x m q, fo j = .slice x m q) ∧ w.cell? ⟨b, o + j * 3, none⟩ = some (.int .i64 (S.getD j noStp).bit) ∧ w.cell? ⟨b, o + j * 3 + 1, none⟩ = some (.bool (S.getD j noStp).right) ∧ w.cell? ⟨b, o + j * 3 + 2, none⟩ = some (fo j)) :
    SeqStopsK F n Tryd.prog 112 #[.pointer (some ⟨c, 0, none⟩)] (fun x : Nat => #[.agg #[.int .i64 (S.getD x noStp).bit, .bool (S.getD x noStp).right, fo x]]) (KpU n₀ c) (fun ys => ys = dnl S.length S.length) (fun _ => True) S.length w := fun l J Jx W hW _ _ hY h0 => by
  have hc' := (hW.cell (p := ⟨c, 0, none⟩) hcw).trans hc
  rcases hs with h | ⟨b, o, rfl, hb, hs⟩
  · rw [h] at hc' ⊢
    refine (up0_in F n hf hro l c a cap J W hc' h0).mono ?_
    rintro e W' ⟨he, hj⟩
    exact ⟨he, .inl ⟨_, rfl, hj⟩⟩
  · refine up1_in F n hf hro hn l c n₀ b o S.length cap (fun x => (S.getD x noStp).bit) (fun x => (S.getD x noStp).right) fo hlen hb (fun j hj => (hs j hj).1) J Jx hY W hc' (fun j hj => ?_) h0
    obtain ⟨_, h1, h2, h3⟩ := hs j hj
    have hbw : b < w.heap.size := by omega
    exact ⟨(Below.stepAt hW hbw _).trans h1, (Below.stepAt hW hbw _).trans h2, (Below.stepAt hW hbw _).trans h3⟩
end Go.Proofs.YtkkcjnhfbblgiabDoor

/-
  proof.rootOf, as it landed: the root that a tree has of which a proof is one.
-/
namespace Go.Proofs.YtkkcjnhfbblgiabDoor
open Go.RowKit Go.Shelf
attribute [local go_sem] Oper.semAt_some
theorem tree_pair (P : Pr) (h : pairFaultF P = 0) : Tree [P] := (tree_iff [P]).1 (by
  refine pairsFault_none [P] (by simp) fun j hj => ?_
  obtain rfl : j = 0 := by simpa using hj
  exact (faultAt_iff [P] 0).2 ⟨h, fun h => by omega⟩)
/-- The digest, place by place. -/
def upR (S : List Stp) (P : Pr) (pre : List Nat) : List UInt8 := pre.foldl (fun d i => upS (S.getD i noStp) d) (leafD P)
theorem upR_nil (S : List Stp) (P : Pr) : upR S P [] = leafD P := by rw [upR, List.foldl_nil]
theorem leafD_len (P : Pr) : (leafD P).length = 32 := by rw [leafD]; exact sumF_len _
theorem upR_snoc (S : List Stp) (P : Pr) (pre : List Nat) (x : Nat) : upR S P (pre ++ [x]) = upS (S.getD x noStp) (upR S P pre) := by simp [upR]
theorem upS_len (s : Stp) (d : List UInt8) : (upS s d).length = 32 := by
  unfold upS forkD
  split <;> exact sumF_len _
theorem upR_len (S : List Stp) (P : Pr) (pre : List Nat) : (upR S P pre).length = 32 := by
  rcases List.eq_nil_or_concat pre with rfl | ⟨q, x, rfl⟩
  · rw [upR, List.foldl_nil, leafD]; exact sumF_len _
  · rw [List.concat_eq_append, upR_snoc]; exact upS_len _ _
theorem upR_dnl (S : List Stp) (P : Pr) : ∀ k, k ≤ S.length → upR S P (dnl S.length k) = upL (S.drop (S.length - k)) P
  | 0, _ => by simp [dnl, upR, upL]
  | k + 1, h => by
    rw [dnl_succ, upR_snoc, upR_dnl S P k (by omega)]
    have hd : S.drop (S.length - (k + 1)) = S.getD (S.length - 1 - k) noStp :: S.drop (S.length - k) := by
      rw [show S.length - (k + 1) = S.length - 1 - k by omega, List.drop_eq_getElem_cons (by omega), show S.length - 1 - k + 1 = S.length - k by omega]
      simp [show S.length - 1 - k < S.length by omega]
    rw [hd, upL]
theorem upR_all (S : List Stp) (P : Pr) : upR S P (dnl S.length S.length) = upL S P := by rw [upR_dnl S P _ (Nat.le_refl _), Nat.sub_self, List.drop_zero]
theorem below_grown {w w' : World} (h : Below w.heap.size w w') : w.grownBy w' none := ⟨h.os, h.tape, h.output, h.size, fun k hk _ => h.block k hk⟩
theorem grown_below {w w' : World} (h : w.grownBy w' none) : Below w.heap.size w w' := ⟨h.os, h.tape, h.output, h.size, fun k hk => by
  by_cases hlt : k < w.heap.size
  · exact h.block k hlt (by simp)
  · omega⟩
/-- The cells that the steps' digests have. -/
theorem steps_others {w : World} {a : Option Addr} {cap : Nat} {S : List Stp} (h : StepsIs w (.slice a S.length cap) S) :
    ∃ (fa : Nat → Option Addr) (fc : Nat → Nat), (∀ j, SliceIs w (.slice (fa j) (S.getD j noStp).other.length (fc j)) (S.getD j noStp).other) ∧ (S.length = 0 ∨ ∃ b o, a = some ⟨b, o, none⟩ ∧ b < w.heap.size ∧ ∀ j, j < S.length → (∃ x m q, Value.slice (fa j) (S.getD j noStp).other.length (fc j) = .slice x m q) ∧ w.cell? ⟨b, o + j * 3, none⟩ = some (.int .i64 (S.getD j noStp).bit) ∧ w.cell? ⟨b, o + j * 3 + 1, none⟩ = some (.bool (S.getD j noStp).right) ∧ w.cell? ⟨b, o + j * 3 + 2, none⟩ = some (.slice (fa j) (S.getD j noStp).other.length (fc j))) := by
  have key : ∀ j, ∃ f : Option Addr × Nat, SliceIs w (.slice f.1 (S.getD j noStp).other.length f.2) (S.getD j noStp).other ∧ (j < S.length → ∃ b o, a = some ⟨b, o, none⟩ ∧ b < w.heap.size ∧ w.cell? ⟨b, o + j * 3, none⟩ = some (.int .i64 (S.getD j noStp).bit) ∧ w.cell? ⟨b, o + j * 3 + 1, none⟩ = some (.bool (S.getD j noStp).right) ∧ w.cell? ⟨b, o + j * 3 + 2, none⟩ = some (.slice f.1 (S.getD j noStp).other.length f.2)) := by
    intro j
    by_cases hj : j < S.length
    · obtain ⟨b, o, rfl, vo, c1, c2, c3, hs⟩ := h.at j hj
      obtain ⟨oa, oc, rfl⟩ := hs.shape
      exact ⟨(oa, oc), hs, fun _ => ⟨b, o, rfl, cell_lt c1, c1, c2, c3⟩⟩
    · have e : S.getD j noStp = noStp := by simp [hj]
      rw [e]
      exact ⟨(none, 0), sliceIs_nil _, fun h => absurd h hj⟩
  obtain ⟨f, hf⟩ := Classical.axiomOfChoice key
  refine ⟨fun j => (f j).1, fun j => (f j).2, fun j => (hf j).1, ?_⟩
  by_cases h0 : S.length = 0
  · exact .inl h0
  · right
    obtain ⟨b, o, rfl, hb, _⟩ := (hf 0).2 (by omega)
    refine ⟨b, o, rfl, hb, fun j hj => ?_⟩
    obtain ⟨b', o', e, _, c1, c2, c3⟩ := (hf j).2 hj
    cases e
    exact ⟨⟨_, _, _, rfl⟩, c1, c2, c3⟩
/-- digest.Parts of a fork whose sides are short. -/
theorem forkNew (w : World) (B : Nat) (hB : B < 145) (x y : Value) (X Y : List UInt8) (hx : SliceIs w x X) (hy : SliceIs w y Y) (hX : X.length ≤ 32) (hY : Y.length ≤ 32) (ht : Tabs w) :
    Calls Tryd.prog 75 #[.int .u8 2, .slice (some ⟨w.heap.size + 1, 0, none⟩) 3 3] ((w.alloc (.cells #[.int .u8 (B : Int)] 5)).alloc (.cells #[.slice (some ⟨w.heap.size, 0, none⟩) 1 1, x, y] 23)) fun e w'' => ∃ z, e = .returned (.tuple #[z, .int .i64 0]) ∧ NewD w w'' z (sumF (joinF 2 [[UInt8.ofNat B], X, Y])) ∧ w.grownBy w'' none := by
  have hone : SliceIs (w.alloc (.cells #[.int .u8 (B : Int)] 5)) (.slice (some ⟨w.heap.size, 0, none⟩) 1 1) [UInt8.ofNat B] := by
    have := one_slice w (UInt8.ofNat B) 5
    rw [show (((UInt8.ofNat B).toNat : Nat) : Int) = (B : Int) by simp; omega] at this
    exact this
  have hgg : w.grownBy ((w.alloc (.cells #[.int .u8 (B : Int)] 5)).alloc (.cells #[.slice (some ⟨w.heap.size, 0, none⟩) 1 1, x, y] 23)) none := grown_alloc (World.grownBy_alloc _ _ _) _
  refine (parts_new _ 2 _ [[UInt8.ofNat B], X, Y] (plist_three _ _ _ _ _ [UInt8.ofNat B] X Y hone (hx.alloc _) (hy.alloc _) _ (by simp)) (by simp) ?_ (by rw [joinF_three]; simp; omega) (ht.grownNone hgg)).mono ?_
  · intro i hi
    match i, hi with
    | 0, _ => simp
    | 1, _ => simp; omega
    | 2, _ => simp; omega
  · rintro e w1 ⟨z, rfl, hz, hg1⟩
    exact ⟨z, rfl, hz.older hgg.size, grown_trans hgg hg1⟩
/-- A region that draws its order, in a round: as outside of one, where nothing is deferred. -/
theorem wpAnyIn_inRound {F : Fence} {n : Nat} {P : Program} {md : Region.Mode} {ops : Array Oper} {Q : Exit → Act → World → Prop} (l : Nat) (hF : F.round = none) (hd : ops.all (fun o => match o.op with | .defer _ => false | _ => true) = true) :
    ∀ (fuel : Nat) (listed : Array Bool) (a : Act) (w : World), wpAnyIn F n P md ops Q fuel listed a w → wpAnyIn (F.inRound l) n P md ops Q fuel listed a w := by
  have hsem : ∀ (i : Nat) (o : Oper), ops[i]? = some o → ∀ (ρ : Operand → Value), o.semAt (some l) ρ = o.semAt none ρ := by
    intro i o ho ρ
    have h1 : (match o.op with | .defer _ => false | _ => true) = true := by
      have := Array.all_eq_true.1 hd i (Array.getElem?_eq_some_iff.1 ho).1
      rw [(Array.getElem?_eq_some_iff.1 ho).2] at this
      exact this
    rw [Oper.semAt_eq _ _ _ (fun c e => by rw [e] at h1; cases h1), Oper.semAt_none]
  have hop : ∀ (i : Nat) (K K' : Act → World → Prop) (a : Act) (w : World), (∀ a w, K a w → K' a w) → wpOpIn F n P ops Q i K a w → wpOpIn (F.inRound l) n P ops Q i K' a w := by
    intro i K K' a w hK h
    have h := wpOpIn_mono hK h
    unfold wpOpIn at h ⊢
    cases ho : ops[i]? with
    | none => simp only [ho] at h ⊢; exact h
    | some o =>
      simp only [ho] at h ⊢
      by_cases hw : Region.wanted o (yielded ops a.tmps) = true
      · rw [if_pos hw] at h ⊢
        unfold Oper.wpIn at h ⊢
        refine ⟨h.1, ?_⟩
        have h2 := h.2
        rw [hF, ← hsem i o ho] at h2
        show o.uponIn (F.inRound l) n P a K' Q ((o.semAt (some l) a.eval).run P w)
        generalize (o.semAt (some l) a.eval).run P w = r at h2
        cases r with
        | ok x w' => cases x <;> exact h2
        | halt x w' => cases x <;> exact h2
      · rw [if_neg hw] at h ⊢; exact h
  intro fuel
  induction fuel with
  | zero => intro listed a w h; exact h
  | succ fuel ih => intro listed a w h; exact ⟨h.1, fun i hi => hop i _ _ a w (fun a w => ih _ a w) (h.2 i hi)⟩
/-- A box is written: bytes stay. -/
theorem sliceIs_box {W : World} {B : Nat} {t : TypeId} {v u : Value} {bs : List UInt8} (hb : Boxed W B t v) (hv : ∀ q, v ≠ .int .u8 q) (hs : SliceIs W u bs) (hl : 0 < bs.length) (x : Value) : SliceIs (W.setCell ⟨B, 0, none⟩ x) u bs := by
  obtain ⟨a, cap, rfl, hc, h⟩ := hs
  refine ⟨a, cap, rfl, hc, ?_⟩
  rcases h with ⟨rfl, _⟩ | ⟨b, o, rfl, h⟩
  · simp at hl
  · refine .inr ⟨b, o, rfl, fun i hi => ?_⟩
    have hne : b ≠ B := by
      rintro rfl
      have h0 := h i hi
      rw [World.cell?, show W.heap[b]? = some (.cells #[v] t (0, 0)) from hb] at h0
      by_cases h1 : o + i = 0
      · simp [h1] at h0; exact hv _ h0
      · simp at h0
        have := (List.getElem?_eq_some_iff.1 h0).1
        simp at this
        omega
    exact (World.cell?_setCell_other _ _ _ _ (fun e => hne (congrArg Addr.block e).symm)).trans (h i hi)
/-- A piece of code that goes on at one state alone. -/
theorem wpIn_cut {F : Fence} {n : Nat} {P : Program} {c : Code} {Q : Exit → Act → World → Prop} {a : Act} {w : World} {A : Act} {W2 : World}
    (h1 : c.wpIn F n P (fun e a' w' => e = .normal ∧ a' = A ∧ w' = W2) a w) (h2 : Q .normal A W2) : c.wpIn F n P Q a w :=
  Code.wpIn_mono (fun e a' w' ⟨e1, e2, e3⟩ => by subst e1 e2 e3; exact h2) h1
set_option maxRecDepth 100000 in
set_option maxHeartbeats 4000000 in
theorem prootOf_any (w : World) (v : Value) (k : List UInt8) (p : Prf) (hv : ProofIs w v p) (hm : May k p) (hf : PrfFits p) (ht : Tabs w) :
    Calls Tryd.prog 62 #[v] w fun e w' => ∃ x, e = .returned (.tuple #[x, .int .i64 0]) ∧ SliceIs w' x (rootP p) ∧ w.grownBy w' none := by
  obtain ⟨vs, vk, vv, rfl, hs, h1, h2⟩ := hv
  obtain ⟨sa, sc, rfl⟩ := hs.shape
  obtain ⟨ka, kc, rfl⟩ := h1.shape
  obtain ⟨va, vc, rfl⟩ := h2.shape
  rcases hm with ⟨he, hs0, hp1, hp2⟩ | ⟨he, hp, hst⟩
  · have hRP : rootP p = sumF [0] := by rw [rootP, he]; rfl
    rw [hRP, he]
    obtain ⟨W1, hW1⟩ : ∃ W1 : World, W1 = ((w.alloc (.cells #[.bool true, .slice sa p.steps.length sc, .slice ka p.pair.1.length kc, .slice va p.pair.2.length vc] 29)).alloc (.cells #[.slice none 0 0] 23)).alloc (.cells #[.int .i64 0] 30) := ⟨_, rfl⟩
    have hgW : w.grownBy W1 none := by rw [hW1]; exact grown_alloc (grown_alloc (World.grownBy_alloc _ _ _) _) _
    have HW1 : Hid (W1 = ((w.alloc (.cells #[.bool true, .slice sa p.steps.length sc, .slice ka p.pair.1.length kc, .slice va p.pair.2.length vc] 29)).alloc (.cells #[.slice none 0 0] 23)).alloc (.cells #[.int .i64 0] 30)) := hW1
    have RT : Hid (Calls Tryd.prog 20 #[.slice none 0 0] W1 fun e w'' => ∃ x, e = .returned (.tuple #[x, .int .i64 0]) ∧ NewD W1 w'' x (sumF [0]) ∧ W1.grownBy w'' none) := by
      have := troot_new W1 (.slice none 0 0) [] (pairsIs_nil _) ((tree_iff []).1 (pairsFault_none [] (by simp) (fun j hj => by simp at hj))) (ht.grownNone hgW)
      rw [rootL_none [] rfl] at this
      exact this
    have HBR : Hid (Boxed W1 (w.heap.size + 1) 23 (.slice none 0 0)) := by
      have := (Boxed.new (w.alloc (.cells #[.bool true, .slice sa p.steps.length sc, .slice ka p.pair.1.length kc, .slice va p.pair.2.length vc] 29)) 23 (.slice none 0 0)).alloc (.cells #[.int .i64 0] 30)
      rw [World.size_alloc] at this
      show Boxed _ _ _ _
      rw [hW1]; exact this
    have HBE : Hid (Boxed W1 (w.heap.size + 1 + 1) 30 (.int .i64 0)) := by
      have := Boxed.new ((w.alloc (.cells #[.bool true, .slice sa p.steps.length sc, .slice ka p.pair.1.length kc, .slice va p.pair.2.length vc] 29)).alloc (.cells #[.slice none 0 0] 23)) 30 (.int .i64 0)
      rw [World.size_alloc, World.size_alloc] at this
      show Boxed _ _ _ _
      rw [hW1]; exact this
    have hsz1 : W1.heap.size = w.heap.size + 1 + 1 + 1 := by rw [hW1]; simp
    have hSL : (sumF [0]).length = 32 := sumF_len _
    have HSL : Hid ((sumF [0]).length = 32) := hSL
    generalize sumF [0] = U at *
    clear hs h1 h2 hRP he hf hs0 hp1 hp2 hW1 hSL ht
    refine (callsIn_wide (n := 6)).1 ?_
    refine callsIn_of_wp Tryd.func62 rfl trivial ?_ rfl
    simp only [Tryd.ntmps62, List.size_toArray, List.length_cons, List.length_nil, Nat.reduceAdd, Nat.reduceSub, Array.replicate_succ, Array.replicate_zero, List.push_toArray, List.append_toArray, List.nil_append, List.cons_append]
    gi_wp2_with fail
    rw [← HW1.out]
    refine ⟨trivial, (callsIn_wide.2 RT.out).mono ?_⟩
    rintro e w2 ⟨x, rfl, hx, hg2⟩
    have sF : SliceIs ((w2.setCell ⟨w.heap.size + 1, 0, none⟩ x).setCell ⟨w.heap.size + 1 + 1, 0, none⟩ (.int .i64 0)) x U := ((hx.set _ (by omega) _ _).set _ (by omega) _ _).slice HSL.out
    obtain ⟨nb, hnb, rfl, hbx⟩ := hx
    have bR := HBR.out.kept hg2 (by simp)
    have bE := HBE.out.kept hg2 (by simp)
    have g3 := bR.cell
    have g4 := bR.frozen
    have g5 := bE.cell
    have g6 := bE.frozen
    have r1 := ((bR.set (.slice (some ⟨nb, 0, none⟩) 32 32)).other (B' := w.heap.size + 1 + 1) (by omega) (.int .i64 0)).cell
    have r2 := ((bE.other (B' := w.heap.size + 1) (by omega) (.slice (some ⟨nb, 0, none⟩) 32 32)).set (.int .i64 0)).cell
    have hgf : w.grownBy ((w2.setCell ⟨w.heap.size + 1, 0, none⟩ (.slice (some ⟨nb, 0, none⟩) 32 32)).setCell ⟨w.heap.size + 1 + 1, 0, none⟩ (.int .i64 0)) none := grown_setNew (grown_setNew (grown_trans hgW hg2) _ (by omega) _ _) _ (by omega) _ _
    gi_wp2
    refine bodyPost_ret (v := .tuple #[.slice (some ⟨nb, 0, none⟩) 32 32, .int .i64 0]) (by simp [results, Tryd.results62, go_sem, r1, r2]) rfl ?_
    exact ⟨_, rfl, sF, hgf⟩
  · obtain ⟨fa, fc, hfs, hcells⟩ := steps_others hs
    have hfine : ∀ x : Nat, (0 ≤ (p.steps.getD x noStp).bit ∧ (p.steps.getD x noStp).bit ≤ 144) ∧ (p.steps.getD x noStp).other.length ≤ 32 := by
      intro x
      by_cases hx : x < p.steps.length
      · obtain ⟨g1, g2, _⟩ := hst x hx
        exact ⟨g1, by omega⟩
      · rw [show p.steps.getD x noStp = noStp by simp [hx]]; exact ⟨by decide, by decide⟩
    have hT := tree_pair p.pair hp
    have RT : Hid (∀ w', w.grownBy w' none → Calls Tryd.prog 20 #[.slice (some ⟨w'.heap.size, 0, none⟩) 1 1] (w'.alloc (.cells #[.slice ka p.pair.1.length kc, .slice va p.pair.2.length vc] 27)) fun e w'' => ∃ x, e = .returned (.tuple #[x, .int .i64 0]) ∧ NewD w' w'' x (leafD p.pair) ∧ w'.grownBy w'' none) := by
      intro w' hg
      have hga := World.grownBy_alloc w' (.cells #[.slice ka p.pair.1.length kc, .slice va p.pair.2.length vc] 27) none
      have hone : PairsIs (w'.alloc (.cells #[.slice ka p.pair.1.length kc, .slice va p.pair.2.length vc] 27)) (.slice (some ⟨w'.heap.size, 0, none⟩) 1 1) [p.pair] := by
        refine ⟨_, 1, rfl, by simp, .inr ⟨w'.heap.size, 0, rfl, fun i hi => ?_⟩⟩
        obtain rfl : i = 0 := by simpa using hi
        exact ⟨_, _, by simp, by simp, (h1.grown hg).alloc _, (h2.grown hg).alloc _⟩
      refine (troot_new _ _ [p.pair] hone hT (ht.grownNone (grown_trans hg hga))).mono ?_
      rintro e w'' ⟨x, rfl, hx, hg2⟩
      rw [rootL_one [p.pair] (by simp)] at hx
      exact ⟨x, rfl, hx.older hga.size, grown_trans hga hg2⟩
    have hRP : rootP p = upL p.steps p.pair := by rw [rootP, he]; rfl
    rw [hRP, he]
    have hfl := hf.1
    generalize hS : p.steps = S at *
    generalize p.pair = P at *
    clear hs h1 h2 hst hp hT hRP he hf
    refine (callsIn_wide (n := 6)).1 ?_
    refine callsIn_of_wp_marks Tryd.func62 rfl trivial ?_ rfl
    simp only [Tryd.ntmps62, List.size_toArray, List.length_cons, List.length_nil, Nat.reduceAdd, Nat.reduceSub, Array.replicate_succ, Array.replicate_zero, List.push_toArray, List.append_toArray, List.nil_append, List.cons_append]
    obtain ⟨W1, hW1⟩ : ∃ W1 : World, W1 = ((w.alloc (.cells #[.bool false, .slice sa S.length sc, .slice ka P.1.length kc, .slice va P.2.length vc] 29)).alloc (.cells #[.slice none 0 0] 23)).alloc (.cells #[.int .i64 0] 30) := ⟨_, rfl⟩
    have hgW : w.grownBy W1 none := by rw [hW1]; exact grown_alloc (grown_alloc (World.grownBy_alloc _ _ _) _) _
    have HW1 : Hid (W1 = ((w.alloc (.cells #[.bool false, .slice sa S.length sc, .slice ka P.1.length kc, .slice va P.2.length vc] 29)).alloc (.cells #[.slice none 0 0] 23)).alloc (.cells #[.int .i64 0] 30)) := hW1
    have hsz1 : W1.heap.size = w.heap.size + 1 + 1 + 1 := by rw [hW1]; simp
    have bP : Hid (W1.heap[w.heap.size]? = some (.cells #[.bool false, .slice sa S.length sc, .slice ka P.1.length kc, .slice va P.2.length vc] 29)) := by
      show _ = _
      rw [hW1]; exact pair_old (grown_alloc (World.grownBy_alloc _ _ _) _) (heap_alloc_new w _)
    have bR : Boxed W1 (w.heap.size + 1) 23 (.slice none 0 0) := by
      have := (Boxed.new (w.alloc (.cells #[.bool false, .slice sa S.length sc, .slice ka P.1.length kc, .slice va P.2.length vc] 29)) 23 (.slice none 0 0)).alloc (.cells #[.int .i64 0] 30)
      rw [World.size_alloc] at this
      rw [hW1]; exact this
    have bE : Boxed W1 (w.heap.size + 1 + 1) 30 (.int .i64 0) := by
      have := Boxed.new ((w.alloc (.cells #[.bool false, .slice sa S.length sc, .slice ka P.1.length kc, .slice va P.2.length vc] 29)).alloc (.cells #[.slice none 0 0] 23)) 30 (.int .i64 0)
      rw [World.size_alloc, World.size_alloc] at this
      rw [hW1]; exact this
    have HBR : Hid (Boxed W1 (w.heap.size + 1) 23 (.slice none 0 0)) := bR
    have HBE : Hid (Boxed W1 (w.heap.size + 1 + 1) 30 (.int .i64 0)) := bE
    have RT1 : Hid (Calls Tryd.prog 20 #[.slice (some ⟨w.heap.size + 1 + 1 + 1, 0, none⟩) 1 1] (W1.alloc (.cells #[.slice ka P.1.length kc, .slice va P.2.length vc] 27)) fun e w'' => ∃ x, e = .returned (.tuple #[x, .int .i64 0]) ∧ NewD W1 w'' x (leafD P) ∧ W1.grownBy w'' none) := by
      have := RT.out W1 hgW
      rw [hsz1] at this
      exact this
    clear hW1 bR bE RT
    gi_wp2_with fail
    rw [← HW1.out]
    refine ⟨trivial, (callsIn_wide.2 RT1.out).mono ?_⟩
    rintro e w2 ⟨x, rfl, hx, hg2⟩
    obtain ⟨nb, hnb, rfl, hbx⟩ := hx
    have hsz2 := hg2.size
    have bP2 := pair_old hg2 bP.out
    obtain ⟨⟨y0, y1, y2, y3⟩, _⟩ := quad_room (grown_refl w2 none) bP2
    obtain ⟨W2, hW2⟩ : ∃ W2 : World, W2 = (w2.alloc (.cells #[.slice (some ⟨nb, 0, none⟩) 32 32] 23)).alloc (.cells #[.int .i64 0] 30) := ⟨_, rfl⟩
    have hg22 : w2.grownBy W2 none := by rw [hW2]; exact grown_alloc (World.grownBy_alloc _ _ _) _
    have z1 : ((w2.alloc (.cells #[.slice (some ⟨nb, 0, none⟩) 32 32] 23)).alloc (.cells #[.int .i64 0] 30)).cell? ⟨w.heap.size, 1, none⟩ = some (.slice sa S.length sc) := by rw [← hW2]; exact hg22.cell y1 (by simp)
    clear y0 y1 y2 y3 bP2 bP
    gi_wp2_with (refine ⟨trivial, ?_⟩; gi_at_call 89; refine (upward_in Fence.wide _ trivial rfl _ _ _ _).mono ?_; rintro e w3 ⟨rfl, rfl⟩)
    have hgF : W1.grownBy ((((w2.alloc (.cells #[.slice (some ⟨nb, 0, none⟩) 32 32] 23)).alloc (.cells #[.int .i64 0] 30)).alloc (.cells #[.slice sa S.length sc] 25))) none := grown_alloc (grown_alloc (grown_alloc hg2 _) _) _
    have hg2F : w2.grownBy ((((w2.alloc (.cells #[.slice (some ⟨nb, 0, none⟩) 32 32] 23)).alloc (.cells #[.int .i64 0] 30)).alloc (.cells #[.slice sa S.length sc] 25))) none := grown_alloc (grown_alloc (grown_alloc (grown_refl _ _) _) _) _
    have bX := ((Boxed.new w2 23 (.slice (some ⟨nb, 0, none⟩) 32 32)).alloc (.cells #[.int .i64 0] 30)).alloc (.cells #[.slice sa S.length sc] 25)
    have bE := (Boxed.new (w2.alloc (.cells #[.slice (some ⟨nb, 0, none⟩) 32 32] 23)) 30 (.int .i64 0)).alloc (.cells #[.slice sa S.length sc] 25)
    have bC := Boxed.new ((w2.alloc (.cells #[.slice (some ⟨nb, 0, none⟩) 32 32] 23)).alloc (.cells #[.int .i64 0] 30)) 25 (.slice sa S.length sc)
    simp only [World.size_alloc] at bE bC
    have bR0 := HBR.out.kept hgF (by simp)
    have bE0 := HBE.out.kept hgF (by simp)
    have sX : SliceIs ((((w2.alloc (.cells #[.slice (some ⟨nb, 0, none⟩) 32 32] 23)).alloc (.cells #[.int .i64 0] 30)).alloc (.cells #[.slice sa S.length sc] 25))) (.slice (some ⟨nb, 0, none⟩) 32 32) (upR S P []) := by
      rw [upR_nil]
      exact (hbx.slice32 (leafD_len P)).grown hg2F
    have hB0 : Below w.heap.size w ((((w2.alloc (.cells #[.slice (some ⟨nb, 0, none⟩) 32 32] 23)).alloc (.cells #[.int .i64 0] 30)).alloc (.cells #[.slice sa S.length sc] 25))) := grown_below (grown_trans hgW hgF)
    have hszF : ((((w2.alloc (.cells #[.slice (some ⟨nb, 0, none⟩) 32 32] 23)).alloc (.cells #[.int .i64 0] 30)).alloc (.cells #[.slice sa S.length sc] 25))).heap.size = w2.heap.size + 1 + 1 + 1 := by simp
    obtain ⟨W0, hW0⟩ : ∃ W0, ((((w2.alloc (.cells #[.slice (some ⟨nb, 0, none⟩) 32 32] 23)).alloc (.cells #[.int .i64 0] 30)).alloc (.cells #[.slice sa S.length sc] 25))) = W0 := ⟨_, rfl⟩
    rw [hW0] at hgF hg2F bX bE bC bR0 bE0 sX hB0 hszF ⊢
    clear hW0 hW2 hg22 z1 hbx hnb hg2 HBR HBE RT1 HW1 hg2F
    have hw12 : w.heap.size + 1 + 1 + 1 ≤ w2.heap.size := by rw [hsz1] at hsz2; exact hsz2
    have HI : OwnFrom W0.heap.size (fun (pre : List Nat) W => ((∃ a c', Boxed W w2.heap.size 23 (.slice a 32 c') ∧ SliceIs W (.slice a 32 c') (upR S P pre)) ∧ Boxed W (w2.heap.size + 1) 30 (.int .i64 0)) ∧ ((Boxed W (w.heap.size + 1) 23 (.slice none 0 0) ∧ Boxed W (w.heap.size + 1 + 1) 30 (.int .i64 0)) ∧ Boxed W (w2.heap.size + 1 + 1) 25 (.slice sa S.length sc)) ∧ Below w.heap.size w W) := by
      intro pre X Y row hs hg hr
      obtain ⟨⟨⟨a, c', h1, h2⟩, h3⟩, ⟨⟨h4, h5⟩, h6⟩, h7⟩ := hs
      have hr' : ∀ r, row = some r → ∃ o : Obj, X.heap[r]? = some o ∧ o.isCells = false := fun r e => (hr r e).2
      have bo : ∀ {B : Nat} {t : TypeId} {v : Value}, Boxed X B t v → Boxed Y B t v := fun {B t v} h => boxed_own B t (fun (_ : Unit) => v) () X Y row h hg hr'
      refine ⟨⟨⟨a, c', bo h1, ?_⟩, bo h3⟩, ⟨⟨bo h4, bo h5⟩, bo h6⟩, ownFrom_below (β := Unit) (Nat.le_refl _) (by rw [hszF]; omega) () X Y row h7 hg hr⟩
      obtain ⟨a', c'', e, hc, h⟩ := h2
      refine ⟨a', c'', e, hc, ?_⟩
      rcases h with h | ⟨b, o, rfl, h⟩
      · exact .inl h
      · exact .inr ⟨b, o, rfl, fun i hi => cell_kept (h i hi) hg hr'⟩
    refine wpIn_rangeFunc_ownH rfl (by omega) (gf := 112) (lb := #[.pointer (some ⟨w2.heap.size + 1 + 1, 0, none⟩)]) rfl trivial (enters_of Tryd.func112 (by kernel_rfl) rfl)
      (up_stops Fence.wide 5 trivial rfl (by omega) (w2.heap.size + 1 + 1) w.heap.size sa sc S (fun j => .slice (fa j) (S.getD j noStp).other.length (fc j)) (by omega) W0 (by omega) (by omega) bC.cell ?cells)
      kpU_t (kpU_b (by omega) (by omega)) (Below.refl _ _) (fun _ => rfl)
      _ (fun _ _ _ => False) HI (fun _ _ _ _ _ hs _ _ => hs)
      ⟨⟨⟨_, _, bX, sX⟩, bE⟩, ⟨⟨bR0, bE0⟩, bC⟩, hB0⟩
      (fun x a' W => ∃ Bx, w2.heap.size + 1 + 1 < Bx ∧ W.heap[Bx]? = some (.cells #[.int .i64 (S.getD x noStp).bit, .bool (S.getD x noStp).right, .slice (fa x) (S.getD x noStp).other.length (fc x)] 71) ∧ a' = { tmps := #[.agg #[.bool false, .slice sa S.length sc, .slice ka P.1.length kc, .slice va P.2.length vc], .pointer (some ⟨w.heap.size, 0, none⟩), .pointer (some ⟨w.heap.size + 1, 0, none⟩), .pointer (some ⟨w.heap.size + 1 + 1, 0, none⟩), .pointer (some ⟨w2.heap.size, 0, none⟩), .pointer (some ⟨w2.heap.size + 1, 0, none⟩), .pointer (some ⟨Bx, 0, none⟩), undef, undef, .pointer (some ⟨w.heap.size, 0, none⟩), .bool false, undef, undef, undef, .tuple #[.slice (some ⟨nb, 0, none⟩) 32 32, .int .i64 0], .pointer (some ⟨w.heap.size, 2, none⟩), .agg #[.slice ka P.1.length kc, .slice va P.2.length vc], .slice (some ⟨w.heap.size + 1 + 1 + 1, 0, none⟩) 1 1, .tuple #[.slice (some ⟨nb, 0, none⟩) 32 32, .int .i64 0], .slice (some ⟨nb, 0, none⟩) 32 32, .int .i64 0, .pointer (some ⟨w.heap.size, 1, none⟩), .slice sa S.length sc, .func (.func 112) #[] #[.pointer (some ⟨w2.heap.size + 1 + 1, 0, none⟩)], .agg #[.int .i64 (S.getD x noStp).bit, .bool (S.getD x noStp).right, .slice (fa x) (S.getD x noStp).other.length (fc x)], undef, undef, undef, undef, undef, undef, undef, undef, undef, undef, undef, undef, undef, undef, undef, undef, undef, undef, undef, undef, undef, undef, undef, undef, undef, undef, undef, undef, undef], defers := [] })
      ?ax ?assign ?body ?done ?stop
    case cells =>
      rcases hcells with h | ⟨b, o, h1, h2, h3⟩
      · exact .inl h
      · refine .inr ⟨b, o, h1, h2, fun j hj => ?_⟩
        obtain ⟨g0, g1, g2, g3⟩ := h3 j hj
        exact ⟨g0, (Below.stepAt hB0 h2 _).trans g1, (Below.stepAt hB0 h2 _).trans g2, (Below.stepAt hB0 h2 _).trans g3⟩
    case ax =>
      rintro x a' _ X Y row ⟨Bx, h1, h2, h3⟩ hg hr
      refine ⟨Bx, h1, ?_, h3⟩
      rw [hg.block Bx (Array.getElem?_eq_some_iff.1 h2).1 ?_]
      · exact h2
      · intro e
        obtain ⟨_, o, ho, hc⟩ := hr Bx e.symm
        rw [h2] at ho; cases ho; cases hc
    case assign =>
      rintro l pre x W K hIp hK
      have hIa := HI.alloc (.cells #[.int .i64 (S.getD x noStp).bit, .bool (S.getD x noStp).right, .slice (fa x) (S.getD x noStp).other.length (fc x)] 71) hIp
      obtain ⟨_, ⟨_, bCx⟩, hBx⟩ := hIp
      have hlt := bCx.lt
      gi_wp2
      exact hK _ _ ((KeepsOthers.alloc _ _).from _) ⟨(Below.refl _ W).alloc hBx.size _, fun h => Below.heap_alloc W _ _ h⟩ hIa ⟨W.heap.size, hlt, heap_alloc_new W _, rfl⟩
    case body =>
      rintro l pre x a' W hl ⟨r, hr⟩ ⟨⟨⟨a, c', bX1, sX1⟩, bE1⟩, ⟨⟨bR1, bE2⟩, bC1⟩, hB1⟩ ⟨Bx, hBx, hcx, rfl⟩ hlt
      obtain ⟨hbit, hoth⟩ := hfine x
      have hgw := below_grown hB1
      have sO : SliceIs W (.slice (fa x) (S.getD x noStp).other.length (fc x)) (S.getD x noStp).other := (hfs x).grown hgw
      have eU := upR_snoc S P pre x
      have lU := upR_len S P pre
      have htW := ht.grownNone hgw
      obtain ⟨D', hDX⟩ : ∃ D', upR S P (pre ++ [x]) = D' := ⟨_, rfl⟩
      have HDX : Hid (upR S P (pre ++ [x]) = D') := hDX
      rw [hDX] at eU
      clear hDX
      generalize upR S P pre = D at *
      generalize S.getD x noStp = st at *
      obtain ⟨B, hB⟩ : ∃ B : Nat, st.bit = (B : Int) := ⟨st.bit.toNat, by omega⟩
      have hB145 : B < 145 := by omega
      rw [hB] at hcx ⊢
      have hga := World.grownBy_alloc W (.cells #[.slice none 0 0, .slice none 0 0] 123) none
      obtain ⟨⟨x0, x1, x2⟩, _⟩ := three_cells (pair_old hga hcx)
      obtain ⟨n0, n1, f0, f1⟩ := two_cells (heap_alloc_new W (.cells #[.slice none 0 0, .slice none 0 0] 123))
      have hBxl : Bx < W.heap.size := (Array.getElem?_eq_some_iff.1 hcx).1
      have ne1 : ¬ Bx = W.heap.size := by omega
      have ne2 : ¬ w2.heap.size = W.heap.size := by have := bX1.lt; omega
      obtain ⟨⟨_, _, x2W⟩, _⟩ := three_cells hcx
      have q1 : (W.alloc (.cells #[.slice a 32 c', .slice none 0 0] 123)).cell? ⟨Bx, 2, none⟩ = some (.slice (fa x) st.other.length (fc x)) := (World.grownBy_alloc _ _ none).cell x2W (by simp)
      have q2 : (W.alloc (.cells #[.slice none 0 0, .slice a 32 c'] 123)).cell? ⟨Bx, 2, none⟩ = some (.slice (fa x) st.other.length (fc x)) := (World.grownBy_alloc _ _ none).cell x2W (by simp)
      have wr1 : IntKind.i64.wrap 1 = 1 := by decide
      have wr0 : IntKind.i64.wrap 0 = 0 := by decide
      have e1 := bE1.cell
      have e2 := (bX1.alloc (.cells #[.slice none 0 0, .slice none 0 0] 123)).cell
      have KEEP : ∀ (aa : Act) (V w4 : World) (z : Value), W.grownBy V none → V.grownBy w4 none → NewD V w4 z D' → ownPostG W0.heap.size (KpU w.heap.size (w2.heap.size + 1 + 1)) (fun (pre : List Nat) W => ((∃ a c', Boxed W w2.heap.size 23 (.slice a 32 c') ∧ SliceIs W (.slice a 32 c') (upR S P pre)) ∧ Boxed W (w2.heap.size + 1) 30 (.int .i64 0)) ∧ ((Boxed W (w.heap.size + 1) 23 (.slice none 0 0) ∧ Boxed W (w.heap.size + 1 + 1) 30 (.int .i64 0)) ∧ Boxed W (w2.heap.size + 1 + 1) 25 (.slice sa S.length sc)) ∧ Below w.heap.size w W) (fun _ _ _ => False) (pre ++ [x]) W .normal aa ((w4.setCell ⟨w2.heap.size, 0, none⟩ z).setCell ⟨w2.heap.size + 1, 0, none⟩ (.int .i64 0)) := by
        intro aa V w4 z hgV hg4 hz
        have hWV := hgV.size
        have hw4 := hg4.size
        have l1 := bC1.lt
        have l2 := bX1.lt
        have hgW4 := grown_trans hgV hg4
        have hz2 := (hz.set w2.heap.size (by omega) 0 z).set (w2.heap.size + 1) (by omega) 0 (.int .i64 0)
        have kb : ∀ {b : Nat} {t : TypeId} {v : Value}, Boxed W b t v → b ≠ w2.heap.size → b ≠ w2.heap.size + 1 → Boxed ((w4.setCell ⟨w2.heap.size, 0, none⟩ z).setCell ⟨w2.heap.size + 1, 0, none⟩ (.int .i64 0)) b t v := fun {b t v} h h1 h2 => ((h.kept hgW4 (by simp)).other h1 _).other h2 _
        have ez : SliceIs ((w4.setCell ⟨w2.heap.size, 0, none⟩ z).setCell ⟨w2.heap.size + 1, 0, none⟩ (.int .i64 0)) z (upR S P (pre ++ [x])) := by
          rw [HDX.out]
          exact hz2.slice (by rw [eU]; exact upS_len _ _)
        obtain ⟨nz, _, rfl, _⟩ := hz
        refine ⟨?_, ⟨?_, ?_⟩, ⟨⟨_, _, ((bX1.kept hgW4 (by simp)).set _).other (by omega) _, ez⟩, ((bE1.kept hgW4 (by simp)).other (by omega) _).set _⟩, ⟨⟨kb bR1 (by omega) (by omega), kb bE2 (by omega) (by omega)⟩, kb bC1 (by omega) (by omega)⟩, ?_⟩
        · exact ((KeepsFrom.of_grownBy hgW4 (fun j e => by cases e)).trans ((KeepsOthers.setCell _ _ _).from _)).trans ((KeepsOthers.setCell _ _ _).from _)
        · exact (((grown_below hgW4).mono (by omega)).trans ((Below.refl _ _).setCell (p := ⟨w2.heap.size, 0, none⟩) (show w.heap.size ≤ w2.heap.size by omega) _)).trans ((Below.refl _ _).setCell (p := ⟨w2.heap.size + 1, 0, none⟩) (show w.heap.size ≤ w2.heap.size + 1 by omega) _)
        · intro hc
          rw [(grown_set (grown_refl (w4.setCell ⟨w2.heap.size, 0, none⟩ (.slice (some ⟨nz, 0, none⟩) 32 32)) (some (w2.heap.size + 1))) 0 (.int .i64 0)).block _ (by have := (grown_set (grown_refl w4 (some w2.heap.size)) 0 (.slice (some ⟨nz, 0, none⟩) 32 32)).size; omega) (by simp), (grown_set (grown_refl w4 (some w2.heap.size)) 0 (.slice (some ⟨nz, 0, none⟩) 32 32)).block _ (by omega) (by simp; omega), hgW4.block _ (by omega) (by simp)]
        · exact grown_below (grown_setNew (grown_setNew (grown_trans hgw hgW4) _ (by omega) _ _) _ (by omega) _ _)
      cases hr : st.right with
      | false =>
        rw [hr] at x1
        rw [upS, hr, if_neg (by simp), forkD, hB, Int.toNat_natCast] at eU
        gi_wp2_with (refine ⟨trivial, ?_⟩; gi_at_call 81; refine (CallsIn.inRound l (callsIn_wide.2 (sideOf_false _))).mono ?_; rintro e w' ⟨rfl, rfl⟩)
        apply wpIn_cut
        · refine wpIn_region_any (by kernel_rfl) (wpAnyIn_inRound (F := Fence.wide) l rfl (by kernel_rfl) _ _ _ _ ?_)
          change wpAnyIn _ _ _ _ _ _ _ _ _ (World.drew _)
          refine wpAnyIn_take (i := 0) (v := ?_) rfl rfl (by kernel_rfl) (by kernel_rfl) (by kernel_rfl) (fun _ _ _ h => (by cases h.1)) ⟨Or.inl ⟨by rfl, ?_⟩, fun _ => rfl⟩ ?_
          rotate_left 1
          · intro w; go_simp
            try with_reducible rfl
          refine wpAnyIn_take (i := 1) (v := ?_) rfl rfl (by kernel_rfl) (by kernel_rfl) (by kernel_rfl) (fun _ _ _ h => (by cases h.1)) ⟨Or.inl ⟨by rfl, ?_⟩, fun _ => rfl⟩ ?_
          rotate_left 1
          · intro w; go_simp
            try with_reducible rfl
          refine wpAnyIn_take (i := 2) (v := ?_) rfl rfl (by kernel_rfl) (by kernel_rfl) (by kernel_rfl) (fun _ _ _ h => (by cases h.1)) ⟨Or.inl ⟨by rfl, ?_⟩, fun _ => rfl⟩ ?_
          rotate_left 1
          · intro w; go_simp
            try with_reducible rfl
          refine wpAnyIn_take (i := 4) (v := ?_) rfl rfl (by kernel_rfl) (by kernel_rfl) (by kernel_rfl) (fun _ _ _ h => (by cases h.1)) ⟨Or.inl ⟨by rfl, ?_⟩, fun _ => rfl⟩ ?_
          rotate_left 1
          · intro w; go_simp
            try with_reducible rfl
          refine wpAnyIn_ready (rs := [3, 5]) (by kernel_rfl) (by simp) ?_
          refine AllReadyIn.cons rfl (fun KK hK => ?_) ?_
          · go_simp
            refine hK _ _ ?_
            clear hK KK
            refine wpAnyIn_take (i := 6) (v := ?_) rfl rfl (by kernel_rfl) (by kernel_rfl) (by kernel_rfl) (fun _ _ _ h => (by cases h.1)) ⟨Or.inl ⟨by rfl, ?_⟩, fun _ => rfl⟩ ?_
            rotate_left 1
            · intro w; go_simp
              try with_reducible rfl
            refine wpAnyIn_ready (rs := [5, 7]) (by kernel_rfl) (by simp) ?_
            refine AllReadyIn.cons rfl (fun KK hK => ?_) ?_
            · go_simp
              refine hK _ _ ?_
              clear hK KK
              refine wpAnyIn_ready (rs := [7]) (by kernel_rfl) (by simp) ?_
              refine AllReadyIn.cons rfl (fun KK hK => ?_) ?_
              · go_simp
                refine hK _ _ ?_
                clear hK KK
                refine wpAnyIn_take (i := 8) (v := ?_) rfl rfl (by kernel_rfl) (by kernel_rfl) (by kernel_rfl) (fun _ _ _ h => (by cases h.1)) ⟨Or.inl ⟨by rfl, ?_⟩, fun _ => rfl⟩ ?_
                rotate_left 1
                · intro w; go_simp
                  try with_reducible rfl
                refine wpAnyIn_ready (rs := [9]) (by kernel_rfl) (by simp) ?_
                refine AllReadyIn.cons rfl (fun KK hK => ?_) ?_
                · go_simp
                  refine hK _ _ ?_
                  clear hK KK
                  refine wpAnyIn_done (by kernel_rfl) ?_ _
                  exact ⟨rfl, rfl, rfl⟩
                exact AllReadyIn.nil
              exact AllReadyIn.nil
            refine AllReadyIn.cons rfl (fun KK hK => ?_) ?_
            · go_simp
              refine hK _ _ ?_
              clear hK KK
              refine wpAnyIn_ready (rs := [5]) (by kernel_rfl) (by simp) ?_
              refine AllReadyIn.cons rfl (fun KK hK => ?_) ?_
              · go_simp
                refine hK _ _ ?_
                clear hK KK
                refine wpAnyIn_take (i := 8) (v := ?_) rfl rfl (by kernel_rfl) (by kernel_rfl) (by kernel_rfl) (fun _ _ _ h => (by cases h.1)) ⟨Or.inl ⟨by rfl, ?_⟩, fun _ => rfl⟩ ?_
                rotate_left 1
                · intro w; go_simp
                  try with_reducible rfl
                refine wpAnyIn_ready (rs := [9]) (by kernel_rfl) (by simp) ?_
                refine AllReadyIn.cons rfl (fun KK hK => ?_) ?_
                · go_simp
                  refine hK _ _ ?_
                  clear hK KK
                  refine wpAnyIn_done (by kernel_rfl) ?_ _
                  exact ⟨rfl, rfl, rfl⟩
                exact AllReadyIn.nil
              exact AllReadyIn.nil
            exact AllReadyIn.nil
          refine AllReadyIn.cons rfl (fun KK hK => ?_) ?_
          · go_simp
            refine hK _ _ ?_
            clear hK KK
            refine wpAnyIn_ready (rs := [3]) (by kernel_rfl) (by simp) ?_
            refine AllReadyIn.cons rfl (fun KK hK => ?_) ?_
            · go_simp
              refine hK _ _ ?_
              clear hK KK
              refine wpAnyIn_take (i := 6) (v := ?_) rfl rfl (by kernel_rfl) (by kernel_rfl) (by kernel_rfl) (fun _ _ _ h => (by cases h.1)) ⟨Or.inl ⟨by rfl, ?_⟩, fun _ => rfl⟩ ?_
              rotate_left 1
              · intro w; go_simp
                try with_reducible rfl
              refine wpAnyIn_ready (rs := [7]) (by kernel_rfl) (by simp) ?_
              refine AllReadyIn.cons rfl (fun KK hK => ?_) ?_
              · go_simp
                refine hK _ _ ?_
                clear hK KK
                refine wpAnyIn_take (i := 8) (v := ?_) rfl rfl (by kernel_rfl) (by kernel_rfl) (by kernel_rfl) (fun _ _ _ h => (by cases h.1)) ⟨Or.inl ⟨by rfl, ?_⟩, fun _ => rfl⟩ ?_
                rotate_left 1
                · intro w; go_simp
                  try with_reducible rfl
                refine wpAnyIn_ready (rs := [9]) (by kernel_rfl) (by simp) ?_
                refine AllReadyIn.cons rfl (fun KK hK => ?_) ?_
                · go_simp
                  refine hK _ _ ?_
                  clear hK KK
                  refine wpAnyIn_done (by kernel_rfl) ?_ _
                  exact ⟨rfl, rfl, rfl⟩
                exact AllReadyIn.nil
              exact AllReadyIn.nil
            exact AllReadyIn.nil
          exact AllReadyIn.nil
        have hgV : W.grownBy (W.alloc (.cells #[.slice a 32 c', .slice (fa x) st.other.length (fc x)] 123)).drew none := grown_drew (World.grownBy_alloc _ _ _)
        obtain ⟨⟨y0, _, _⟩, _⟩ := three_cells (pair_old hgV hcx)
        obtain ⟨m0, m1, _, _⟩ := two_cells (heap_alloc_new W (.cells #[.slice a 32 c', .slice (fa x) st.other.length (fc x)] 123))
        have DP : Hid (Calls Tryd.prog 75 #[.int .u8 2, .slice (some ⟨W.heap.size + 1 + 1, 0, none⟩) 3 3] (((W.alloc (.cells #[.slice a 32 c', .slice (fa x) st.other.length (fc x)] 123)).alloc (.cells #[.int .u8 (B : Int)] 5)).alloc (.cells #[.slice (some ⟨W.heap.size + 1, 0, none⟩) 1 1, .slice a 32 c', .slice (fa x) st.other.length (fc x)] 23)).drew fun e w'' => ∃ z, e = .returned (.tuple #[z, .int .i64 0]) ∧ NewD (W.alloc (.cells #[.slice a 32 c', .slice (fa x) st.other.length (fc x)] 123)).drew w'' z D' ∧ (W.alloc (.cells #[.slice a 32 c', .slice (fa x) st.other.length (fc x)] 123)).drew.grownBy w'' none) := by
          have := forkNew (W.alloc (.cells #[.slice a 32 c', .slice (fa x) st.other.length (fc x)] 123)).drew B hB145 _ _ D st.other (sX1.grown hgV) (sO.grown hgV) (by omega) hoth (htW.grownNone hgV)
          rw [show (W.alloc (.cells #[.slice a 32 c', .slice (fa x) st.other.length (fc x)] 123)).drew.heap.size = W.heap.size + 1 from World.size_alloc _ _, ← eU] at this
          exact this
        have y0' : (W.alloc (.cells #[.slice a 32 c', .slice (fa x) st.other.length (fc x)] 123)).cell? ⟨Bx, 0, none⟩ = some (.int .i64 (B : Int)) := y0
        have bXV : Boxed (W.alloc (.cells #[.slice a 32 c', .slice (fa x) st.other.length (fc x)] 123)).drew w2.heap.size 23 (.slice a 32 c') := bX1.alloc _
        have bEV : Boxed (W.alloc (.cells #[.slice a 32 c', .slice (fa x) st.other.length (fc x)] 123)).drew (w2.heap.size + 1) 30 (.int .i64 0) := bE1.alloc _
        clear m0 m1 e1 e2 x0 x1 x2 n0 n1 f0 f1 q1 q2 x2W
        obtain ⟨⟨y0, _, _⟩, _⟩ := three_cells (pair_old hgV hcx)
        obtain ⟨m0, m1, _, _⟩ := two_cells (heap_alloc_new W (.cells #[.slice a 32 c', .slice (fa x) st.other.length (fc x)] 123))
        gi_wp2_with (refine ⟨trivial, ?_⟩; gi_at_call 75; refine (CallsIn.inRound l (callsIn_wide.2 DP.out)).mono ?_; rintro e w4 ⟨z, rfl, hz, hg4⟩; have hK4 := fun aa => KEEP aa _ w4 z hgV hg4 hz; obtain ⟨nz, hnz, rfl, hbz⟩ := hz; have b4 := bXV.kept hg4 (by simp); have b5 := bEV.kept hg4 (by simp); have g1 := b4.cell; have g2 := b4.frozen; have g3 := b5.cell; have g4 := b5.frozen)
        exact hK4 _
      | true =>
        rw [hr] at x1
        rw [upS, hr, if_pos rfl, forkD, hB, Int.toNat_natCast] at eU
        gi_wp2_with (refine ⟨trivial, ?_⟩; gi_at_call 81; refine (CallsIn.inRound l (callsIn_wide.2 (sideOf_true _))).mono ?_; rintro e w' ⟨rfl, rfl⟩)
        apply wpIn_cut
        · refine wpIn_region_any (by kernel_rfl) (wpAnyIn_inRound (F := Fence.wide) l rfl (by kernel_rfl) _ _ _ _ ?_)
          change wpAnyIn _ _ _ _ _ _ _ _ _ (World.drew _)
          refine wpAnyIn_take (i := 0) (v := ?_) rfl rfl (by kernel_rfl) (by kernel_rfl) (by kernel_rfl) (fun _ _ _ h => (by cases h.1)) ⟨Or.inl ⟨by rfl, ?_⟩, fun _ => rfl⟩ ?_
          rotate_left 1
          · intro w; go_simp
            try with_reducible rfl
          refine wpAnyIn_take (i := 1) (v := ?_) rfl rfl (by kernel_rfl) (by kernel_rfl) (by kernel_rfl) (fun _ _ _ h => (by cases h.1)) ⟨Or.inl ⟨by rfl, ?_⟩, fun _ => rfl⟩ ?_
          rotate_left 1
          · intro w; go_simp
            try with_reducible rfl
          refine wpAnyIn_take (i := 2) (v := ?_) rfl rfl (by kernel_rfl) (by kernel_rfl) (by kernel_rfl) (fun _ _ _ h => (by cases h.1)) ⟨Or.inl ⟨by rfl, ?_⟩, fun _ => rfl⟩ ?_
          rotate_left 1
          · intro w; go_simp
            try with_reducible rfl
          refine wpAnyIn_take (i := 4) (v := ?_) rfl rfl (by kernel_rfl) (by kernel_rfl) (by kernel_rfl) (fun _ _ _ h => (by cases h.1)) ⟨Or.inl ⟨by rfl, ?_⟩, fun _ => rfl⟩ ?_
          rotate_left 1
          · intro w; go_simp
            try with_reducible rfl
          refine wpAnyIn_ready (rs := [3, 5]) (by kernel_rfl) (by simp) ?_
          refine AllReadyIn.cons rfl (fun KK hK => ?_) ?_
          · go_simp
            refine hK _ _ ?_
            clear hK KK
            refine wpAnyIn_take (i := 6) (v := ?_) rfl rfl (by kernel_rfl) (by kernel_rfl) (by kernel_rfl) (fun _ _ _ h => (by cases h.1)) ⟨Or.inl ⟨by rfl, ?_⟩, fun _ => rfl⟩ ?_
            rotate_left 1
            · intro w; go_simp
              try with_reducible rfl
            refine wpAnyIn_ready (rs := [5, 7]) (by kernel_rfl) (by simp) ?_
            refine AllReadyIn.cons rfl (fun KK hK => ?_) ?_
            · go_simp
              refine hK _ _ ?_
              clear hK KK
              refine wpAnyIn_ready (rs := [7]) (by kernel_rfl) (by simp) ?_
              refine AllReadyIn.cons rfl (fun KK hK => ?_) ?_
              · go_simp
                refine hK _ _ ?_
                clear hK KK
                refine wpAnyIn_take (i := 8) (v := ?_) rfl rfl (by kernel_rfl) (by kernel_rfl) (by kernel_rfl) (fun _ _ _ h => (by cases h.1)) ⟨Or.inl ⟨by rfl, ?_⟩, fun _ => rfl⟩ ?_
                rotate_left 1
                · intro w; go_simp
                  try with_reducible rfl
                refine wpAnyIn_ready (rs := [9]) (by kernel_rfl) (by simp) ?_
                refine AllReadyIn.cons rfl (fun KK hK => ?_) ?_
                · go_simp
                  refine hK _ _ ?_
                  clear hK KK
                  refine wpAnyIn_done (by kernel_rfl) ?_ _
                  exact ⟨rfl, rfl, rfl⟩
                exact AllReadyIn.nil
              exact AllReadyIn.nil
            refine AllReadyIn.cons rfl (fun KK hK => ?_) ?_
            · go_simp
              refine hK _ _ ?_
              clear hK KK
              refine wpAnyIn_ready (rs := [5]) (by kernel_rfl) (by simp) ?_
              refine AllReadyIn.cons rfl (fun KK hK => ?_) ?_
              · go_simp
                refine hK _ _ ?_
                clear hK KK
                refine wpAnyIn_take (i := 8) (v := ?_) rfl rfl (by kernel_rfl) (by kernel_rfl) (by kernel_rfl) (fun _ _ _ h => (by cases h.1)) ⟨Or.inl ⟨by rfl, ?_⟩, fun _ => rfl⟩ ?_
                rotate_left 1
                · intro w; go_simp
                  try with_reducible rfl
                refine wpAnyIn_ready (rs := [9]) (by kernel_rfl) (by simp) ?_
                refine AllReadyIn.cons rfl (fun KK hK => ?_) ?_
                · go_simp
                  refine hK _ _ ?_
                  clear hK KK
                  refine wpAnyIn_done (by kernel_rfl) ?_ _
                  exact ⟨rfl, rfl, rfl⟩
                exact AllReadyIn.nil
              exact AllReadyIn.nil
            exact AllReadyIn.nil
          refine AllReadyIn.cons rfl (fun KK hK => ?_) ?_
          · go_simp
            refine hK _ _ ?_
            clear hK KK
            refine wpAnyIn_ready (rs := [3]) (by kernel_rfl) (by simp) ?_
            refine AllReadyIn.cons rfl (fun KK hK => ?_) ?_
            · go_simp
              refine hK _ _ ?_
              clear hK KK
              refine wpAnyIn_take (i := 6) (v := ?_) rfl rfl (by kernel_rfl) (by kernel_rfl) (by kernel_rfl) (fun _ _ _ h => (by cases h.1)) ⟨Or.inl ⟨by rfl, ?_⟩, fun _ => rfl⟩ ?_
              rotate_left 1
              · intro w; go_simp
                try with_reducible rfl
              refine wpAnyIn_ready (rs := [7]) (by kernel_rfl) (by simp) ?_
              refine AllReadyIn.cons rfl (fun KK hK => ?_) ?_
              · go_simp
                refine hK _ _ ?_
                clear hK KK
                refine wpAnyIn_take (i := 8) (v := ?_) rfl rfl (by kernel_rfl) (by kernel_rfl) (by kernel_rfl) (fun _ _ _ h => (by cases h.1)) ⟨Or.inl ⟨by rfl, ?_⟩, fun _ => rfl⟩ ?_
                rotate_left 1
                · intro w; go_simp
                  try with_reducible rfl
                refine wpAnyIn_ready (rs := [9]) (by kernel_rfl) (by simp) ?_
                refine AllReadyIn.cons rfl (fun KK hK => ?_) ?_
                · go_simp
                  refine hK _ _ ?_
                  clear hK KK
                  refine wpAnyIn_done (by kernel_rfl) ?_ _
                  exact ⟨rfl, rfl, rfl⟩
                exact AllReadyIn.nil
              exact AllReadyIn.nil
            exact AllReadyIn.nil
          exact AllReadyIn.nil
        have hgV : W.grownBy (W.alloc (.cells #[.slice (fa x) st.other.length (fc x), .slice a 32 c'] 123)).drew none := grown_drew (World.grownBy_alloc _ _ _)
        obtain ⟨⟨y0, _, _⟩, _⟩ := three_cells (pair_old hgV hcx)
        obtain ⟨m0, m1, _, _⟩ := two_cells (heap_alloc_new W (.cells #[.slice (fa x) st.other.length (fc x), .slice a 32 c'] 123))
        have DP : Hid (Calls Tryd.prog 75 #[.int .u8 2, .slice (some ⟨W.heap.size + 1 + 1, 0, none⟩) 3 3] (((W.alloc (.cells #[.slice (fa x) st.other.length (fc x), .slice a 32 c'] 123)).alloc (.cells #[.int .u8 (B : Int)] 5)).alloc (.cells #[.slice (some ⟨W.heap.size + 1, 0, none⟩) 1 1, .slice (fa x) st.other.length (fc x), .slice a 32 c'] 23)).drew fun e w'' => ∃ z, e = .returned (.tuple #[z, .int .i64 0]) ∧ NewD (W.alloc (.cells #[.slice (fa x) st.other.length (fc x), .slice a 32 c'] 123)).drew w'' z D' ∧ (W.alloc (.cells #[.slice (fa x) st.other.length (fc x), .slice a 32 c'] 123)).drew.grownBy w'' none) := by
          have := forkNew (W.alloc (.cells #[.slice (fa x) st.other.length (fc x), .slice a 32 c'] 123)).drew B hB145 _ _ st.other D (sO.grown hgV) (sX1.grown hgV) hoth (by omega) (htW.grownNone hgV)
          rw [show (W.alloc (.cells #[.slice (fa x) st.other.length (fc x), .slice a 32 c'] 123)).drew.heap.size = W.heap.size + 1 from World.size_alloc _ _, ← eU] at this
          exact this
        have y0' : (W.alloc (.cells #[.slice (fa x) st.other.length (fc x), .slice a 32 c'] 123)).cell? ⟨Bx, 0, none⟩ = some (.int .i64 (B : Int)) := y0
        have bXV : Boxed (W.alloc (.cells #[.slice (fa x) st.other.length (fc x), .slice a 32 c'] 123)).drew w2.heap.size 23 (.slice a 32 c') := bX1.alloc _
        have bEV : Boxed (W.alloc (.cells #[.slice (fa x) st.other.length (fc x), .slice a 32 c'] 123)).drew (w2.heap.size + 1) 30 (.int .i64 0) := bE1.alloc _
        clear m0 m1 e1 e2 x0 x1 x2 n0 n1 f0 f1 q1 q2 x2W
        obtain ⟨⟨y0, _, _⟩, _⟩ := three_cells (pair_old hgV hcx)
        obtain ⟨m0, m1, _, _⟩ := two_cells (heap_alloc_new W (.cells #[.slice (fa x) st.other.length (fc x), .slice a 32 c'] 123))
        gi_wp2_with (refine ⟨trivial, ?_⟩; gi_at_call 75; refine (CallsIn.inRound l (callsIn_wide.2 DP.out)).mono ?_; rintro e w4 ⟨z, rfl, hz, hg4⟩; have hK4 := fun aa => KEEP aa _ w4 z hgV hg4 hz; obtain ⟨nz, hnz, rfl, hbz⟩ := hz; have b4 := bXV.kept hg4 (by simp); have b5 := bEV.kept hg4 (by simp); have g1 := b4.cell; have g2 := b4.frozen; have g3 := b5.cell; have g4 := b5.frozen)
        exact hK4 _
    case done =>
      rintro D xs W hD rfl ⟨⟨⟨a, c', bX1, sX1⟩, bE1⟩, ⟨⟨bR1, bE2⟩, bC1⟩, hB1⟩ hK
      rw [upR_all] at sX1
      have lU := upL_len S P
      have g1 := bX1.cell
      have g2 := bE1.cell
      have g3 := bR1.cell
      have g4 := bR1.frozen
      have g5 := bE2.cell
      have g6 := bE2.frozen
      obtain ⟨U, hU⟩ : ∃ U, upL S P = U := ⟨_, rfl⟩
      have HU : Hid (upL S P = U) := hU
      rw [hU] at sX1 lU
      clear hU
      gi_wp2
      gi_region
      have hKf : ((W.setCell ⟨w.heap.size + 1, 0, none⟩ (.slice a 32 c')).setCell ⟨w.heap.size + 1 + 1, 0, none⟩ (.int .i64 0)).drew.heap[D]? = some (.deferred (some [])) := (KeepsOthers.setCell _ _ _).same D _ ((KeepsOthers.setCell _ _ _).same D _ hK rfl) rfl
      have sF : SliceIs ((W.setCell ⟨w.heap.size + 1, 0, none⟩ (.slice a 32 c')).setCell ⟨w.heap.size + 1 + 1, 0, none⟩ (.int .i64 0)).drew (.slice a 32 c') U := by
        have h1 := sliceIs_box bR1 (fun q => by simp) sX1 (by omega) (.slice a 32 c')
        exact sliceIs_box (bE2.other (by omega) _) (fun q => by simp) h1 (by omega) (.int .i64 0)
      have bRf : Boxed ((W.setCell ⟨w.heap.size + 1, 0, none⟩ (.slice a 32 c')).setCell ⟨w.heap.size + 1 + 1, 0, none⟩ (.int .i64 0)).drew (w.heap.size + 1) 23 (.slice a 32 c') := (bR1.set _).other (by omega) _
      have bEf : Boxed ((W.setCell ⟨w.heap.size + 1, 0, none⟩ (.slice a 32 c')).setCell ⟨w.heap.size + 1 + 1, 0, none⟩ (.int .i64 0)).drew (w.heap.size + 1 + 1) 30 (.int .i64 0) := (bE2.other (by omega) _).set _
      have hgf : w.grownBy ((W.setCell ⟨w.heap.size + 1, 0, none⟩ (.slice a 32 c')).setCell ⟨w.heap.size + 1 + 1, 0, none⟩ (.int .i64 0)).drew none := grown_drew (grown_setNew (grown_setNew (below_grown hB1) _ (by omega) _ _) _ (by omega) _ _)
      generalize ((W.setCell ⟨w.heap.size + 1, 0, none⟩ (.slice a 32 c')).setCell ⟨w.heap.size + 1 + 1, 0, none⟩ (.int .i64 0)).drew = Wf at *
      clear g1 g2 g3 g4 g5 g6
      have hgp : Wf.grownBy (Wf.putObj D (.deferred none)) (some D) := grownBy_putObj' _ _ _
      have hro : ∀ r, some D = some r → ∃ o : Obj, Wf.heap[r]? = some o ∧ o.isCells = false := fun r e => by cases e; exact ⟨_, hKf, rfl⟩
      have r1 : (Wf.putObj D (.deferred none)).cell? ⟨w.heap.size + 1, 0, none⟩ = some (.slice a 32 c') := cell_kept bRf.cell hgp hro
      have r2 : (Wf.putObj D (.deferred none)).cell? ⟨w.heap.size + 1 + 1, 0, none⟩ = some (.int .i64 0) := cell_kept bEf.cell hgp hro
      have sG : SliceIs (Wf.putObj D (.deferred none)) (.slice a 32 c') U := by
        obtain ⟨a', c'', e, hc, h⟩ := sF
        refine ⟨a', c'', e, hc, ?_⟩
        rcases h with h | ⟨b, o, rfl, h⟩
        · exact .inl h
        · exact .inr ⟨b, o, rfl, fun i hi => cell_kept (h i hi) hgp hro⟩
      have hgg : w.grownBy (Wf.putObj D (.deferred none)) none := by
        refine ⟨hgp.os.trans hgf.os, hgp.tape.trans hgf.tape, hgp.output.trans hgf.output, Nat.le_trans hgf.size hgp.size, fun i hi hn => ?_⟩
        have hlt : i < Wf.heap.size := Nat.lt_of_lt_of_le hi hgf.size
        exact (hgp.block i hlt (by simp; omega)).trans (hgf.block i hi (by simp))
      gi_wp2
      refine ⟨by simp, .inl ⟨_, _, rfl, run_takeDeferred hKf, ?_⟩⟩
      refine ⟨.tuple #[.slice a 32 c', .int .i64 0], by simp [results, Tryd.results62, go_sem, r1, r2], ?_⟩
      exact ⟨_, rfl, by rw [HU.out]; exact sG, hgg⟩
    case stop =>
      rintro D c pre W _ _ h _
      exact h.elim
end Go.Proofs.YtkkcjnhfbblgiabDoor

/-
  proof.Verify, as it landed, keeps P4.3.
-/
namespace Go.Proofs.YtkkcjnhfbblgiabDoor
open Go.RowKit
set_option maxRecDepth 100000 in
set_option maxHeartbeats 2000000 in
theorem pverify_ok : PVerifyOK := by
  intro w r u v root k p hr hu hv hf ht
  have hv0 := hv
  obtain ⟨vs, vk, vv, rfl, hs, h1, h2⟩ := hv
  obtain ⟨ra, rc, rfl⟩ := hr.shape
  obtain ⟨ua, uc, rfl⟩ := hu.shape
  obtain ⟨sa, sc, rfl⟩ := hs.shape
  obtain ⟨ka, kc, rfl⟩ := h1.shape
  obtain ⟨va, vc, rfl⟩ := h2.shape
  obtain ⟨W1, hW1⟩ : ∃ W1 : World, W1 = (w.alloc (.cells #[.bool p.empty, .slice sa p.steps.length sc, .slice ka p.pair.1.length kc, .slice va p.pair.2.length vc] 29)).alloc (.cells #[.bool false, .slice none 0 0] 38) := ⟨_, rfl⟩
  have hgW : w.grownBy W1 none := by rw [hW1]; exact grown_alloc (World.grownBy_alloc _ _ _) _
  have HW1 : Hid (W1 = (w.alloc (.cells #[.bool p.empty, .slice sa p.steps.length sc, .slice ka p.pair.1.length kc, .slice va p.pair.2.length vc] 29)).alloc (.cells #[.bool false, .slice none 0 0] 38)) := hW1
  have bP : Hid (W1.heap[w.heap.size]? = some (.cells #[.bool p.empty, .slice sa p.steps.length sc, .slice ka p.pair.1.length kc, .slice va p.pair.2.length vc] 29)) := by
    show _ = _
    rw [hW1]; exact pair_old (World.grownBy_alloc _ _ _) (heap_alloc_new w _)
  have bF : Hid (W1.heap[w.heap.size + 1]? = some (.cells #[.bool false, .slice none 0 0] 38)) := by
    have := heap_alloc_new (w.alloc (.cells #[.bool p.empty, .slice sa p.steps.length sc, .slice ka p.pair.1.length kc, .slice va p.pair.2.length vc] 29)) (.cells #[.bool false, .slice none 0 0] 38)
    rw [World.size_alloc] at this
    show _ = _
    rw [hW1]; exact this
  have hsz : W1.heap.size = w.heap.size + 1 + 1 := by rw [hW1]; simp
  by_cases h32 : root.length = 32
  · have t32 : ((root.length : Int) != 32) = false := by simp [h32]
    have CK : Hid (Calls Tryd.prog 61 #[.slice ua k.length uc, .agg #[.bool p.empty, .slice sa p.steps.length sc, .slice ka p.pair.1.length kc, .slice va p.pair.2.length vc]] W1 fun e w' => e = .returned (.int .i64 (proofE k p)) ∧ W1.grownBy w' none) := pcheck_ok W1 _ _ k p (hu.grown hgW) (hv0.grown hgW) hf
    obtain ⟨⟨a0, a1, a2, a3⟩, _⟩ := quad_room (grown_refl W1 none) bP.out
    by_cases hp : proofE k p = 0
    · obtain ⟨_, hm⟩ := proofE_ok hp
      have RO : Hid (∀ w', W1.grownBy w' none → Calls Tryd.prog 62 #[.agg #[.bool p.empty, .slice sa p.steps.length sc, .slice ka p.pair.1.length kc, .slice va p.pair.2.length vc]] w' fun e w'' => ∃ x, e = .returned (.tuple #[x, .int .i64 0]) ∧ SliceIs w'' x (rootP p) ∧ w'.grownBy w'' none) := fun w' hg => prootOf_any w' _ k p (hv0.grown (grown_trans hgW hg)) hm hf (ht.grownNone (grown_trans hgW hg))
      have HR : Hid (SliceIs W1 (.slice ra root.length rc) root) := hr.grown hgW
      have HU : Hid (SliceIs W1 (.slice ua k.length uc) k) := hu.grown hgW
      have HK : Hid (SliceIs W1 (.slice ka p.pair.1.length kc) p.pair.1) := h1.grown hgW
      have HV : Hid (SliceIs W1 (.slice va p.pair.2.length vc) p.pair.2) := h2.grown hgW
      have hl2 := hf.2.2.2
      rw [hp] at CK
      by_cases hroot : rootP p = root
      · obtain ⟨e1, e2, e3⟩ := ver_ok h32 hp hroot
        have EQ : Hid (∀ w' x, W1.grownBy w' none → SliceIs w' x (rootP p) → Calls Tryd.prog 63 #[x, .slice ra root.length rc] w' fun e w'' => e = .returned (.bool true) ∧ w'' = w') := fun w' x hg hx => by
          have := equal_any w' x _ _ _ hx (HR.out.grown hg)
          rw [decide_eq_true hroot] at this
          exact this
        have EK : Hid (∀ w', W1.grownBy w' none → Calls Tryd.prog 63 #[.slice ka p.pair.1.length kc, .slice ua k.length uc] w' fun e w'' => e = .returned (.bool (decide (p.pair.1 = k))) ∧ w'' = w') := fun w' hg => equal_any w' _ _ _ _ (HK.out.grown hg) (HU.out.grown hg)
        have CL : Hid (∀ w', W1.grownBy w' none → Calls Tryd.prog 52 #[.slice va p.pair.2.length vc] w' fun e w'' => ∃ v', e = .returned v' ∧ Own w'.heap.size w'' v' p.pair.2 ∧ w'.grownBy w'' none) := fun w' hg => clone_any w' _ _ (HV.out.grown hg) hl2
        rw [e1, e2, e3]
        have hF : foundF k p = (!p.empty && decide (p.pair.1 = k)) := by
          unfold foundF
          cases p.empty <;> by_cases h : p.pair.1 = k <;> simp [h]
        clear hs h1 h2 hv0 hf ht hr hu hm HR HU HK HV e1 e2 e3 hroot hW1 h32
        cases he : p.empty with
        | true =>
          have hF2 : foundF k p = false := by rw [hF, he]; rfl
          rw [hF2, if_neg (by simp)]
          rw [he] at HW1 bP CK RO a0
          clear hF hF2 he
          go_enter Tryd.func35, Tryd.ntmps35
          go_wp2_with fail
          rw [← HW1.out]
          refine CK.out.mono ?_
          rintro e w1 ⟨rfl, hg1⟩
          have b0 := hg1.cell a0 (by simp)
          have b1 := hg1.cell a1 (by simp)
          have b2 := hg1.cell a2 (by simp)
          have b3 := hg1.cell a3 (by simp)
          go_wp2_with fail
          refine (RO.out _ hg1).mono ?_
          rintro e w2 ⟨x, rfl, hx, hg2⟩
          have hg12 := grown_trans hg1 hg2
          have d0 := hg2.cell b0 (by simp)
          have d2 := hg2.cell b2 (by simp)
          have d3 := hg2.cell b3 (by simp)
          have BB := pair_old hg12 bF.out
          have EQ1 := EQ.out w2 x hg12 hx
          have HEQ : Hid (Calls Tryd.prog 63 #[x, .slice ra root.length rc] w2 fun e w'' => e = .returned (.bool true) ∧ w'' = w2) := EQ1
          obtain ⟨xa, xc, rfl⟩ := hx.shape
          clear EQ1 hx
          go_wp2_with fail
          refine HEQ.out.mono ?_
          rintro e w3 ⟨rfl, rfl⟩
          obtain ⟨c0, c1, f0, f1⟩ := two_cells BB
          obtain ⟨r0, r1, _, _⟩ := two_cells (two_set BB (.bool false) (.slice none 0 0))
          go_wp2
          refine bodyPost_ret (v := .tuple #[.agg #[.bool false, .slice none 0 0], .int .i64 0]) (by simp [results, Tryd.results35, go_sem, r0, r1]) rfl ?_
          exact ⟨_, rfl, sliceIs_nil _, grown_two (grown_trans hgW hg12) _ (by omega) _ _⟩
        | false =>
          rw [he] at HW1 bP CK RO a0
          by_cases hkk : p.pair.1 = k
          · have hF2 : foundF k p = true := by rw [hF, he, decide_eq_true hkk]; rfl
            rw [hF2, if_pos rfl]
            rw [decide_eq_true hkk] at EK
            clear hF hF2 he hkk
            go_enter Tryd.func35, Tryd.ntmps35
            go_wp2_with fail
            rw [← HW1.out]
            refine CK.out.mono ?_
            rintro e w1 ⟨rfl, hg1⟩
            have b0 := hg1.cell a0 (by simp)
            have b1 := hg1.cell a1 (by simp)
            have b2 := hg1.cell a2 (by simp)
            have b3 := hg1.cell a3 (by simp)
            go_wp2_with fail
            refine (RO.out _ hg1).mono ?_
            rintro e w2 ⟨x, rfl, hx, hg2⟩
            have hg12 := grown_trans hg1 hg2
            have d0 := hg2.cell b0 (by simp)
            have d2 := hg2.cell b2 (by simp)
            have d3 := hg2.cell b3 (by simp)
            have HEQ : Hid (Calls Tryd.prog 63 #[x, .slice ra root.length rc] w2 fun e w'' => e = .returned (.bool true) ∧ w'' = w2) := EQ.out w2 x hg12 hx
            obtain ⟨xa, xc, rfl⟩ := hx.shape
            clear hx
            go_wp2_with fail
            refine HEQ.out.mono ?_
            rintro e w3 ⟨rfl, rfl⟩
            go_wp2_with fail
            refine (EK.out _ hg12).mono ?_
            rintro e w4 ⟨rfl, rfl⟩
            go_wp2_with fail
            refine (CL.out _ hg12).mono ?_
            rintro e w5 ⟨v5, rfl, ho5, hg5⟩
            have hg15 := grown_trans hg12 hg5
            have BB := pair_old hg15 bF.out
            have hsz5 := hg12.size
            obtain ⟨xa5, xc5, rfl⟩ := ho5.shape
            have OF := (ho5.setOther (w.heap.size + 1) 0 (.bool true) (by omega)).setOther (w.heap.size + 1) 1 (.slice xa5 p.pair.2.length xc5) (by omega)
            obtain ⟨c0, c1, f0, f1⟩ := two_cells BB
            obtain ⟨r0, r1, _, _⟩ := two_cells (two_set BB (.bool true) (.slice xa5 p.pair.2.length xc5))
            go_wp2
            refine bodyPost_ret (v := .tuple #[.agg #[.bool true, .slice xa5 p.pair.2.length xc5], .int .i64 0]) (by simp [results, Tryd.results35, go_sem, r0, r1]) rfl ?_
            exact ⟨_, rfl, OF.slice, grown_two (grown_trans hgW hg15) _ (by omega) _ _⟩
          · have hF2 : foundF k p = false := by rw [hF, he, decide_eq_false hkk]; rfl
            rw [hF2, if_neg (by simp)]
            rw [decide_eq_false hkk] at EK
            clear hF hF2 he hkk
            go_enter Tryd.func35, Tryd.ntmps35
            go_wp2_with fail
            rw [← HW1.out]
            refine CK.out.mono ?_
            rintro e w1 ⟨rfl, hg1⟩
            have b0 := hg1.cell a0 (by simp)
            have b1 := hg1.cell a1 (by simp)
            have b2 := hg1.cell a2 (by simp)
            have b3 := hg1.cell a3 (by simp)
            go_wp2_with fail
            refine (RO.out _ hg1).mono ?_
            rintro e w2 ⟨x, rfl, hx, hg2⟩
            have hg12 := grown_trans hg1 hg2
            have d0 := hg2.cell b0 (by simp)
            have d2 := hg2.cell b2 (by simp)
            have d3 := hg2.cell b3 (by simp)
            have HEQ : Hid (Calls Tryd.prog 63 #[x, .slice ra root.length rc] w2 fun e w'' => e = .returned (.bool true) ∧ w'' = w2) := EQ.out w2 x hg12 hx
            obtain ⟨xa, xc, rfl⟩ := hx.shape
            clear hx
            go_wp2_with fail
            refine HEQ.out.mono ?_
            rintro e w3 ⟨rfl, rfl⟩
            go_wp2_with fail
            refine (EK.out _ hg12).mono ?_
            rintro e w4 ⟨rfl, rfl⟩
            have BB := pair_old hg12 bF.out
            obtain ⟨c0, c1, f0, f1⟩ := two_cells BB
            obtain ⟨r0, r1, _, _⟩ := two_cells (two_set BB (.bool false) (.slice none 0 0))
            go_wp2
            refine bodyPost_ret (v := .tuple #[.agg #[.bool false, .slice none 0 0], .int .i64 0]) (by simp [results, Tryd.results35, go_sem, r0, r1]) rfl ?_
            exact ⟨_, rfl, sliceIs_nil _, grown_two (grown_trans hgW hg12) _ (by omega) _ _⟩
      · obtain ⟨e1, e2, e3⟩ := ver_proof (k := k) h32 hp hroot
        have EQ : Hid (∀ w' x, W1.grownBy w' none → SliceIs w' x (rootP p) → Calls Tryd.prog 63 #[x, .slice ra root.length rc] w' fun e w'' => e = .returned (.bool false) ∧ w'' = w') := fun w' x hg hx => by
          have := equal_any w' x _ _ _ hx (HR.out.grown hg)
          rw [decide_eq_false hroot] at this
          exact this
        rw [e1, e2, e3]
        clear hs h1 h2 hv0 hf ht hr hu hm HR HU HK HV e1 e2 e3 hroot hW1 h32
        go_enter Tryd.func35, Tryd.ntmps35
        go_wp2_with fail
        rw [← HW1.out]
        refine CK.out.mono ?_
        rintro e w1 ⟨rfl, hg1⟩
        have b0 := hg1.cell a0 (by simp)
        have b1 := hg1.cell a1 (by simp)
        have b2 := hg1.cell a2 (by simp)
        have b3 := hg1.cell a3 (by simp)
        go_wp2_with fail
        refine (RO.out _ hg1).mono ?_
        rintro e w2 ⟨x, rfl, hx, hg2⟩
        have hg12 := grown_trans hg1 hg2
        have HEQ : Hid (Calls Tryd.prog 63 #[x, .slice ra root.length rc] w2 fun e w'' => e = .returned (.bool false) ∧ w'' = w2) := EQ.out w2 x hg12 hx
        obtain ⟨xa, xc, rfl⟩ := hx.shape
        clear hx
        go_wp2_with fail
        refine HEQ.out.mono ?_
        rintro e w3 ⟨rfl, rfl⟩
        have BB := pair_old hg12 bF.out
        obtain ⟨c0, c1, f0, f1⟩ := two_cells BB
        obtain ⟨r0, r1, _, _⟩ := two_cells (two_set BB (.bool false) (.slice none 0 0))
        go_wp2
        refine bodyPost_ret (v := .tuple #[.agg #[.bool false, .slice none 0 0], .int .i64 8]) (by simp [results, Tryd.results35, go_sem, r0, r1]) rfl ?_
        exact ⟨_, rfl, sliceIs_nil _, grown_two (grown_trans hgW hg12) _ (by omega) _ _⟩
    · obtain ⟨e1, e2, e3⟩ := ver_form h32 hp
      rw [e1, e2, e3]
      generalize proofE k p = z at *
      have hz' : (z != 0) = true := by simpa using hp
      clear hs h1 h2 hv0 hf ht hr hu e1 e2 e3 hW1 hp h32
      go_enter Tryd.func35, Tryd.ntmps35
      go_wp2_with fail
      rw [← HW1.out]
      refine CK.out.mono ?_
      rintro e w1 ⟨rfl, hg1⟩
      have BB := pair_old hg1 bF.out
      obtain ⟨c0, c1, f0, f1⟩ := two_cells BB
      obtain ⟨r0, r1, _, _⟩ := two_cells (two_set BB (.bool false) (.slice none 0 0))
      go_wp2
      refine bodyPost_ret (v := .tuple #[.agg #[.bool false, .slice none 0 0], .int .i64 z]) (by simp [results, Tryd.results35, go_sem, r0, r1]) rfl ?_
      exact ⟨_, rfl, sliceIs_nil _, grown_two (grown_trans hgW hg1) _ (by omega) _ _⟩
  · obtain ⟨e1, e2, e3⟩ := ver_size (k := k) (p := p) h32
    rw [e1, e2, e3]
    have t32 : ((root.length : Int) != 32) = true := by simp; omega
    have BB := bF.out
    clear hs h1 h2 hv0 hf ht hr hu e1 e2 e3 hW1 h32
    obtain ⟨c0, c1, f0, f1⟩ := two_cells BB
    obtain ⟨r0, r1, _, _⟩ := two_cells (two_set BB (.bool false) (.slice none 0 0))
    rw [HW1.out] at c0 c1 f0 f1 r0 r1
    have hgf := grown_two hgW (w.heap.size + 1) (by omega) (.bool false) (.slice none 0 0)
    rw [HW1.out] at hgf
    go_enter Tryd.func35, Tryd.ntmps35
    go_wp2
    refine bodyPost_ret (v := .tuple #[.agg #[.bool false, .slice none 0 0], .int .i64 1]) (by simp [results, Tryd.results35, go_sem, c0, c1]) rfl ?_
    exact ⟨_, rfl, sliceIs_nil _, grown_alloc (World.grownBy_alloc _ _ _) _⟩
end Go.Proofs.YtkkcjnhfbblgiabDoor
