/-
  Texts of this proof, joined: ConcatP, FramedP.
-/
import Derived.Test.YtkheombfjgjedacDoorPairM0
import Derived.Lib.AppendZerosOnto
import Derived.Test.YtkheombfjgjedacDoorTapeFour
import Derived.Test.YtkheombfjgjedacDoorPart2
import Derived.Test.YtkheombfjgjedacDoorPart3
/-
  The walks of slices.Grow (upon nothing) and slices.Concat (of two), at bytes.
-/
namespace Go.Proofs.YtkheombfjgjedacDoor
open Go.RowKit
theorem info5c : (Tryd.prog.info? 5).map (fun i => (i.zero, i.size, i.bytes)) = some (some (.int .u8 0), 1, 1) := by kernel_rfl
/-- append, by how it runs. -/
theorem wpList_append_run {w : World} {ops : Array Oper} {rest : List Oper} {o : Oper} {a : Act} {Q : Exit → Act → World → Prop} (hgd : o.guard = none) (s x : Operand) (ts : Array TypeId)
    (ho : o.op = .call { callee := .builtin .append, args := #[s, x], argTypes := ts }) (vs vx v' : Value) (w' : World) (hs : a.eval s = vs) (hx : a.eval x = vx) (hrun : (Builtin.append_ ts o.type #[vs, vx]).run Tryd.prog w = .ok v' w')
    (h : wpList Tryd.prog ops Q rest (a.put o.dst v') w') : wpList Tryd.prog ops Q (o :: rest) a w := by
  refine wpList_plain hgd fun K hK => ?_
  unfold Oper.wp
  simp [execOp, ho, resolve, invoke, builtin, hs, hx, hrun, Result.andThen]
  exact hK _ _ h
set_option maxRecDepth 100000 in
set_option maxHeartbeats 1000000 in
theorem grow_any (w : World) (n : Nat) (hn : n ≤ 1000000) :
    Calls Tryd.prog 38 #[.slice none 0 0, .int .i64 (n : Int)] w fun e w' => ∃ v', e = .returned v' ∧ Own w.heap.size w' v' [] ∧ w.grownBy w' none := by
  by_cases h0 : n = 0
  · subst h0
    go_enter Tryd.func38, Tryd.ntmps38
    go_wp2
    go_ret
    exact ⟨_, rfl, own_nil _ _, grown_refl _ _⟩
  · obtain ⟨i0, hi, hz0, hz1, hz2⟩ := info_parts info5c
    have i1 : ¬ (n : Int) < 0 := by omega
    have i2 : (n : Int) > 0 := by omega
    obtain ⟨K, hK⟩ : ∃ K, K = grownCap w n 0 5 := ⟨_, rfl⟩
    have hKn : n ≤ K := by rw [hK]; exact grownCap_ge w n 0 5
    have hKm : K ≤ maxLen := by rw [hK]; exact grownCap_le_maxLen w n 0 5 (by unfold maxLen; omega)
    have hz : Hid (∀ ty, (Builtin.append_ #[26, 3] ty #[.slice none 0 0, .int .i64 (n : Int)]).run Tryd.prog w = .ok (.slice (some ⟨w.heap.size, 0, none⟩) n K) (w.drew.alloc (.cells (Builtin.zeroCells (Value.int .u8 0).cells n ++ Builtin.zeroCells (Value.int .u8 0).cells (K - n)) 5))) := fun ty => by
      rw [hK]
      exact Lib.run_append_nil_zeros (P := Tryd.prog) w 26 3 ty 5 i0 (.int .u8 0) .i64 .i64 Tryd.underlying26 Tryd.underlying3 hi hz0 n (by omega) (by omega) (by omega) (by rw [hz2]; omega)
    have hsz : (Builtin.zeroCells (Value.int .u8 0).cells n ++ Builtin.zeroCells (Value.int .u8 0).cells (K - n)).size = K * 1 := by
      simp [Builtin.zeroCells, Value.cells]; omega
    generalize Builtin.zeroCells (Value.int .u8 0).cells n ++ Builtin.zeroCells (Value.int .u8 0).cells (K - n) = Z at *
    clear hK
    have sl : ∀ W, (Instr.slice 26 (.slice (some ⟨w.heap.size, 0, none⟩) n K) none (some (.int .i64 0)) none).run Tryd.prog W = .ok (.slice (some ⟨w.heap.size, 0, none⟩) 0 K) W := fun W => slice_h W w.heap.size 0 n K 0 0 rfl (by omega) (by omega)
    go_enter Tryd.func38, Tryd.ntmps38
    go_wp2_with (at_builtin; refine wpList_append_run rfl (.tmp 20) (.tmp 21) _ rfl (.slice none 0 0) (.int .i64 (n : Int)) _ _ rfl rfl (hz.out _) ?_)
    go_ret
    refine ⟨_, rfl, ⟨rfl, .inr ⟨w.heap.size, K, Z, rfl, Nat.le_refl _, ?_, Nat.zero_le _, hKm, hsz, rfl⟩⟩, ?_⟩
    · exact heap_alloc_new w.drew _
    · exact grown_alloc (grown_drew (grown_refl _ _)) _
theorem Own.anyC {base : Nat} {w : World} {v : Value} {bs : List UInt8} (h : Own base w v bs) : ∃ a n c, v = .slice a n c := by
  obtain ⟨a, c, e⟩ := h.shape
  exact ⟨a, _, c, e⟩
/-- The first so many of two. -/
def preC (b1 b2 : List UInt8) : Nat → List UInt8
  | 0 => []
  | 1 => b1
  | _ => b1 ++ b2
set_option maxRecDepth 100000 in
set_option maxHeartbeats 1000000 in
theorem concat_any (w : World) (lb : Nat) (v1 v2 : Value) (b1 b2 : List UInt8) (c0 : w.cell? ⟨lb, 0, none⟩ = some v1) (c1 : w.cell? ⟨lb, 1, none⟩ = some v2) (h1 : SliceIs w v1 b1) (h2 : SliceIs w v2 b2) (hl : b1.length + b2.length ≤ 1000000) :
    Calls Tryd.prog 25 #[.slice (some ⟨lb, 0, none⟩) 2 2] w fun e w' => ∃ v', e = .returned v' ∧ Own w.heap.size w' v' (b1 ++ b2) ∧ w.grownBy w' none := by
  obtain ⟨a1, k1, rfl⟩ := h1.shape
  obtain ⟨a2, k2, rfl⟩ := h2.shape
  have H1 : Hid (SliceIs w (.slice a1 b1.length k1) b1) := h1
  have H2 : Hid (SliceIs w (.slice a2 b2.length k2) b2) := h2
  have GR : Hid (Calls Tryd.prog 38 #[.slice none 0 0, .int .i64 ((b1.length : Int) + (b2.length : Int))] w fun e w' => ∃ v', e = .returned v' ∧ Own w.heap.size w' v' [] ∧ w.grownBy w' none) := by
    have := grow_any w (b1.length + b2.length) hl
    rw [Int.natCast_add] at this
    exact this
  clear h1 h2
  go_enter Tryd.func25, Tryd.ntmps25
  go_wp2_with fail
  go_loopw [3, 11] (fun sv iv wr => (∃ m : Nat, m ≤ 2 ∧ iv = .int .i64 (m : Int) ∧ sv = .int .i64 ((preC b1 b2 m).length : Int)) ∧ wr = w) (fun _ i _ => 2 - (intOf i).toNat)
  case atStart => exact ⟨⟨0, by omega, rfl, rfl⟩, rfl⟩
  case round =>
    obtain ⟨⟨m, hm, rfl, rfl⟩, hw⟩ := hrel
    have hw := hw.symm
    subst hw
    match m, hm with
    | 0, _ =>
      have e1 : ((preC b1 b2 0).length : Int) = 0 := rfl
      rw [e1]
      go_wp2_with fail
      go_roundw
      case rel => exact ⟨⟨1, by omega, rfl, rfl⟩, trivial⟩
      case measure => simp [intOf]
    | 1, _ =>
      have e1 : ((preC b1 b2 1).length : Int) = (b1.length : Int) := rfl
      rw [e1]
      have i1 : ¬ ((b1.length : Int) + (b2.length : Int) < 0) := by omega
      go_wp2_with fail
      go_roundw
      case rel => exact ⟨⟨2, by omega, rfl, by congr 1; simp [preC]⟩, trivial⟩
      case measure => simp [intOf]
    | 2, _ =>
      have e1 : ((preC b1 b2 2).length : Int) = (b1.length : Int) + (b2.length : Int) := by simp [preC]
      rw [e1]
      go_wp2_with fail
      refine GR.out.mono ?_
      rintro e w1 ⟨v', rfl, ho, hg⟩
      go_wp2_with fail
      go_loopw [6, 27] (fun nv iv wx => ∃ m : Nat, m ≤ 2 ∧ iv = .int .i64 (m : Int) ∧ Own w.heap.size wx nv (preC b1 b2 m) ∧ w.grownBy wx none) (fun _ i _ => 2 - (intOf i).toNat)
      case atStart => exact ⟨0, by omega, rfl, ho, hg⟩
      case round =>
        obtain ⟨m, hm, rfl, ho, hg⟩ := hrel
        have d0 := hg.cell c0 (by simp)
        have d1 := hg.cell c1 (by simp)
        have hsz := hg.size
        obtain ⟨na, nn, nc, rfl⟩ := Own.anyC ho
        match m, hm with
        | 0, _ =>
          have HO : Hid (Own w.heap.size wr (.slice na nn nc) []) := ho
          have S1 : Hid (SliceIs wr (.slice a1 b1.length k1) b1) := H1.out.grown hg
          clear ho
          go_wp2_with (at_builtin; refine wpList_append_bytes rfl (.tmp 31) (.tmp 32) rfl w.heap.size (.slice na nn nc) [] rfl HO.out a1 b1.length k1 b1 rfl S1.out ?_ hsz ?_; (show 0 + b1.length ≤ 140737488355328; omega); intro v4 w4 ho4 hg4; have hgw4 : w.grownBy w4 none := grown_own hg HO.out hg4; have H4 : Hid (Own w.heap.size w4 v4 b1) := ho4)
          go_roundw
          case rel => exact ⟨1, by omega, rfl, H4.out, hgw4⟩
          case measure => simp [intOf]
        | 1, _ =>
          have HO : Hid (Own w.heap.size wr (.slice na nn nc) b1) := ho
          have S2 : Hid (SliceIs wr (.slice a2 b2.length k2) b2) := H2.out.grown hg
          clear ho
          go_wp2_with (at_builtin; refine wpList_append_bytes rfl (.tmp 31) (.tmp 32) rfl w.heap.size (.slice na nn nc) b1 rfl HO.out a2 b2.length k2 b2 rfl S2.out ?_ hsz ?_; omega; intro v4 w4 ho4 hg4; have hgw4 : w.grownBy w4 none := grown_own hg HO.out hg4; have H4 : Hid (Own w.heap.size w4 v4 (b1 ++ b2)) := ho4)
          go_roundw
          case rel => exact ⟨2, by omega, rfl, H4.out, hgw4⟩
          case measure => simp [intOf]
        | 2, _ =>
          have HO : Hid (Own w.heap.size wr (.slice na nn nc) (b1 ++ b2)) := ho
          clear ho
          go_wp2
          go_ret
          exact ⟨_, rfl, HO.out, hg⟩
end Go.Proofs.YtkheombfjgjedacDoor

/-
  tape.framed, as it landed: a commit's bytes as they stand on a tape.
-/
namespace Go.Proofs.YtkheombfjgjedacDoor
open Go.RowKit
theorem alloc_namedF (w : World) (o : Obj) : ∃ W : World, Hid (W = w.alloc o) ∧ w.grownBy W none ∧ Hid (W.heap[w.heap.size]? = some o) := ⟨w.alloc o, rfl, World.grownBy_alloc _ _ _, heap_alloc_new w o⟩
theorem two_cellsF {w : World} {b : Nat} {x y : Value} {t : TypeId} (h : w.heap[b]? = some (.cells #[x, y] t)) : w.cell? ⟨b, 0, none⟩ = some x ∧ w.cell? ⟨b, 1, none⟩ = some y ∧ w.frozen? ⟨b, 0, none⟩ = false ∧ w.frozen? ⟨b, 1, none⟩ = false := by
  refine ⟨?_, ?_, ?_, ?_⟩ <;> simp [World.cell?, World.frozen?, h]
def wholeF (b : List UInt8) : List UInt8 := lenB b ++ fourF (lenB b)
theorem wholeF_len (b : List UInt8) : (wholeF b).length = b.length + 6 := by
  unfold wholeF
  rw [List.length_append, lenB_len, fourF_len]
set_option maxRecDepth 100000 in
set_option maxHeartbeats 1000000 in
theorem framed_any (w : World) (v : Value) (b : List UInt8) (hv : SliceIs w v b) (hl : b.length ≤ 900000) (ht : Tabs w) :
    Calls Tryd.prog 24 #[v] w fun e w' => ∃ x, e = .returned (.tuple #[x, .int .i64 (if b.length + 2 ≤ 4000 then 0 else 1)]) ∧ Own w.heap.size w' x (if b.length + 2 ≤ 4000 then wholeF b else []) ∧ w.grownBy w' none := by
  obtain ⟨a, cap, rfl⟩ := hv.shape
  obtain ⟨x0, hx0⟩ : ∃ x : Int, x = ((UInt8.ofNat (b.length / 256)).toNat : Int) := ⟨_, rfl⟩
  obtain ⟨x1, hx1⟩ : ∃ x : Int, x = ((UInt8.ofNat (b.length % 256)).toNat : Int) := ⟨_, rfl⟩
  obtain ⟨W0, HW0, hg0, B0⟩ := alloc_namedF w (.cells #[.int .u8 x0, .int .u8 x1] 5)
  obtain ⟨W1, HW1, hg1, B1⟩ := alloc_namedF W0 (.cells #[.slice (some ⟨w.heap.size, 0, none⟩) 2 2, .slice a b.length cap] 26)
  have hcv0 : IntKind.u8.wrap ((b.length : Int) / 256) = x0 := by
    rw [hx0]; simp [IntKind.wrap_u8]
  have hcv1 : IntKind.u8.wrap (b.length : Int) = x1 := by
    rw [hx1]; simp [IntKind.wrap_u8]
  have hg01 := grown_trans hg0 hg1
  have s0 : SliceIs W1 (.slice (some ⟨w.heap.size, 0, none⟩) 2 2) [UInt8.ofNat (b.length / 256), UInt8.ofNat (b.length % 256)] := by
    have : SliceIs W0 (.slice (some ⟨w.heap.size, 0, none⟩) 2 2) [UInt8.ofNat (b.length / 256), UInt8.ofNat (b.length % 256)] := by
      rw [HW0.out, hx0, hx1]; exact two_slice w _ _ 5
    exact this.grown hg1
  obtain ⟨c0, c1, _, _⟩ := two_cellsF B1.out
  have CC : Hid (Calls Tryd.prog 25 #[.slice (some ⟨W0.heap.size, 0, none⟩) 2 2] W1 fun e w' => ∃ v', e = .returned v' ∧ Own W1.heap.size w' v' (lenB b) ∧ W1.grownBy w' none) := concat_any W1 W0.heap.size _ _ _ b c0 c1 s0 (hv.grown hg01) (by simp; omega)
  have hWs : W0.heap.size = w.heap.size + 1 := by rw [HW0.out]; simp
  rw [hWs] at CC
  clear hWs
  have hlb := lenB_len b
  have ht1 : Tabs W1 := ht.grownNone hg01
  have hsz1 := hg01.size
  unfold wholeF
  obtain ⟨L, hL⟩ : ∃ L, L = lenB b := ⟨_, rfl⟩
  rw [← hL] at CC hlb ⊢
  clear c0 c1 s0 hx0 hx1 hv ht
  by_cases h4 : b.length + 2 ≤ 4000
  · rw [if_pos h4, if_pos h4]
    have SM : Hid (∀ w' x, SliceIs w' x L → Tabs w' → Calls Tryd.prog 37 #[x] w' fun e w'' => ∃ nb, w'.heap.size ≤ nb ∧ e = .returned (.tuple #[.slice (some ⟨nb, 0, none⟩) 32 32, .int .i64 0]) ∧ Bytes w'' nb (sumF L) ∧ w'.grownBy w'' none) := fun w' x h1 h2 => sum_any w' x L h1 (by omega) h2
    have hfl := fourF_len L
    have HF : Hid (fourF L = (sumF L).take 4) := rfl
    have hsl := sumF_len L
    generalize fourF L = FL at *
    generalize sumF L = SL at *
    clear hL
    go_enter Tryd.func24, Tryd.ntmps24
    go_wp2_with fail
    rw [← HW0.out, ← HW1.out]
    refine CC.out.mono ?_
    rintro e w2 ⟨v2, rfl, ho2, hg2⟩
    obtain ⟨a2, n2, c2, rfl⟩ := Own.anyC ho2
    have O2 : Hid (Own W1.heap.size w2 (.slice a2 n2 c2) L) := ho2
    have ht2 := ht1.grownNone hg2
    clear ho2
    go_wp2_with fail
    refine (SM.out _ _ O2.out.slice ht2).mono ?_
    rintro e w3 ⟨nb, hnb, rfl, hbs, hg3⟩
    have O3 : Hid (Own W1.heap.size w3 (.slice a2 n2 c2) L) := O2.out.grownNone hg3
    have S3 : Hid (SliceIs w3 (.slice (some ⟨nb, 0, none⟩) 4 32) FL) := by
      show SliceIs _ _ _
      rw [HF.out]
      exact (hbs.slice32 hsl).take 4 (by omega)
    have sl : ∀ W, (Instr.slice 26 (.slice (some ⟨nb, 0, none⟩) 32 32) none (some (.int .i64 4)) none).run Tryd.prog W = .ok (.slice (some ⟨nb, 0, none⟩) 4 32) W := fun W => slice_h W nb 0 32 32 4 4 rfl (by omega) (by omega)
    have sl3 := sl w3
    have hg13 := grown_trans hg2 hg3
    have hsz3 := hg13.size
    clear hbs ht2 sl
    go_wp2_with (at_builtin; refine wpList_append_bytes rfl (.tmp 26) (.tmp 28) rfl W1.heap.size (.slice a2 n2 c2) L rfl O3.out (some ⟨nb, 0, none⟩) 4 32 FL rfl S3.out ?_ hsz3 ?_; omega; intro v4 w4 ho4 hg4; have hgw4 : W1.grownBy w4 none := grown_own hg13 O3.out hg4; have H4 : Hid (Own W1.heap.size w4 v4 (L ++ FL)) := ho4)
    go_ret2
    exact ⟨_, rfl, own_mono H4.out hsz1, grown_trans hg01 hgw4⟩
  · rw [if_neg h4, if_neg h4]
    have HLL : Hid (4000 < L.length) := by show _ < _; omega
    clear hL hlb
    go_enter Tryd.func24, Tryd.ntmps24
    go_wp2_with fail
    rw [← HW0.out, ← HW1.out]
    refine CC.out.mono ?_
    rintro e w2 ⟨v2, rfl, ho2, hg2⟩
    obtain ⟨a2, c2, rfl⟩ := ho2.shape
    have SL : Hid (Calls Tryd.prog 37 #[.slice a2 L.length c2] w2 fun e w' => e = .returned (.tuple #[.slice none 0 0, .int .i64 1]) ∧ w' = w2) := sum_long w2 a2 L.length c2 HLL.out
    clear ho2
    go_wp2_with fail
    refine SL.out.mono ?_
    rintro e w3 ⟨rfl, rfl⟩
    go_wp2
    go_ret2
    exact ⟨_, rfl, own_nil _ _, grown_trans hg01 hg2⟩
end Go.Proofs.YtkheombfjgjedacDoor
