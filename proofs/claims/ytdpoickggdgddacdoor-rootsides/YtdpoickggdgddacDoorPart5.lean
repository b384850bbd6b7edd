/-
  Texts of this proof, joined: TBitP, TForkP, TPairP, CmpB, TCCheck, TCheckP, PairSlice, Own, Parts, RootF, TCRoot, TRootP, KPure, PairSlice3.
-/
import Derived.Test.YtdpoickggdgddacDoorPart4
import Derived.Test.YtdpoickggdgddacDoorPart3
import Derived.Deep.RegionWith
import Derived.Handy
import Derived.Test.YtdpoickggdgddacDoorPart1
import Derived.Test.YtdpoickggdgddacDoorPart2
import Derived.Lib.BytesEntry
/-
  The closure of tree.fork, and sort.Search, as they landed.
-/
namespace Go.Proofs.YtdpoickggdgddacDoor
open Go.RowKit
theorem Tree.key {l : PL} (h : Tree l) (j : Nat) (hj : j < l.length) : 1 ≤ (l.getD j ([], [])).1.length ∧ (l.getD j ([], [])).1.length ≤ 16 := by
  have := (h.pairs l[j] (List.getElem_mem hj)).1
  simpa [hj] using this
set_option maxRecDepth 100000 in
set_option maxHeartbeats 1000000 in
theorem bitAt_any (w : World) (lb bb : Nat) (a : Option Addr) (cap : Nat) (l : PL) (b i : Nat) (hl : w.cell? ⟨lb, 0, none⟩ = some (.slice a l.length cap)) (hb : w.cell? ⟨bb, 0, none⟩ = some (.int .i64 (b : Int))) (hv : PairsIs w (.slice a l.length cap) l) (hT : Tree l) (hi : i < l.length) (hb145 : b < 145) :
    Calls Tryd.prog 27 #[.int .i64 (i : Int), .pointer (some ⟨lb, 0, none⟩), .pointer (some ⟨bb, 0, none⟩)] w fun e w' => e = .returned (.bool (kbit (l.getD i ([], [])).1 b)) ∧ w.grownBy w' none := by
  obtain ⟨pb, po, rfl, hat⟩ := hv.at i hi
  obtain ⟨vk, vv, c1, c2, s1, s2⟩ := hat
  have hk := hT.key i hi
  have BT : Hid (Calls Tryd.prog 12 #[vk, .int .i64 (b : Int)] w.drew fun e w' => e = .returned (.tuple #[.bool (kbit (l.getD i ([], [])).1 b), .int .i64 0]) ∧ w.drew.grownBy w' none) := BitOK.of bit_ok w.drew vk _ b s1.drew hk hb145
  generalize kbit (l.getD i ([], [])).1 b = z at *
  have t1 : (i : Int) < (l.length : Int) := by omega
  have hgd := grown_drew (grown_refl w none)
  obtain ⟨ka, kc, rfl⟩ := s1.shape
  generalize l.getD i ([], []) = P at *
  clear s1 s2 c2 hv hT
  go_enter Tryd.func27, Tryd.ntmps27
  go_wp2_with fail
  go_region_with (go_at_call 12; refine BT.out.mono ?_; rintro e w1 ⟨rfl, hg1⟩)
  all_goals
    go_wp2
    go_ret
    exact ⟨rfl, grown_trans hgd hg1⟩
set_option maxRecDepth 100000 in
set_option maxHeartbeats 1000000 in
theorem search_any (w : World) (lb bb : Nat) (a : Option Addr) (cap : Nat) (l : PL) (b n : Nat) (hl : w.cell? ⟨lb, 0, none⟩ = some (.slice a l.length cap)) (hb : w.cell? ⟨bb, 0, none⟩ = some (.int .i64 (b : Int))) (hv : PairsIs w (.slice a l.length cap) l) (hT : Tree l) (hb145 : b < 145)
    (hn : n ≤ l.length) (hbit : ∀ j, j < l.length → kbit (l.getD j ([], [])).1 b = decide (n ≤ j)) :
    Calls Tryd.prog 26 #[.int .i64 (l.length : Int), .func (.func 27) #[] #[.pointer (some ⟨lb, 0, none⟩), .pointer (some ⟨bb, 0, none⟩)]] w fun e w' => e = .returned (.int .i64 (n : Int)) ∧ w.grownBy w' none := by
  have CL : Hid (∀ (w' : World) (i : Nat), w.grownBy w' none → i < l.length → Calls Tryd.prog 27 #[.int .i64 (i : Int), .pointer (some ⟨lb, 0, none⟩), .pointer (some ⟨bb, 0, none⟩)] w' fun e w'' => e = .returned (.bool (decide (n ≤ i))) ∧ w'.grownBy w'' none) := fun w' i hg hi => by
    have := bitAt_any w' lb bb a cap l b i (hg.cell hl (by simp)) (hg.cell hb (by simp)) (hv.grown hg) hT hi hb145
    rw [hbit i hi] at this
    exact this
  have hroom := hT.room
  clear hl hb hv hT hbit
  go_enter Tryd.func26, Tryd.ntmps26
  go_wp2_with fail
  go_loopw [5, 6] (fun si sj wr => ∃ i j : Nat, i ≤ n ∧ n ≤ j ∧ j ≤ l.length ∧ si = .int .i64 (i : Int) ∧ sj = .int .i64 (j : Int) ∧ w.grownBy wr none) (fun si sj _ => (intOf sj).toNat - (intOf si).toNat)
  case atStart => exact ⟨0, l.length, by omega, hn, by omega, rfl, rfl, grown_refl _ _⟩
  case round =>
    obtain ⟨i, j, hi, hj, hjl, rfl, rfl, hgr⟩ := hrel
    by_cases hlt : i < j
    · have t1 : (i : Int) < (j : Int) := by omega
      obtain ⟨h, hh⟩ : ∃ h : Nat, ((i : Int) + (j : Int)) / 2 = (h : Int) := ⟨(i + j) / 2, by omega⟩
      have b1 : i ≤ h := by omega
      have b2 : h < j := by omega
      have CH : Hid (Calls Tryd.prog 27 #[.int .i64 (h : Int), .pointer (some ⟨lb, 0, none⟩), .pointer (some ⟨bb, 0, none⟩)] wr fun e w'' => e = .returned (.bool (decide (n ≤ h))) ∧ wr.grownBy w'' none) := CL.out wr h hgr (by omega)
      go_wp2_with fail
      refine CH.out.mono ?_
      rintro e w1 ⟨rfl, hg1⟩
      have hgw := grown_trans hgr hg1
      by_cases hz : n ≤ h
      · rw [decide_eq_true hz]
        go_wp2_with fail
        go_roundw
        case rel =>
          first
            | exact ⟨i, h, by omega, by omega, by omega, rfl, rfl, hgw⟩
            | ((repeat apply Exists.intro); refine ⟨⟨i, h, by omega, by omega, by omega, rfl, ?_, hgw⟩, rfl⟩; go_num)
        case measure => simp [intOf]; omega
      · rw [decide_eq_false hz]
        go_wp2_with fail
        go_roundw
        case rel =>
          first
            | exact ⟨h + 1, j, by omega, by omega, by omega, by go_num, rfl, hgw⟩
            | ((repeat apply Exists.intro); refine ⟨⟨h + 1, j, by omega, by omega, by omega, ?_, rfl, hgw⟩, rfl⟩; go_num)
        case measure => simp [intOf]; omega
    · obtain rfl : i = n := by omega
      obtain rfl : j = i := by omega
      go_wp2
      go_ret
      exact ⟨rfl, hgr⟩
end Go.Proofs.YtdpoickggdgddacDoor

/-
  tree.fork, as it landed.
-/
namespace Go.Proofs.YtdpoickggdgddacDoor
open Go.RowKit
theorem one_cell {w : World} {b : Nat} {x : Value} {t : TypeId} (h : w.heap[b]? = some (.cells #[x] t)) : w.cell? ⟨b, 0, none⟩ = some x := by simp [World.cell?, h]
theorem one_free {w : World} {b : Nat} {x : Value} {t : TypeId} (h : w.heap[b]? = some (.cells #[x] t)) : w.frozen? ⟨b, 0, none⟩ = false := by simp [World.frozen?, h]
theorem one_set {w : World} {b : Nat} {x : Value} {t : TypeId} (h : w.heap[b]? = some (.cells #[x] t)) (u : Value) : (w.setCell ⟨b, 0, none⟩ u).heap[b]? = some (.cells #[u] t) := by
  simp only [World.setCell, Array.getElem?_modify, if_true, h, Option.map_some]
  first | rfl | simp
set_option maxRecDepth 100000 in
set_option maxHeartbeats 1000000 in
theorem fork_any (w : World) (v : Value) (l : PL) (hv : PairsIs w v l) (hT : Tree l) (h2 : 2 ≤ l.length) :
    Calls Tryd.prog 21 #[v] w fun e w' => e = .returned (.tuple #[.int .i64 (forkBit l), .int .i64 (sideN l (forkBit l).toNat : Int), .int .i64 0]) ∧ w.grownBy w' none := by
  obtain ⟨a, cap, rfl⟩ := hv.shape
  have hr := forkBit_range hT h2
  have hpart := fork_part hT h2
  have hsr := side_range hT h2
  have hbit := fun j hj => bit_side hT h2 j hj
  have hroom := hT.room
  obtain ⟨b, hb⟩ : ∃ b : Nat, forkBit l = (b : Int) := ⟨(forkBit l).toNat, by omega⟩
  rw [hb] at hpart hsr hbit ⊢
  rw [Int.toNat_natCast] at hsr hbit ⊢
  have hb145 : b < 145 := by omega
  generalize sideN l b = n at *
  obtain ⟨m, hm⟩ : ∃ m, l.length = m + 1 := ⟨l.length - 1, by omega⟩
  rw [show l.length - 1 = m by omega] at hpart
  obtain ⟨W1, hW1⟩ : ∃ W1 : World, W1 = (w.alloc (.cells #[.slice a l.length cap] 31)).alloc (.cells #[.int .i64 0] 3) := ⟨_, rfl⟩
  have hgW : w.grownBy W1 none := by rw [hW1]; exact grown_alloc (World.grownBy_alloc _ _ _) _
  have HW1 : Hid (W1 = (w.alloc (.cells #[.slice a l.length cap] 31)).alloc (.cells #[.int .i64 0] 3)) := hW1
  have d1 : W1.drew.cell? ⟨w.heap.size, 0, none⟩ = some (.slice a l.length cap) := by rw [hW1]; simp
  have d2 : Hid (W1.heap[w.heap.size + 1]? = some (.cells #[.int .i64 0] 3)) := by
    have := heap_alloc_new (w.alloc (.cells #[.slice a l.length cap] 31)) (.cells #[.int .i64 0] 3)
    rw [World.size_alloc] at this
    rw [hW1]; exact this
  obtain ⟨pb, po, rfl, hat0⟩ := hv.at 0 (by omega)
  obtain ⟨pb2, po2, e, hatm⟩ := hv.at m (by omega)
  cases e
  have hpb : pb < w.heap.size := by obtain ⟨_, _, c, _⟩ := hat0; exact cell_lt c
  obtain ⟨vk, vv, c1, _, s1, _⟩ := hat0.grown (grown_drew hgW)
  obtain ⟨uk, uv, c2, _, s2, _⟩ := hatm.grown (grown_drew hgW)
  rw [Nat.zero_mul, Nat.add_zero] at c1
  have PT : Hid (Calls Tryd.prog 10 #[vk, uk] W1.drew fun e w' => e = .returned (.tuple #[.int .i64 (b : Int), .int .i64 0]) ∧ W1.drew.grownBy w' none) := by
    have := PartOK.of part_ok W1.drew vk uk _ _ s1 s2 (hT.key 0 (by omega)) (hT.key m (by omega))
    rw [hpart] at this
    exact this
  obtain ⟨ka, kc, rfl⟩ := s1.shape
  obtain ⟨ua, uc, rfl⟩ := s2.shape
  generalize (l.getD 0 ([], [])).1.length = k0 at *
  generalize (l.getD m ([], [])).1.length = km at *
  have i0 : (0 : Int) < (l.length : Int) := by omega
  have i1 : (m : Int) < (l.length : Int) := by omega
  have i2 : IntKind.i64.wrap ((l.length : Int) - 1) = (m : Int) := by rw [IntKind.wrap_i64]; omega
  have HBT : Hid (∀ j, j < l.length → kbit (l.getD j ([], [])).1 b = decide (n ≤ j)) := hbit
  have hgd := grown_drew hgW
  have hm1 : m + 1 ≤ l.length := by omega
  have hm2 : l.length ≤ m + 1 := by omega
  clear hpart hbit hW1 s1 s2 hat0 hatm hb hr hm
  have HV : Hid (PairsIs w (.slice (some ⟨pb, po, none⟩) l.length cap) l) := hv
  have HT : Hid (Tree l) := hT
  clear hv hT
  generalize hL : l.length = L at *
  have HL : Hid (l.length = L) := hL
  clear hL
  have i0' : 0 < L := by omega
  go_enter Tryd.func21, Tryd.ntmps21
  go_wp2_with fail
  rw [← HW1.out]
  go_region_held3 (fun w' => w'.cell? ⟨w.heap.size, 0, none⟩ = some (.slice (some ⟨pb, po, none⟩) L cap) ∧ w'.cell? ⟨pb, po, none⟩ = some (.slice ka k0 kc) ∧ w'.cell? ⟨pb, po + m * 2, none⟩ = some (.slice ua km uc))
    (first | exact ⟨d1, c1, c2⟩ | exact ⟨f1, f2, f3⟩ | exact ⟨(World.cell?_setCell_other _ _ _ _ (by simp)).trans f1, (World.cell?_setCell_other _ _ _ _ (by first | (simp; done) | (simp; omega))).trans f2, (World.cell?_setCell_other _ _ _ _ (by first | (simp; done) | (simp; omega))).trans f3⟩)
    (first | (go_at_call 10; refine PT.out.mono ?_; rintro e w1 ⟨rfl, hg1⟩; have f1 := hg1.cell d1 (by simp); have f2 := hg1.cell c1 (by simp); have f3 := hg1.cell c2 (by simp); have g0 := pair_old hg1 d2.out; have g1 : w1.cell? ⟨w.heap.size + 1, 0, none⟩ = some (.int .i64 0) := one_cell g0; have g2 : w1.frozen? ⟨w.heap.size + 1, 0, none⟩ = false := one_free g0))
  have hgw := grown_trans hgd hg1
  have k1 : (w1.setCell ⟨w.heap.size + 1, 0, none⟩ (.int .i64 (b : Int))).cell? ⟨w.heap.size, 0, none⟩ = some (.slice (some ⟨pb, po, none⟩) L cap) := (World.cell?_setCell_other _ _ _ _ (by simp)).trans f1
  have k2 : (w1.setCell ⟨w.heap.size + 1, 0, none⟩ (.int .i64 (b : Int))).cell? ⟨w.heap.size + 1, 0, none⟩ = some (.int .i64 (b : Int)) := World.cell?_setCell_same' _ _ _ (by rw [g1]; rfl)
  have hgs : w.grownBy (w1.setCell ⟨w.heap.size + 1, 0, none⟩ (.int .i64 (b : Int))) none := grown_setNew hgw _ (by omega) _ _
  have SE : Hid (Calls Tryd.prog 26 #[.int .i64 (L : Int), .func (.func 27) #[] #[.pointer (some ⟨w.heap.size, 0, none⟩), .pointer (some ⟨w.heap.size + 1, 0, none⟩)]] (w1.setCell ⟨w.heap.size + 1, 0, none⟩ (.int .i64 (b : Int))) fun e w' => e = .returned (.int .i64 (n : Int)) ∧ (w1.setCell ⟨w.heap.size + 1, 0, none⟩ (.int .i64 (b : Int))).grownBy w' none) := by
    have := search_any (w1.setCell ⟨w.heap.size + 1, 0, none⟩ (.int .i64 (b : Int))) w.heap.size (w.heap.size + 1) (some ⟨pb, po, none⟩) cap l b n (by rw [HL.out]; exact k1) k2 (by rw [HL.out]; exact HV.out.grown hgs) HT.out hb145 (by rw [HL.out]; omega) (by rw [HL.out]; exact HBT.out)
    rw [HL.out] at this
    exact this
  have BK : Hid ((w1.setCell ⟨w.heap.size + 1, 0, none⟩ (.int .i64 (b : Int))).heap[w.heap.size + 1]? = some (.cells #[.int .i64 (b : Int)] 3)) := one_set g0 _
  obtain ⟨W2, hW2⟩ : ∃ W2 : World, W2 = w1.setCell ⟨w.heap.size + 1, 0, none⟩ (.int .i64 (b : Int)) := ⟨_, rfl⟩
  rw [← hW2] at SE BK hgs k1 k2
  have HW2 : Hid (W2 = w1.setCell ⟨w.heap.size + 1, 0, none⟩ (.int .i64 (b : Int))) := hW2
  clear hW2 g0 g1 g2 f1 f2 f3 c1 c2 d1 hgd hgw hg1 PT
  have e1 : (w1.setCell ⟨w.heap.size + 1, 0, none⟩ (.int .i64 (b : Int))).cell? ⟨w.heap.size, 0, none⟩ = some (.slice (some ⟨pb, po, none⟩) L cap) := by rw [← HW2.out]; exact k1
  go_wp2_with fail
  rw [← HW2.out]
  refine SE.out.mono ?_
  rintro e w3 ⟨rfl, hg3⟩
  have g0 := pair_old hg3 BK.out
  have g1 := one_cell g0
  have g2 := one_free g0
  have g3 := one_cell (one_set g0 (.int .i64 (b : Int)))
  go_wp2
  refine bodyPost_ret (v := .tuple #[.int .i64 (b : Int), .int .i64 (n : Int), .int .i64 0]) (by simp [results, Tryd.results21, go_sem, g3]) rfl ?_
  exact ⟨rfl, grown_setNew (grown_trans hgs hg3) _ (by omega) _ _⟩
end Go.Proofs.YtdpoickggdgddacDoor

/-
  tree.checkPair and tree.checkWith, as they landed.
-/
namespace Go.Proofs.YtdpoickggdgddacDoor
open Go.RowKit
theorem checkPair_any (w : World) (ak av : Option Addr) (p : Pr) (ck cv : Nat) :
    Calls Tryd.prog 19 #[.agg #[.slice ak p.1.length ck, .slice av p.2.length cv]] w fun e w' => e = .returned (.int .i64 (pairFaultF p)) ∧ w.grownBy w' none := by
  by_cases h : 32 < p.2.length
  · rw [pairFaultF, if_pos h]
    have t1 : (p.2.length : Int) > 32 := by omega
    go_enter Tryd.func19, Tryd.ntmps19
    go_wp2
    go_ret
    exact ⟨rfl, World.grownBy_alloc _ _ _⟩
  · rw [pairFaultF, if_neg h]
    have t1 : ¬ (p.2.length : Int) > 32 := by omega
    have CK : Hid CheckOK := check_ok
    go_enter Tryd.func19, Tryd.ntmps19
    go_wp2_with fail
    refine (CK.out _ _ _ _).mono ?_
    rintro e w1 ⟨rfl, hg1⟩
    go_wp2
    go_ret
    exact ⟨rfl, grown_trans (World.grownBy_alloc _ _ _) hg1⟩
end Go.Proofs.YtdpoickggdgddacDoor

/-
  The walk of bytes.Compare, over two slices as they are handed over.
-/
namespace Go.Proofs.YtdpoickggdgddacDoor
open Go.RowKit
/-- -1, 0 or 1. -/
def cmpF (a b : List UInt8) : Int := if klt a b = true then -1 else if a = b then 0 else 1
theorem cmp_klt : ∀ a b : List UInt8, Lib.compareBytes a b = cmpF a b
  | [], [] => rfl
  | [], y :: b => by
    have h : klt [] (y :: b) = true := by
      cases h : klt [] (y :: b) with
      | true => rfl
      | false => have := klt_total _ _ h (by simp); rw [klt_nil] at this; cases this
    rw [cmpF, if_pos h]; rfl
  | x :: a, [] => by rw [cmpF, if_neg (by rw [klt_nil]; simp), if_neg (by simp)]; rfl
  | x :: a, y :: b => by
    have ih := cmp_klt a b
    rw [Lib.compareBytes, ih]
    unfold cmpF
    rw [klt_cons]
    by_cases h1 : x < y
    · simp [h1]
    · by_cases h2 : y < x
      · have h3 : x ≠ y := by intro e; subst e; exact h1 h2
        simp [h1, h2, h3]
      · have h3 : x = y := by
          have e1 := UInt8.not_lt.1 h1
          have e2 := UInt8.not_lt.1 h2
          exact UInt8.le_antisymm e2 e1
        subst h3
        simp [h1]
theorem cmpF_lt (a b : List UInt8) (h : klt a b = true) : cmpF a b = -1 := by rw [cmpF, if_pos h]
theorem cmpF_eq (a : List UInt8) : cmpF a a = 0 := by rw [cmpF, if_neg (by rw [klt_irrefl]; simp), if_pos rfl]
theorem cmpF_gt (a b : List UInt8) (h : klt a b = false) (hne : a ≠ b) : cmpF a b = 1 := by rw [cmpF, if_neg (by rw [h]; simp), if_neg hne]
theorem cmpF_range (a b : List UInt8) : -1 ≤ cmpF a b ∧ cmpF a b ≤ 1 := by
  unfold cmpF
  by_cases h1 : klt a b = true
  · rw [if_pos h1]; omega
  · rw [if_neg h1]
    by_cases h2 : a = b
    · rw [if_pos h2]; omega
    · rw [if_neg h2]; omega
theorem cmpF_neg (a b : List UInt8) : decide (cmpF a b < 0) = klt a b := by
  cases h : klt a b with
  | true => rw [cmpF_lt a b h]; rfl
  | false =>
    by_cases h2 : a = b
    · subst h2; rw [cmpF_eq]; rfl
    · rw [cmpF_gt a b h h2]; rfl
theorem cmpF_zero (a b : List UInt8) : (cmpF a b == 0) = decide (a = b) := by
  by_cases h2 : a = b
  · subst h2; rw [cmpF_eq]; simp
  · cases h : klt a b with
    | true => rw [cmpF_lt a b h]; simp [h2]
    | false => rw [cmpF_gt a b h h2]; simp [h2]
theorem run_bytesOf (w : World) (v : Value) (a : List UInt8) (h : SliceIs w v a) : (Extern.Bytes.bytesOf v).run Tryd.prog w = .ok ⟨a.toArray⟩ w := by
  obtain ⟨ad, cap, rfl, hc, h⟩ := h
  have key : ∀ x : Addr, (∀ j y, (a.map fun c => (c.toNat : Int))[j]? = some y → w.cell? (x.add j) = some (.int .u8 y)) → (Extern.Bytes.bytesOf (.slice (some x) a.length cap)).run Tryd.prog w = .ok ⟨a.toArray⟩ w := by
    intro x hx
    have hl := Lib.run_loadBytesX (P := Tryd.prog) w (a.map fun c => (c.toNat : Int)) x .empty hx
    rw [List.length_map] at hl
    have e : (⟨ByteArray.empty.data ++ (Lib.bytesOf (a.map fun c => (c.toNat : Int))).toArray⟩ : ByteArray) = ⟨a.toArray⟩ := by
      apply ByteArray.ext
      show (#[] : Array UInt8) ++ (Lib.bytesOf (a.map fun c => (c.toNat : Int))).toArray = a.toArray
      simp only [Lib.bytesOf, List.map_map, Array.empty_append, Array.mk.injEq]
      congr 1
      exact (List.map_congr_left fun c _ => by simp).trans (List.map_id a)
    rw [e] at hl
    simpa only [Extern.Bytes.bytesOf] using hl
  rcases h with ⟨rfl, h⟩ | ⟨b, o, rfl, h⟩
  · cases ad with
    | none => rfl
    | some x => exact key x fun j y hy => by simp at hy
  · refine key ⟨b, o, none⟩ fun j y hy => ?_
    rw [List.getElem?_map] at hy
    cases hj : a[j]? with
    | none => rw [hj] at hy; simp at hy
    | some c =>
      rw [hj] at hy
      simp at hy
      subst hy
      have hlt : j < a.length := (List.getElem?_eq_some_iff.1 hj).1
      rw [addr_add, h j hlt]
      simp [hj]
theorem run_compare (w : World) (v u : Value) (a b : List UInt8) (hv : SliceIs w v a) (hu : SliceIs w u b) :
    (Extern.BytealgCompare.compare #[v, u]).run Tryd.prog w = .ok (.int .i64 (cmpF a b)) w := by
  change Sem.run Tryd.prog (do pure (goInt (Extern.BytealgCompare.cmp (← Extern.Bytes.bytesOf v) (← Extern.Bytes.bytesOf u)))) w = _
  simp only [Sem.run_bind, Sem.run_pure, run_bytesOf w v a hv, run_bytesOf w u b hu, Result.andThen]
  rw [Lib.cmp_eq, cmp_klt]
  rfl
set_option maxRecDepth 100000 in
set_option maxHeartbeats 1000000 in
theorem compare_any (w : World) (v u : Value) (a b : List UInt8) (hv : SliceIs w v a) (hu : SliceIs w u b) :
    Calls Tryd.prog 20 #[v, u] w fun e w' => e = .returned (.int .i64 (cmpF a b)) ∧ w' = w := by
  have hrun := run_compare w v u a b hv hu
  obtain ⟨va, vc, rfl⟩ : ∃ x c, v = .slice x a.length c := by obtain ⟨x, c, e, _⟩ := hv; exact ⟨x, c, e⟩
  obtain ⟨ua, uc, rfl⟩ : ∃ x c, u = .slice x b.length c := by obtain ⟨x, c, e, _⟩ := hu; exact ⟨x, c, e⟩
  have HR : Hid ((Extern.BytealgCompare.compare #[.slice va a.length vc, .slice ua b.length uc]).run Tryd.prog w = .ok (.int .i64 (cmpF a b)) w) := hrun
  clear hrun hv hu
  go_enter Tryd.func20, Tryd.ntmps20
  go_wp2
  rw [run_callFunc_extern Tryd.func25 (by kernel_rfl) (by kernel_rfl) (by kernel_rfl) (e := Extern.BytealgCompare.compare) (by kernel_rfl), HR.out]
  simp only [Result.andThen]
  rw [Oper.upon_value]
  go_wp2
  go_ret
  exact ⟨rfl, rfl⟩
end Go.Proofs.YtdpoickggdgddacDoor

/-
  What tree.Check must keep.
-/
namespace Go.Proofs.YtdpoickggdgddacDoor
open Go.RowKit
/-- tree.Check keeps P3.1. -/
def TCheckOK : Prop := ∀ (w : World) (v : Value) (l : PL), PairsIs w v l → Fits l → Calls Tryd.prog 13 #[v] w fun e w' => e = .returned (.int .i64 (pairsFaultF l)) ∧ w.grownBy w' none
end Go.Proofs.YtdpoickggdgddacDoor

/-
  tree.Check, as it landed, keeps P3.1.
-/
namespace Go.Proofs.YtdpoickggdgddacDoor
open Go.RowKit
set_option maxRecDepth 100000 in
set_option maxHeartbeats 1000000 in
theorem tcheck_ok : TCheckOK := by
  intro w v l hv hl
  obtain ⟨a, cap, rfl⟩ := hv.shape
  have hll := hl.len
  by_cases h60 : 60 < l.length
  · rw [pairsFault_long l h60]
    have t1 : (l.length : Int) > 60 := by omega
    go_enter Tryd.func13, Tryd.ntmps13
    go_wp2
    go_ret
    exact ⟨rfl, grown_refl _ _⟩
  · have t1 : ¬ (l.length : Int) > 60 := by omega
    go_enter Tryd.func13, Tryd.ntmps13
    go_wp2_with fail
    go_loopw [11] (fun i wr => ∃ m : Nat, m ≤ l.length ∧ i = .int .i64 (m : Int) ∧ w.grownBy wr none ∧ ∀ j, j < m → faultAt l j = 0) (fun i _ => l.length - (intOf i).toNat)
    case atStart => exact ⟨0, by omega, rfl, grown_refl _ _, fun j hj => by omega⟩
    case round =>
      obtain ⟨m, hm, rfl, hgr, hok⟩ := hrel
      have HOK : Hid (∀ j, j < m → faultAt l j = 0) := hok
      clear hok
      by_cases hlt : m < l.length
      · obtain ⟨b, o, rfl, hat⟩ := hv.at m hlt
        obtain ⟨vk, vv, c1, c2, s1, s2⟩ := hat.grown hgr
        generalize hP : l.getD m ([], []) = P at s1 s2
        have HA : Hid (faultAt l m = if pairFaultF P = 0 then (if 0 < m ∧ klt (l.getD (m - 1) ([], [])).1 P.1 = false then 3 else 0) else pairFaultF P) := by
          show _ = _
          unfold faultAt
          rw [hP]
        obtain ⟨ak, ck, rfl, hck, hrk⟩ := s1
        obtain ⟨av, cv, rfl, hcv, hrv⟩ := s2
        have s1 : SliceIs wr (.slice ak P.1.length ck) P.1 := ⟨ak, ck, rfl, hck, hrk⟩
        clear hrk hrv hat hP
        have i1 : (m : Int) < (l.length : Int) := by omega
        go_wp2_with fail
        have hga : wr.grownBy (wr.alloc (.cells #[.slice ak P.1.length ck, .slice av P.2.length cv] 27)) none := World.grownBy_alloc _ _ _
        refine (checkPair_any _ _ _ P _ _).mono ?_
        rintro e w1 ⟨rfl, hg1⟩
        have hg2 := grown_trans hga hg1
        obtain ⟨cA, _, _, _⟩ := pair_room hg1 (heap_alloc_new wr (.cells #[.slice ak P.1.length ck, .slice av P.2.length cv] 27))
        by_cases hf : pairFaultF P = 0
        · rw [hf]
          have s1 := s1.grown hg2
          have hgw := grown_trans hgr hg2
          clear c1 c2
          by_cases h0 : m = 0
          · subst h0
            have HZ : Hid (faultAt l 0 = 0) := by show _ = _; rw [HA.out, if_pos hf, if_neg (by simp)]
            go_wp2_with fail
            go_quiet (fail)
            all_goals go_wp2_with fail
            go_roundw
            case rel =>
              have hs : ∀ j, j < 0 + 1 → faultAt l j = 0 := fun j hj => by
                obtain rfl : j = 0 := by omega
                exact HZ.out
              exact ⟨1, by omega, rfl, grown_drewN hgw _, hs⟩
            case measure => simp [intOf]; omega
          · obtain ⟨n, rfl⟩ : ∃ n, m = n + 1 := ⟨m - 1, by omega⟩
            obtain ⟨b2, o2, e, hat⟩ := hv.at n (by omega)
            cases e
            obtain ⟨qk, qv, d1, d2, r1, r2⟩ := hat.grown hgw
            clear d2 r2 hat
            have HA2 : Hid (faultAt l (n + 1) = if klt (l.getD n ([], [])).1 P.1 = false then 3 else 0) := by
              show _ = _
              rw [HA.out, if_pos hf]
              simp
            generalize (l.getD n ([], [])).1 = q at *
            have i0 : IntKind.i64.wrap (n : Int) = (n : Int) := by rw [IntKind.wrap_i64]; omega
            have R1 : Hid (SliceIs w1 qk q) := r1
            have S1 : Hid (SliceIs w1 (.slice ak P.1.length ck) P.1) := s1
            have i2 : (n : Int) < (l.length : Int) := by omega
            have i3 : ((n + 1 : Nat) : Int) > 0 := by omega
            have hcr := cmpF_neg q P.1
            have CM : Hid (∀ k, Calls Tryd.prog 20 #[qk, .slice ak P.1.length ck] (w1.drewN k) fun e w' => e = .returned (.int .i64 (cmpF q P.1)) ∧ w' = w1.drewN k) := fun k => compare_any _ _ _ _ _ (R1.out.drewN k) (S1.out.drewN k)
            generalize cmpF q P.1 = z at *
            have HCR : Hid (decide (z < 0) = klt q P.1) := hcr
            clear s1 r1 hcr
            go_wp2_with fail
            go_quiet (first | (go_at_call 20; exact Calls.quiet_of_same (CM.out _)))
            cases hk : klt q P.1 with
            | true =>
              have HZ : Hid (faultAt l (n + 1) = 0) := by show _ = _; rw [HA2.out, hk]; simp
              have hz : z < 0 := by have := HCR.out; rw [hk] at this; simpa using this
              clear hk
              go_wp2_with fail
              go_roundw
              case rel =>
                have hs : ∀ j, j < n + 1 + 1 → faultAt l j = 0 := fun j hj => by
                  by_cases hjm : j = n + 1
                  · subst hjm; exact HZ.out
                  · exact HOK.out j (by omega)
                first
                  | exact ⟨n + 1 + 1, by omega, by go_num, grown_drewN hgw _, hs⟩
                  | ((repeat apply Exists.intro); refine ⟨⟨n + 1 + 1, by omega, ?_, grown_drewN hgw _, hs⟩, rfl⟩; go_num)
              case measure => simp [intOf]; omega
            | false =>
              have HZ : Hid (pairsFaultF l = 3) := by
                have e : faultAt l (n + 1) = 3 := by rw [HA2.out, hk]; simp
                show _ = _
                rw [← e]
                exact pairsFault_at l (n + 1) hlt (by omega) HOK.out (by rw [e]; decide)
              have hz : 0 ≤ z := by have := HCR.out; rw [hk] at this; simpa using this
              clear hk
              go_wp2
              go_ret
              exact ⟨by rw [HZ.out]; rfl, grown_drewN hgw _⟩
        · have HF : Hid (pairsFaultF l = pairFaultF P) := by
            have e : faultAt l m = pairFaultF P := by rw [HA.out, if_neg hf]
            show _ = _
            rw [← e]
            exact pairsFault_at l m hlt (by omega) HOK.out (by rw [e]; exact hf)
          generalize pairFaultF P = z at *
          have hz : (z != 0) = true := by simpa using hf
          go_wp2
          go_ret
          exact ⟨by rw [HF.out]; rfl, grown_trans hgr hg2⟩
      · obtain rfl : m = l.length := by omega
        have HP : Hid (pairsFaultF l = 0) := pairsFault_none l (by omega) HOK.out
        go_wp2
        go_ret
        exact ⟨by rw [HP.out]; rfl, hgr⟩
end Go.Proofs.YtdpoickggdgddacDoor

/-
  Pieces of a list of pairs: l[:n], l[m:], l[i:j].
-/
namespace Go.Proofs.YtdpoickggdgddacDoor
open Go.RowKit
theorem sizePair (w : World) : (sizeOf (Tryd.prog.elem 31)).run Tryd.prog w = .ok 2 w := by kernel_rfl
theorem PairsIs.sliced {w : World} {a : Option Addr} {cap : Nat} {l : PL} (h : PairsIs w (.slice a l.length cap) l) (i j : Nat) (hij : i ≤ j) (hj : j ≤ l.length) : PairsIs w (Go.sliced a i j cap 2) ((l.take j).drop i) := by
  obtain ⟨a', cap', e, hc, h⟩ := h
  simp only [Value.slice.injEq, true_and] at e
  obtain ⟨rfl, rfl⟩ := e
  have hlen : ((l.take j).drop i).length = j - i := by simp; omega
  refine ⟨if cap = i then a else a.map (·.add (i * 2)), cap - i, by rw [hlen]; rfl, by rw [hlen]; omega, ?_⟩
  by_cases hci : cap = i
  · left
    exact ⟨List.eq_nil_of_length_eq_zero (by rw [hlen]; omega), fun _ => by omega⟩
  · rw [if_neg hci]
    rcases h with ⟨rfl, h⟩ | ⟨b, o, rfl, h⟩
    · left
      refine ⟨by simp, fun e => ?_⟩
      cases a with
      | none => have := h rfl; simp at hj; omega
      | some x => cases e
    · right
      refine ⟨b, o + i * 2, by simp [addr_add], fun k hk => ?_⟩
      rw [hlen] at hk
      have := h (i + k) (by omega)
      have e : ((l.take j).drop i).getD k ([], []) = l.getD (i + k) ([], []) := by simp [show i + k < j by omega]
      rw [e, show o + i * 2 + k * 2 = o + (i + k) * 2 by omega]
      exact this
theorem pslice_h (a : Option Addr) (cap : Nat) (l : PL) (n : Nat) (hn : n ≤ l.length) (hc : l.length ≤ cap) : ∃ a1 c1, (∀ W, (Instr.slice 31 (.slice a l.length cap) none (some (.int .i64 (n : Int))) none).run Tryd.prog W = .ok (.slice a1 n c1) W) ∧ ∀ W, PairsIs W (.slice a l.length cap) l → PairsIs W (.slice a1 n c1) (l.take n) := by
  refine ⟨if cap = 0 then a else a.map (·.add (0 * 2)), cap - 0, fun W => ?_, fun W h => ?_⟩
  · rw [run_slice_h _ _ _ _ _ (by kernel_rfl) _ _ (by omega) (by omega), sizePair]
    simp only [Result.andThen, Go.sliced, Int.toNat_natCast, Nat.sub_zero]
  · have := h.sliced 0 n (by omega) hn
    simpa only [Go.sliced, List.drop_zero, Nat.sub_zero] using this
theorem pslice_l (a : Option Addr) (cap : Nat) (l : PL) (n : Nat) (hn : n ≤ l.length) : ∃ a1 c1, (∀ W, (Instr.slice 31 (.slice a l.length cap) (some (.int .i64 (n : Int))) none none).run Tryd.prog W = .ok (.slice a1 (l.length - n) c1) W) ∧ ∀ W, PairsIs W (.slice a l.length cap) l → PairsIs W (.slice a1 (l.length - n) c1) (l.drop n) := by
  refine ⟨if cap = n then a else a.map (·.add (n * 2)), cap - n, fun W => ?_, fun W h => ?_⟩
  · rw [run_slice_l _ _ _ _ _ (by kernel_rfl) _ _ (by omega) (by omega), sizePair]
    simp only [Result.andThen, Go.sliced, Int.toNat_natCast]
  · have := h.sliced n l.length hn (Nat.le_refl _)
    simpa only [Go.sliced, List.take_length] using this
theorem pslice_lh (a : Option Addr) (cap : Nat) (l : PL) (i j : Nat) (hij : i ≤ j) (hj : j ≤ l.length) (hc : l.length ≤ cap) : ∃ a1 c1, (∀ W, (Instr.slice 31 (.slice a l.length cap) (some (.int .i64 (i : Int))) (some (.int .i64 (j : Int))) none).run Tryd.prog W = .ok (.slice a1 (j - i) c1) W) ∧ ∀ W, PairsIs W (.slice a l.length cap) l → PairsIs W (.slice a1 (j - i) c1) ((l.take j).drop i) := by
  refine ⟨if cap = i then a else a.map (·.add (i * 2)), cap - i, fun W => ?_, fun W h => ?_⟩
  · rw [run_slice_lh _ _ _ _ _ (by kernel_rfl) _ _ _ _ (by omega) (by omega) (by omega), sizePair]
    simp only [Result.andThen, Go.sliced, Int.toNat_natCast]
  · have := h.sliced i j hij hj
    simpa only [Go.sliced] using this
theorem PairsIs.cap {w : World} {a : Option Addr} {n cap : Nat} {l : PL} (h : PairsIs w (.slice a n cap) l) : l.length ≤ cap := by
  obtain ⟨a', cap', e, hc, _⟩ := h
  simp only [Value.slice.injEq] at e
  obtain ⟨_, _, rfl⟩ := e
  exact hc
end Go.Proofs.YtdpoickggdgddacDoor

/-
  Slices of bytes that the call itself has made: what append leaves; a prefix of a slice.
-/
namespace Go.Proofs.YtdpoickggdgddacDoor
open Go.RowKit

end Go.Proofs.YtdpoickggdgddacDoor

/-
  The walk of digest.Parts.
-/
namespace Go.Proofs.YtdpoickggdgddacDoor
open Go.RowKit
/-- A list of slices of bytes, as it is handed over. -/
def ListIs (w : World) (v : Value) (ps : List (List UInt8)) : Prop :=
  ∃ a cap, v = .slice a ps.length cap ∧ ps.length ≤ cap ∧ (ps = [] ∨ ∃ b o, a = some ⟨b, o, none⟩ ∧ ∀ i, i < ps.length → ∃ vi, w.cell? ⟨b, o + i, none⟩ = some vi ∧ SliceIs w vi (ps.getD i []))
/-- A part behind its length. -/
def jpartF (p : List UInt8) : List UInt8 := UInt8.ofNat (p.length / 256) :: UInt8.ofNat p.length :: p
def joinF (k : UInt8) (ps : List (List UInt8)) : List UInt8 := k :: ps.flatMap jpartF
theorem jpartF_len (p : List UInt8) : (jpartF p).length = p.length + 2 := by simp [jpartF]
theorem joinF_snoc (k : UInt8) (ps : List (List UInt8)) (p : List UInt8) : joinF k (ps ++ [p]) = joinF k ps ++ jpartF p := by simp [joinF]
theorem joinF_take (k : UInt8) (ps : List (List UInt8)) (i : Nat) (h : i < ps.length) : joinF k (ps.take (i + 1)) = joinF k (ps.take i) ++ jpartF (ps.getD i []) := by
  rw [List.take_succ_eq_append_getElem h, joinF_snoc]
  simp [h]
theorem joinF_mono (k : UInt8) (ps : List (List UInt8)) (i : Nat) : (joinF k (ps.take i)).length ≤ (joinF k ps).length := by
  have : joinF k ps = joinF k (ps.take i) ++ (ps.drop i).flatMap jpartF := by
    unfold joinF
    rw [List.cons_append, ← List.flatMap_append, List.take_append_drop]
  rw [this]; simp
set_option maxRecDepth 100000 in
set_option maxHeartbeats 1000000 in
theorem parts_any (w : World) (k : UInt8) (v : Value) (ps : List (List UInt8)) (hv : ListIs w v ps) (hm : ps.length ≤ maxLen) (hms : ∀ i, i < ps.length → (ps.getD i []).length ≤ maxLen) (ht : Tabs w) :
    Calls Tryd.prog 8 #[.int .u8 (k.toNat : Int), v] w fun e w' => w.grownBy w' none ∧
      (((joinF k ps).length ≤ 4000 ∧ ∃ nb, w.heap.size ≤ nb ∧ e = .returned (.tuple #[.slice (some ⟨nb, 0, none⟩) 32 32, .int .i64 0]) ∧ Bytes w' nb (sumF (joinF k ps))) ∨
       (4000 < (joinF k ps).length ∧ e = .returned (.tuple #[.slice none 0 0, .int .i64 1]))) := by
  obtain ⟨a, cap, rfl, hc, hps⟩ := hv
  unfold maxLen at hm
  go_enter Tryd.func8, Tryd.ntmps8
  go_wp2_with fail
  go_loopw [6, 13] (fun j i wr => ∃ m : Nat, m ≤ ps.length ∧ i = .int .i64 (m : Int) ∧ Own w.heap.size wr j (joinF k (ps.take m)) ∧ (joinF k (ps.take m)).length ≤ 4000 ∧ w.grownBy wr none) (fun _ i _ => ps.length - (intOf i).toNat)
  case atStart => exact ⟨0, by omega, rfl, own_new w.heap.size w [k] (Nat.le_refl _) (by unfold maxLen; simp), by simp [joinF], grown_alloc (grown_refl _ _) _⟩
  case round =>
    obtain ⟨m, hmn, rfl, hown, hlen, hg⟩ := hrel
    obtain ⟨ja, jcap, rfl⟩ := hown.shape
    by_cases hlt : m < ps.length
    · obtain ⟨b, o, rfl, hcells⟩ : ∃ b o, a = some ⟨b, o, none⟩ ∧ ∀ i, i < ps.length → ∃ vi, w.cell? ⟨b, o + i, none⟩ = some vi ∧ SliceIs w vi (ps.getD i []) := by
        rcases hps with rfl | h
        · simp at hlt
        · exact h
      obtain ⟨vi, hvi, hsi⟩ := hcells m hlt
      have hpm := hms m hlt
      have HT : Hid (joinF k (ps.take (m + 1)) = joinF k (ps.take m) ++ jpartF (ps.getD m [])) := joinF_take k ps m hlt
      have HM : Hid ((joinF k (ps.take (m + 1))).length ≤ (joinF k ps).length) := joinF_mono k ps (m + 1)
      have hci := hg.cell hvi (by simp)
      generalize ps.getD m [] = P at *
      obtain ⟨pa, pcap, rfl, hpc, hpr⟩ := hsi
      have hsi : SliceIs w (.slice pa P.length pcap) P := ⟨pa, pcap, rfl, hpc, hpr⟩
      have HSI : Hid (SliceIs w (.slice pa P.length pcap) P) := hsi
      have hsz := hg.size
      have HI : Hid ((joinF k (ps.take m)).length ≤ 4000) := hlen
      generalize joinF k (ps.take m) = J at *
      have HPS : Hid (w.heap.size ≤ wr.heap.size) := hsz
      unfold maxLen at hpm
      clear hcells hvi hsi hpr hps hms hsz ht
      have i1 : (m : Int) < (ps.length : Int) := by omega
      by_cases hfit : P.length + 2 + J.length ≤ 4000
      · have i2 : (P.length : Int) ≤ 3998 - (J.length : Int) := by omega
        have HB1 : Hid (SliceIs (wr.alloc (.cells #[.int .u8 ((P.length : Int) / 256), .int .u8 ((P.length : Int) % 256)] 5)) (.slice (some ⟨wr.heap.size, 0, none⟩) 2 2) [UInt8.ofNat (P.length / 256), UInt8.ofNat P.length]) := by
          have e1 : ((P.length : Int) / 256) = ((UInt8.ofNat (P.length / 256)).toNat : Int) := by simp; omega
          have e2 : ((P.length : Int) % 256) = ((UInt8.ofNat P.length).toNat : Int) := by simp
          rw [e1, e2]
          exact two_slice _ _ _ _
        go_upto_region 8 with (at_builtin; refine wpList_append_bytes rfl (.tmp 23) (.tmp 31) rfl w.heap.size (.slice ja J.length jcap) J rfl (hown.alloc _) (some ⟨wr.heap.size, 0, none⟩) 2 2 _ rfl HB1.out (by omega) (by have := HPS.out; simp; omega) ?_; intro v1 w1 ho1 hg1)
        have hgw := grown_own (grown_alloc hg _) (hown.alloc _) hg1
        have HS1 : Hid (SliceIs w1 (.slice pa P.length pcap) P) := HSI.out.grown hgw
        have hsw := hgw.size
        obtain ⟨va, vcap, rfl⟩ := ho1.shape
        clear hown hci hg hg1 HB1 HSI HPS
        go_wp2_with (at_builtin; refine wpList_append_bytes rfl (.tmp 33) (.tmp 34) rfl w.heap.size _ _ rfl ho1 pa P.length pcap P rfl HS1.out (by simp; omega) hsw ?_; intro v2 w2 ho2 hg2)
        have hgw2 := grown_own hgw ho1 hg2
        go_roundw
        case rel =>
          have e : joinF k (ps.take (m + 1)) = J ++ [UInt8.ofNat (P.length / 256), UInt8.ofNat P.length] ++ P := by rw [HT.out]; simp [jpartF]
          refine ⟨m + 1, by omega, by go_num, ?_, ?_, hgw2⟩
          · rw [e]; exact ho2
          · rw [e]; simp; omega
        case measure => simp [intOf]; omega
      · have i2 : 3998 - (J.length : Int) < (P.length : Int) := by omega
        go_wp2
        go_ret2
        refine ⟨hg, .inr ⟨?_, rfl⟩⟩
        have h1 := HM.out
        rw [HT.out] at h1
        simp [jpartF_len] at h1
        omega
    · obtain rfl : m = ps.length := by omega
      rw [List.take_length] at hown hlen
      have hS := sum_any wr _ _ hown.slice hlen (ht.grownNone hg)
      go_wp2_with fail
      refine hS.mono ?_
      rintro e w2 ⟨nb, hnb, rfl, hb2, hg2⟩
      go_wp2
      go_ret2
      exact ⟨grown_trans hg hg2, .inl ⟨hlen, nb, Nat.le_trans hg.size hnb, rfl, hb2⟩⟩
end Go.Proofs.YtdpoickggdgddacDoor

/-
  The digest of a tree, by the document.
-/
namespace Go.Proofs.YtdpoickggdgddacDoor
def rootK : Nat → PL → List UInt8
  | 0, _ => []
  | f + 1, l => if l.length = 0 then sumF [0] else if l.length = 1 then sumF (joinF 1 [(l.getD 0 ([], [])).1, (l.getD 0 ([], [])).2])
    else sumF (joinF 2 [[UInt8.ofNat (forkBit l).toNat], rootK f (sideL l (forkBit l).toNat false), rootK f (sideL l (forkBit l).toNat true)])
/-- The digest of a tree. -/
def rootL (l : PL) : List UInt8 := rootK (l.length + 1) l
theorem rootK_fuel : ∀ (f : Nat) (l : PL), Tree l → l.length < f → rootK f l = rootL l
  | 0, _, _, h => by omega
  | f + 1, l, hT, h => by
    rw [rootL, rootK, rootK]
    by_cases h0 : l.length = 0
    · rw [if_pos h0, if_pos h0]
    · rw [if_neg h0, if_neg h0]
      by_cases h1 : l.length = 1
      · rw [if_pos h1, if_pos h1]
      · rw [if_neg h1, if_neg h1]
        have hs := sides_less hT (by omega)
        rw [rootK_fuel f _ (side_tree hT _ false) (by have := hs false; omega), rootK_fuel f _ (side_tree hT _ true) (by have := hs true; omega)]
        have key : ∀ x, rootK l.length (sideL l (forkBit l).toNat x) = rootL (sideL l (forkBit l).toNat x) := fun x => by
          obtain ⟨n, hn⟩ : ∃ n, l.length = n + 1 := ⟨l.length - 1, by omega⟩
          have hx := hs x
          rw [rootL]
          by_cases hf : l.length ≤ f
          · have e1 := rootK_fuel l.length (sideL l (forkBit l).toNat x) (side_tree hT _ x) hx
            rw [e1, rootL]
          · omega
        rw [key false, key true]
  termination_by f => f
theorem rootL_none (l : PL) (h : l.length = 0) : rootL l = sumF [0] := by rw [rootL, rootK, if_pos h]
theorem rootL_one (l : PL) (h : l.length = 1) : rootL l = sumF (joinF 1 [(l.getD 0 ([], [])).1, (l.getD 0 ([], [])).2]) := by rw [rootL, rootK, if_neg (by omega), if_pos h]
theorem rootL_fork (l : PL) (hT : Tree l) (h : 2 ≤ l.length) : rootL l = sumF (joinF 2 [[UInt8.ofNat (forkBit l).toNat], rootL (sideL l (forkBit l).toNat false), rootL (sideL l (forkBit l).toNat true)]) := by
  have hs := sides_less hT h
  rw [rootL, rootK, if_neg (by omega), if_neg (by omega), rootK_fuel _ _ (side_tree hT _ false) (hs false), rootK_fuel _ _ (side_tree hT _ true) (hs true)]
theorem rootL_len (l : PL) : (rootL l).length = 32 := by
  rw [rootL, rootK]
  by_cases h0 : l.length = 0
  · rw [if_pos h0]; exact sumF_len _
  · rw [if_neg h0]
    by_cases h1 : l.length = 1
    · rw [if_pos h1]; exact sumF_len _
    · rw [if_neg h1]; exact sumF_len _
/-- Root: an error, or the digest. -/
def rootF (l : PL) : List UInt8 := if pairsFaultF l = 0 then rootL l else []
theorem joinF_two (k : UInt8) (a b : List UInt8) : (joinF k [a, b]).length = a.length + b.length + 5 := by simp [joinF, jpartF]; omega
theorem joinF_three (k : UInt8) (a b c : List UInt8) : (joinF k [a, b, c]).length = a.length + b.length + c.length + 7 := by simp [joinF, jpartF]; omega
end Go.Proofs.YtdpoickggdgddacDoor

/-
  What tree.Root must keep.
-/
namespace Go.Proofs.YtdpoickggdgddacDoor
open Go.RowKit
/-- tree.Root keeps P3.6. -/
def TRootOK : Prop := ∀ (w : World) (v : Value) (l : PL), PairsIs w v l → Fits l → Tabs w → Calls Tryd.prog 7 #[v] w fun e w' => ∃ x, e = .returned (.tuple #[x, .int .i64 (pairsFaultF l)]) ∧ SliceIs w' x (rootF l) ∧ w.grownBy w' none
end Go.Proofs.YtdpoickggdgddacDoor

/-
  tree.Root, as it landed, keeps P3.6.
-/
namespace Go.Proofs.YtdpoickggdgddacDoor
open Go.RowKit
theorem plist_two (w : World) (t : TypeId) (v1 v2 : Value) (x y : List UInt8) (h1 : SliceIs w v1 x) (h2 : SliceIs w v2 y) (nb : Nat) (hnb : nb = w.heap.size) :
    ListIs (w.alloc (.cells #[v1, v2] t)) (.slice (some ⟨nb, 0, none⟩) 2 2) [x, y] := by
  subst hnb
  refine ⟨_, 2, rfl, by simp, .inr ⟨w.heap.size, 0, rfl, fun i hi => ?_⟩⟩
  match i, hi with
  | 0, _ => exact ⟨v1, by simp, h1.alloc _⟩
  | 1, _ => exact ⟨v2, by simp, h2.alloc _⟩
theorem plist_three (w : World) (t : TypeId) (v1 v2 v3 : Value) (x y z : List UInt8) (h1 : SliceIs w v1 x) (h2 : SliceIs w v2 y) (h3 : SliceIs w v3 z) (nb : Nat) (hnb : nb = w.heap.size) :
    ListIs (w.alloc (.cells #[v1, v2, v3] t)) (.slice (some ⟨nb, 0, none⟩) 3 3) [x, y, z] := by
  subst hnb
  refine ⟨_, 3, rfl, by simp, .inr ⟨w.heap.size, 0, rfl, fun i hi => ?_⟩⟩
  match i, hi with
  | 0, _ => exact ⟨v1, by simp, h1.alloc _⟩
  | 1, _ => exact ⟨v2, by simp, h2.alloc _⟩
  | 2, _ => exact ⟨v3, by simp, h3.alloc _⟩
/-- digest.Parts of parts that are short. -/
theorem parts_short (w : World) (k : UInt8) (v : Value) (ps : List (List UInt8)) (hv : ListIs w v ps) (hn : ps.length ≤ 10) (hs : ∀ i, i < ps.length → (ps.getD i []).length ≤ 40) (hj : (joinF k ps).length ≤ 4000) (ht : Tabs w) :
    Calls Tryd.prog 8 #[.int .u8 (k.toNat : Int), v] w fun e w' => ∃ x, e = .returned (.tuple #[x, .int .i64 0]) ∧ SliceIs w' x (sumF (joinF k ps)) ∧ w.grownBy w' none := by
  refine (parts_any w k v ps hv (by unfold maxLen; omega) (fun i hi => by have := hs i hi; unfold maxLen; omega) ht).mono ?_
  rintro e w1 ⟨hg, ⟨_, nb, hnb, rfl, hb⟩ | ⟨hbad, _⟩⟩
  · exact ⟨_, rfl, hb.slice32 (sumF_len _), hg⟩
  · omega
set_option maxRecDepth 100000 in
set_option maxHeartbeats 1000000 in
theorem root_any : ∀ (n : Nat) (w : World) (v : Value) (l : PL), l.length ≤ n → PairsIs w v l → Tree l → Tabs w →
    Calls Tryd.prog 14 #[v] w fun e w' => ∃ x, e = .returned (.tuple #[x, .int .i64 0]) ∧ SliceIs w' x (rootL l) ∧ w.grownBy w' none := by
  have none_case : ∀ (w : World) (a : Option Addr) (cap : Nat) (l : PL), l.length = 0 → Tabs w → Calls Tryd.prog 14 #[.slice a l.length cap] w fun e w' => ∃ x, e = .returned (.tuple #[x, .int .i64 0]) ∧ SliceIs w' x (rootL l) ∧ w.grownBy w' none := by
    intro w a cap l h0 ht
    rw [rootL_none l h0, h0]
    have PS : Hid (Calls Tryd.prog 8 #[.int .u8 0, .slice none 0 0] w fun e w' => ∃ x, e = .returned (.tuple #[x, .int .i64 0]) ∧ SliceIs w' x (sumF [0]) ∧ w.grownBy w' none) := by
      have := parts_short w 0 (.slice none 0 0) [] ⟨none, 0, rfl, by simp, .inl rfl⟩ (by simp) (by simp) (by simp [joinF]) ht
      show Calls _ _ _ _ _
      simpa [joinF] using this
    generalize sumF [0] = S at *
    go_enter Tryd.func14, Tryd.ntmps14
    go_wp2_with fail
    refine PS.out.mono ?_
    rintro e w1 ⟨x, rfl, hx, hg1⟩
    go_wp2
    go_ret2
    exact ⟨x, rfl, hx, hg1⟩
  intro n
  induction n with
  | zero =>
    intro w v l hn hv hT ht
    obtain ⟨a, cap, rfl⟩ := hv.shape
    exact none_case w a cap l (by omega) ht
  | succ n ih =>
    intro w v l hn hv hT ht
    have IH : Hid (∀ (w : World) (v : Value) (l : PL), l.length ≤ n → PairsIs w v l → Tree l → Tabs w → Calls Tryd.prog 14 #[v] w fun e w' => ∃ x, e = .returned (.tuple #[x, .int .i64 0]) ∧ SliceIs w' x (rootL l) ∧ w.grownBy w' none) := ih
    clear ih
    obtain ⟨a, cap, rfl⟩ := hv.shape
    by_cases h0 : l.length = 0
    · exact none_case w a cap l h0 ht
    · clear none_case
      by_cases h1 : l.length = 1
      · rw [rootL_one l h1]
        obtain ⟨b, o, rfl, hat⟩ := hv.at 0 (by omega)
        obtain ⟨vk, vv, c1, c2, s1, s2⟩ := hat
        rw [Nat.zero_mul, Nat.add_zero] at c1 c2
        have hp := hT.pairs l[0] (List.getElem_mem (by omega))
        rw [show l[0] = l.getD 0 ([], []) by simp [show 0 < l.length by omega]] at hp
        generalize l.getD 0 ([], []) = P at *
        rw [h1] at hv ⊢
        have PS : Hid (Calls Tryd.prog 8 #[.int .u8 1, .slice (some ⟨w.heap.size, 0, none⟩) 2 2] (w.alloc (.cells #[vk, vv] 22)).drew fun e w' => ∃ x, e = .returned (.tuple #[x, .int .i64 0]) ∧ SliceIs w' x (sumF (joinF 1 [P.1, P.2])) ∧ w.grownBy w' none) := by
          have hg := World.grownBy_alloc w (.cells #[vk, vv] 22) none
          refine (parts_short (w.alloc (.cells #[vk, vv] 22)).drew 1 (.slice (some ⟨w.heap.size, 0, none⟩) 2 2) [P.1, P.2] (plist_two w _ vk vv P.1 P.2 s1 s2 _ rfl) (by simp) ?_ (by rw [joinF_two]; omega) (ht.grownNone (grown_drew hg))).mono ?_
          · intro i hi
            match i, hi with
            | 0, _ => simp; omega
            | 1, _ => simp; omega
          · rintro e w1 ⟨x, rfl, hx, hg1⟩
            exact ⟨x, rfl, hx, grown_trans (grown_drew hg) hg1⟩
        obtain ⟨ak, ck, rfl⟩ := s1.shape
        obtain ⟨av, cv, rfl⟩ := s2.shape
        have e1 : w.drew.cell? ⟨b, o, none⟩ = some (.slice ak P.1.length ck) := c1
        have e2 : w.drew.cell? ⟨b, o + 1, none⟩ = some (.slice av P.2.length cv) := c2
        generalize sumF (joinF 1 [P.1, P.2]) = S at *
        clear s1 s2 hT hv
        go_enter Tryd.func14, Tryd.ntmps14
        go_wp2_with fail
        go_region_with (go_at_call 8; refine PS.out.mono ?_; rintro e w1 ⟨x, rfl, hx, hg1⟩)
        all_goals
          go_wp2
          go_ret2
          exact ⟨x, rfl, hx, hg1⟩
      · have h2 : 2 ≤ l.length := by omega
        rw [rootL_fork l hT h2]
        have FK : Hid (Calls Tryd.prog 21 #[.slice a l.length cap] w fun e w' => e = .returned (.tuple #[.int .i64 (forkBit l), .int .i64 (sideN l (forkBit l).toNat : Int), .int .i64 0]) ∧ w.grownBy w' none) := fork_any w _ l hv hT h2
        have hrange := forkBit_range hT h2
        have hsr := side_range hT h2
        have tF := side_tree hT (forkBit l).toNat false
        have tT := side_tree hT (forkBit l).toNat true
        have eF := side_false hT h2
        have eT := side_true hT h2
        obtain ⟨B, hB⟩ : ∃ B : Nat, forkBit l = (B : Int) := ⟨(forkBit l).toNat, by omega⟩
        have eB : (forkBit l).toNat = B := by omega
        have hB2 : B < 145 := by omega
        rw [eB] at tF tT eF eT hsr FK ⊢
        rw [hB] at FK
        rw [eF] at tF ⊢
        rw [eT] at tT ⊢
        generalize sideN l B = s at *
        have lF : (l.take s).length ≤ n := by simp; omega
        have lT : (l.drop s).length ≤ n := by simp; omega
        obtain ⟨a1, c1, q1, g1⟩ := pslice_h a cap l s (by omega) hv.cap
        obtain ⟨a2, c2, q2, g2⟩ := pslice_l a cap l s (by omega)
        have RL : Hid (∀ w', w.grownBy w' none → Calls Tryd.prog 14 #[.slice a1 s c1] w' fun e w'' => ∃ x, e = .returned (.tuple #[x, .int .i64 0]) ∧ SliceIs w'' x (rootL (l.take s)) ∧ w'.grownBy w'' none) := fun w' hg => IH.out w' _ _ lF (g1 w' (hv.grown hg)) tF (ht.grownNone hg)
        have RR : Hid (∀ w', w.grownBy w' none → Calls Tryd.prog 14 #[.slice a2 (l.length - s) c2] w' fun e w'' => ∃ x, e = .returned (.tuple #[x, .int .i64 0]) ∧ SliceIs w'' x (rootL (l.drop s)) ∧ w'.grownBy w'' none) := fun w' hg => IH.out w' _ _ lT (g2 w' (hv.grown hg)) tT (ht.grownNone hg)
        have rL := rootL_len (l.take s)
        have rR := rootL_len (l.drop s)
        generalize rootL (l.take s) = XL at *
        generalize rootL (l.drop s) = XR at *
        have HXL : Hid (XL.length = 32) := rL
        have HXR : Hid (XR.length = 32) := rR
        have HTB : Hid (Tabs w) := ht
        have DP : Hid (∀ (w' : World) (x y : Value), w.grownBy w' none → SliceIs w' x XL → SliceIs w' y XR → Calls Tryd.prog 8 #[.int .u8 2, .slice (some ⟨w'.heap.size + 1, 0, none⟩) 3 3] ((w'.alloc (.cells #[.int .u8 (B : Int)] 5)).alloc (.cells #[.slice (some ⟨w'.heap.size, 0, none⟩) 1 1, x, y] 22)) fun e w'' => ∃ z, e = .returned (.tuple #[z, .int .i64 0]) ∧ SliceIs w'' z (sumF (joinF 2 [[UInt8.ofNat B], XL, XR])) ∧ w'.grownBy w'' none) := by
          intro w' x y hg hx hy
          have hone : SliceIs (w'.alloc (.cells #[.int .u8 (B : Int)] 5)) (.slice (some ⟨w'.heap.size, 0, none⟩) 1 1) [UInt8.ofNat B] := by
            have := one_slice w' (UInt8.ofNat B) 5
            rw [show (((UInt8.ofNat B).toNat : Nat) : Int) = (B : Int) by simp; omega] at this
            exact this
          have hgg : w'.grownBy ((w'.alloc (.cells #[.int .u8 (B : Int)] 5)).alloc (.cells #[.slice (some ⟨w'.heap.size, 0, none⟩) 1 1, x, y] 22)) none := grown_alloc (World.grownBy_alloc _ _ _) _
          refine (parts_short _ 2 _ [[UInt8.ofNat B], XL, XR] (plist_three _ _ _ _ _ [UInt8.ofNat B] XL XR hone (hx.alloc _) (hy.alloc _) _ (by simp)) (by simp) ?_ (by rw [joinF_three, HXL.out, HXR.out]; simp) (HTB.out.grownNone (grown_trans hg hgg))).mono ?_
          · intro i hi
            have h1 := HXL.out
            have h2 := HXR.out
            match i, hi with
            | 0, _ => simp
            | 1, _ => simp [h1]
            | 2, _ => simp [h2]
          · rintro e w1 ⟨z, rfl, hz, hg1⟩
            exact ⟨z, rfl, hz, grown_trans hgg hg1⟩
        generalize sumF (joinF 2 [[UInt8.ofNat B], XL, XR]) = S at *
        clear rL rR hB hv hrange eB g1 g2 eF eT tF tT lF lT hT ht IH HTB
        have t0 : ((l.length : Int) == 0) = false := by rw [beq_eq_false_iff_ne]; omega
        have t1 : ((l.length : Int) == 1) = false := by rw [beq_eq_false_iff_ne]; omega
        go_enter Tryd.func14, Tryd.ntmps14
        go_wp2_with fail
        refine FK.out.mono ?_
        rintro e w1 ⟨rfl, hg1⟩
        go_wp2_with fail
        refine (RL.out _ hg1).mono ?_
        rintro e w2 ⟨x, rfl, hx, hg2⟩
        obtain ⟨xa, xc, rfl⟩ := hx.shape
        have hg12 := grown_trans hg1 hg2
        go_wp2_with fail
        refine (RR.out _ hg12).mono ?_
        rintro e w3 ⟨y, rfl, hy, hg3⟩
        obtain ⟨ya, yc, rfl⟩ := hy.shape
        have hg13 := grown_trans hg12 hg3
        go_wp2_with fail
        refine (DP.out w3 _ _ hg13 (hx.grown hg3) hy).mono ?_
        rintro e w4 ⟨z, rfl, hz, hg4⟩
        go_wp2
        go_ret2
        exact ⟨z, rfl, hz, grown_trans hg13 hg4⟩
set_option maxRecDepth 100000 in
set_option maxHeartbeats 1000000 in
theorem troot_ok : TRootOK := by
  intro w v l hv hl ht
  have CL : Hid (Calls Tryd.prog 13 #[v] w fun e w' => e = .returned (.int .i64 (pairsFaultF l)) ∧ w.grownBy w' none) := tcheck_ok w v l hv hl
  obtain ⟨a, cap, rfl⟩ := hv.shape
  by_cases hz : pairsFaultF l = 0
  · have hT := (tree_iff l).1 hz
    have hF : rootF l = rootL l := by rw [rootF, if_pos hz]
    have RT : Hid (∀ w', w.grownBy w' none → Calls Tryd.prog 14 #[.slice a l.length cap] w' fun e w'' => ∃ x, e = .returned (.tuple #[x, .int .i64 0]) ∧ SliceIs w'' x (rootL l) ∧ w'.grownBy w'' none) := fun w' hg => root_any l.length w' _ l (Nat.le_refl _) (hv.grown hg) hT (ht.grownNone hg)
    rw [hz] at CL ⊢
    rw [hF]
    generalize rootL l = R at *
    clear hz hF hT hv ht
    go_enter Tryd.func7, Tryd.ntmps7
    go_wp2_with fail
    refine CL.out.mono ?_
    rintro e w1 ⟨rfl, hg1⟩
    go_wp2_with fail
    refine (RT.out _ hg1).mono ?_
    rintro e w2 ⟨x, rfl, hx, hg2⟩
    go_wp2
    go_ret2
    exact ⟨x, rfl, hx, grown_trans hg1 hg2⟩
  · have hF : rootF l = [] := by rw [rootF, if_neg hz]
    rw [hF]
    generalize pairsFaultF l = z at *
    have hz' : (z != 0) = true := by simpa using hz
    clear hF hv ht
    go_enter Tryd.func7, Tryd.ntmps7
    go_wp2_with fail
    refine CL.out.mono ?_
    rintro e w1 ⟨rfl, hg1⟩
    go_wp2
    go_ret2
    exact ⟨_, rfl, sliceIs_nil _, hg1⟩
end Go.Proofs.YtdpoickggdgddacDoor

/-
  Trees that are put to and taken from: what the laws of canopykeep rest on. No program is named.
-/
namespace Go.Proofs.YtdpoickggdgddacDoor
theorem putE_ok (t : PL) (p : Pr) (h : Tree t) (hp : (1 ≤ p.1.length ∧ p.1.length ≤ 16) ∧ p.2.length ≤ 32) (hl : t.length < 60) : putE t p = 0 ∧ putF t p = putL t p ∧ Tree (putL t p) := by
  have h0 : putE0 t p = 0 := by rw [putE0, if_pos ((tree_iff t).2 h)]; exact (pairFault_iff p).2 hp
  have hlen := put_len t p
  have h1 : putE t p = 0 := by rw [putE, if_pos h0, if_neg (by omega)]
  exact ⟨h1, by rw [putF, if_pos h1], ⟨by omega, put_pairs t p h.pairs hp, put_rises t p h.rises⟩⟩
theorem delF_ok (t : PL) (k : List UInt8) (h : Tree t) (hk : 1 ≤ k.length ∧ k.length ≤ 16) : getE t k = 0 ∧ delF t k = delL t k ∧ Tree (delL t k) := by
  have h1 := getE_ok h hk
  refine ⟨h1, by rw [delF, if_pos h1], ⟨Nat.le_trans (del_len t k) h.room, fun p hp => h.pairs p (List.mem_filter.1 hp).1, del_rises t k h.rises⟩⟩
theorem rangeF_ok (t : PL) (f u : List UInt8) (h : Tree t) (hf : 1 ≤ f.length ∧ f.length ≤ 16) (hu : 1 ≤ u.length ∧ u.length ≤ 16) : rangeE t f u = 0 ∧ rangeF t f u = rangeL t f u ∧ Tree (rangeL t f u) := by
  have h1 : rangeE t f u = 0 := by rw [rangeE, if_pos (getE_ok h hf)]; exact (keyFault_iff _).2 hu
  refine ⟨h1, by rw [rangeF, if_pos h1], ⟨Nat.le_trans (range_len t f u) h.room, fun p hp => h.pairs p (List.mem_filter.1 hp).1, range_rises t f u h.rises⟩⟩
theorem get_ok (t : PL) (k : List UInt8) (h : Tree t) (hk : 1 ≤ k.length ∧ k.length ≤ 16) : getE t k = 0 ∧ getB t k = (getF t k).isSome ∧ getV t k = (getF t k).getD [] := by
  have h1 := getE_ok h hk
  exact ⟨h1, by rw [getB, h1]; simp, by rw [getV, if_pos h1]⟩
theorem tree_fault (t : PL) (h : Tree t) : pairsFaultF t = 0 := (tree_iff t).2 h
theorem put_comm (t : PL) (p q : Pr) (h : Rises t) (hne : p.1 ≠ q.1) : putL (putL t p) q = putL (putL t q) p := by
  refine rises_ext _ _ (put_rises _ _ (put_rises _ _ h)) (put_rises _ _ (put_rises _ _ h)) fun k => ?_
  rw [get_put _ _ _ (put_rises _ _ h), get_put _ _ _ h, get_put _ _ _ (put_rises _ _ h), get_put _ _ _ h]
  by_cases h1 : q.1 = k
  · rw [if_pos h1, if_pos h1, if_neg (fun h2 => hne (h2.trans h1.symm))]
  · rw [if_neg h1, if_neg h1]
theorem put_same (t : PL) (p q : Pr) (h : Rises t) (he : p.1 = q.1) : putL (putL t p) q = putL t q := by
  refine rises_ext _ _ (put_rises _ _ (put_rises _ _ h)) (put_rises _ _ h) fun k => ?_
  rw [get_put _ _ _ (put_rises _ _ h), get_put _ _ _ h, get_put _ _ _ h]
  by_cases h1 : q.1 = k
  · rw [if_pos h1, if_pos h1]
  · rw [if_neg h1, if_neg h1, if_neg (by rw [he]; exact h1)]
theorem del_put (t : PL) (p : Pr) (h : Rises t) : delL (putL t p) p.1 = delL t p.1 := by
  refine rises_ext _ _ (del_rises _ _ (put_rises _ _ h)) (del_rises _ _ h) fun k => ?_
  rw [get_del, get_del, get_put _ _ _ h]
  by_cases h1 : p.1 = k
  · rw [if_pos h1, if_pos h1]
  · rw [if_neg h1, if_neg h1, if_neg h1]
theorem put_some (t : PL) (p : Pr) : putL t p ≠ [] := by
  cases t with
  | nil => simp [putL]
  | cons q r =>
    rw [putL]
    by_cases h1 : klt q.1 p.1 = true
    · rw [if_pos h1]; simp
    · rw [if_neg h1]
      by_cases h2 : q.1 = p.1
      · rw [if_pos h2]; simp
      · rw [if_neg h2]; simp
theorem del_none (t : PL) (k : List UInt8) (h : getF t k = none) : delL t k = t := by
  induction t with
  | nil => rfl
  | cons q r ih =>
    rw [get_cons] at h
    by_cases e : q.1 = k
    · rw [if_pos e] at h; cases h
    · rw [if_neg e] at h
      have := ih h
      unfold delL at this ⊢
      rw [List.filter_cons_of_pos (by simp [e]), this]
theorem put_len_new (t : PL) (p : Pr) (h : getF t p.1 = none) : (putL t p).length = t.length + 1 := by
  induction t with
  | nil => simp [putL]
  | cons q r ih =>
    rw [get_cons] at h
    by_cases e : q.1 = p.1
    · rw [if_pos e] at h; cases h
    · rw [if_neg e] at h
      rw [putL]
      by_cases h1 : klt q.1 p.1 = true
      · rw [if_pos h1]; simp [ih h]
      · rw [if_neg h1, if_neg e]; simp
theorem del_len_old (t : PL) (k : List UInt8) (hr : Rises t) (h : (getF t k).isSome = true) : (delL t k).length + 1 = t.length := by
  induction t with
  | nil => simp [getF] at h
  | cons q r ih =>
    have hp := List.pairwise_cons.1 hr
    rw [get_cons] at h
    by_cases e : q.1 = k
    · have hn : getF r k = none := get_head_none r k fun p hp' => by rw [← e]; exact hp.1 p hp'
      have := del_none r k hn
      unfold delL at this ⊢
      rw [List.filter_cons_of_neg (by simp [e]), this]; simp
    · rw [if_neg e] at h
      have := ih hp.2 h
      unfold delL at this ⊢
      rw [List.filter_cons_of_pos (by simp [e])]
      simp; omega
end Go.Proofs.YtdpoickggdgddacDoor

/-
  A beginning of a list of pairs, with no room behind it: l[:n:n].
-/
namespace Go.Proofs.YtdpoickggdgddacDoor
open Go.RowKit
theorem pslice_hm (a : Option Addr) (cap : Nat) (l : PL) (n : Nat) (hn : n ≤ l.length) (hc : l.length ≤ cap) : ∃ a1, (∀ W, (Instr.slice 31 (.slice a l.length cap) none (some (.int .i64 (n : Int))) (some (.int .i64 (n : Int)))).run Tryd.prog W = .ok (.slice a1 n n) W) ∧ ∀ W, PairsIs W (.slice a l.length cap) l → PairsIs W (.slice a1 n n) (l.take n) := by
  refine ⟨if n = 0 then a else a.map (·.add (0 * 2)), fun W => ?_, fun W h => ?_⟩
  · rw [run_slice_any _ _ _ _ _ (by kernel_rfl)]
    simp only [Instr.sliceBounds, Sem.run_bind, Sem.run_pure, Result.andThen]
    have hb : ∀ (y : Nat) (code : BoundsCode), n ≤ y → (Instr.sliceBound (.int .i64 (n : Int)) y code).run Tryd.prog W = .ok n W := fun y code hy => by
      rw [run_sliceBound _ _ _ _ _ (by omega) (by omega)]; simp
    simp [hb, sizePair, Go.sliced, show n ≤ cap by omega]
  · obtain ⟨a', cap', e, hc', h⟩ := h
    simp only [Value.slice.injEq, true_and] at e
    obtain ⟨rfl, rfl⟩ := e
    have hlen : (l.take n).length = n := by simp; omega
    refine ⟨_, n, by rw [hlen], by rw [hlen]; exact Nat.le_refl _, ?_⟩
    by_cases h0 : n = 0
    · left
      exact ⟨by rw [h0]; simp, fun _ => h0⟩
    · rw [if_neg h0]
      rcases h with ⟨rfl, _⟩ | ⟨b, o, rfl, h⟩
      · simp at hn; omega
      · right
        refine ⟨b, o, by simp [addr_add], fun k hk => ?_⟩
        rw [hlen] at hk
        have := h k (by omega)
        have e : (l.take n).getD k ([], []) = l.getD k ([], []) := by simp [hk]
        rw [e]; exact this
end Go.Proofs.YtdpoickggdgddacDoor
