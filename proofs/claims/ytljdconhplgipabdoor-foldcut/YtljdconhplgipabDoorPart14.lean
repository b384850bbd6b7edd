/-
  Texts of this proof, joined: TBitP, TForkP.
-/
import Derived.Test.YtljdconhplgipabDoorPart2
import Derived.Test.YtljdconhplgipabDoorPart4
import Derived.Test.YtljdconhplgipabDoorPairMem
import Derived.Deep.RegionWith
import Derived.Handy
/-
  The closure of tree.fork, and sort.Search, as they landed.
-/
namespace Go.Proofs.YtljdconhplgipabDoor
open Go.RowKit
theorem Tree.key {l : PL} (h : Tree l) (j : Nat) (hj : j < l.length) : 1 ≤ (l.getD j ([], [])).1.length ∧ (l.getD j ([], [])).1.length ≤ 16 := by
  have := (h.pairs l[j] (List.getElem_mem hj)).1
  simpa [hj] using this
set_option maxRecDepth 100000 in
set_option maxHeartbeats 1000000 in
theorem bitAt_any (w : World) (lb bb : Nat) (a : Option Addr) (cap : Nat) (l : PL) (b i : Nat) (hl : w.cell? ⟨lb, 0, none⟩ = some (.slice a l.length cap)) (hb : w.cell? ⟨bb, 0, none⟩ = some (.int .i64 (b : Int))) (hv : PairsIs w (.slice a l.length cap) l) (hT : Tree l) (hi : i < l.length) (hb145 : b < 145) :
    Calls Tryd.prog 71 #[.int .i64 (i : Int), .pointer (some ⟨lb, 0, none⟩), .pointer (some ⟨bb, 0, none⟩)] w fun e w' => e = .returned (.bool (kbit (l.getD i ([], [])).1 b)) ∧ w.grownBy w' none := by
  obtain ⟨pb, po, rfl, hat⟩ := hv.at i hi
  obtain ⟨vk, vv, c1, c2, s1, s2⟩ := hat
  have hk := hT.key i hi
  have BT : Hid (Calls Tryd.prog 72 #[vk, .int .i64 (b : Int)] w.drew fun e w' => e = .returned (.tuple #[.bool (kbit (l.getD i ([], [])).1 b), .int .i64 0]) ∧ w.drew.grownBy w' none) := BitOK.of bit_ok w.drew vk _ b s1.drew hk hb145
  generalize kbit (l.getD i ([], [])).1 b = z at *
  have t1 : (i : Int) < (l.length : Int) := by omega
  have hgd := grown_drew (grown_refl w none)
  obtain ⟨ka, kc, rfl⟩ := s1.shape
  generalize l.getD i ([], []) = P at *
  clear s1 s2 c2 hv hT
  go_enter Tryd.func71, Tryd.ntmps71
  go_wp2_with fail
  go_region_with (go_at_call 72; refine BT.out.mono ?_; rintro e w1 ⟨rfl, hg1⟩)
  all_goals
    go_wp2
    go_ret
    exact ⟨rfl, grown_trans hgd hg1⟩
set_option maxRecDepth 100000 in
set_option maxHeartbeats 1000000 in
theorem search_any (w : World) (lb bb : Nat) (a : Option Addr) (cap : Nat) (l : PL) (b n : Nat) (hl : w.cell? ⟨lb, 0, none⟩ = some (.slice a l.length cap)) (hb : w.cell? ⟨bb, 0, none⟩ = some (.int .i64 (b : Int))) (hv : PairsIs w (.slice a l.length cap) l) (hT : Tree l) (hb145 : b < 145)
    (hn : n ≤ l.length) (hbit : ∀ j, j < l.length → kbit (l.getD j ([], [])).1 b = decide (n ≤ j)) :
    Calls Tryd.prog 60 #[.int .i64 (l.length : Int), .func (.func 71) #[] #[.pointer (some ⟨lb, 0, none⟩), .pointer (some ⟨bb, 0, none⟩)]] w fun e w' => e = .returned (.int .i64 (n : Int)) ∧ w.grownBy w' none := by
  have CL : Hid (∀ (w' : World) (i : Nat), w.grownBy w' none → i < l.length → Calls Tryd.prog 71 #[.int .i64 (i : Int), .pointer (some ⟨lb, 0, none⟩), .pointer (some ⟨bb, 0, none⟩)] w' fun e w'' => e = .returned (.bool (decide (n ≤ i))) ∧ w'.grownBy w'' none) := fun w' i hg hi => by
    have := bitAt_any w' lb bb a cap l b i (hg.cell hl (by simp)) (hg.cell hb (by simp)) (hv.grown hg) hT hi hb145
    rw [hbit i hi] at this
    exact this
  have hroom := hT.room
  clear hl hb hv hT hbit
  go_enter Tryd.func60, Tryd.ntmps60
  go_wp2_with fail
  go_loopw [5, 6] (fun si sj wr => ∃ i j : Nat, i ≤ n ∧ n ≤ j ∧ j ≤ l.length ∧ si = .int .i64 (i : Int) ∧ sj = .int .i64 (j : Int) ∧ w.grownBy wr none) (fun si sj _ => (intOf sj).toNat - (intOf si).toNat)
  case atStart => exact ⟨0, l.length, by omega, hn, by omega, rfl, rfl, grown_refl _ _⟩
  case round =>
    obtain ⟨i, j, hi, hj, hjl, rfl, rfl, hgr⟩ := hrel
    by_cases hlt : i < j
    · have t1 : (i : Int) < (j : Int) := by omega
      obtain ⟨h, hh⟩ : ∃ h : Nat, ((i : Int) + (j : Int)) / 2 = (h : Int) := ⟨(i + j) / 2, by omega⟩
      have b1 : i ≤ h := by omega
      have b2 : h < j := by omega
      have CH : Hid (Calls Tryd.prog 71 #[.int .i64 (h : Int), .pointer (some ⟨lb, 0, none⟩), .pointer (some ⟨bb, 0, none⟩)] wr fun e w'' => e = .returned (.bool (decide (n ≤ h))) ∧ wr.grownBy w'' none) := CL.out wr h hgr (by omega)
      go_wp2_with fail
      refine CH.out.mono ?_
      rintro e w1 ⟨rfl, hg1⟩
      have hgw := grown_trans hgr hg1
      by_cases hz : n ≤ h
      · rw [decide_eq_true hz]
        go_wp2_with fail
        go_roundw
        case rel =>
          first
            | exact ⟨i, h, by omega, by omega, by omega, rfl, rfl, hgw⟩
            | ((repeat apply Exists.intro); refine ⟨⟨i, h, by omega, by omega, by omega, rfl, ?_, hgw⟩, rfl⟩; go_num)
        case measure => simp [intOf]; omega
      · rw [decide_eq_false hz]
        go_wp2_with fail
        go_roundw
        case rel =>
          first
            | exact ⟨h + 1, j, by omega, by omega, by omega, by go_num, rfl, hgw⟩
            | ((repeat apply Exists.intro); refine ⟨⟨h + 1, j, by omega, by omega, by omega, ?_, rfl, hgw⟩, rfl⟩; go_num)
        case measure => simp [intOf]; omega
    · obtain rfl : i = n := by omega
      obtain rfl : j = i := by omega
      go_wp2
      go_ret
      exact ⟨rfl, hgr⟩
end Go.Proofs.YtljdconhplgipabDoor

/-
  tree.fork, as it landed.
-/
namespace Go.Proofs.YtljdconhplgipabDoor
open Go.RowKit
theorem one_cell {w : World} {b : Nat} {x : Value} {t : TypeId} (h : w.heap[b]? = some (.cells #[x] t)) : w.cell? ⟨b, 0, none⟩ = some x := by simp [World.cell?, h]
theorem one_free {w : World} {b : Nat} {x : Value} {t : TypeId} (h : w.heap[b]? = some (.cells #[x] t)) : w.frozen? ⟨b, 0, none⟩ = false := by simp [World.frozen?, h]
theorem one_set {w : World} {b : Nat} {x : Value} {t : TypeId} (h : w.heap[b]? = some (.cells #[x] t)) (u : Value) : (w.setCell ⟨b, 0, none⟩ u).heap[b]? = some (.cells #[u] t) := by
  simp only [World.setCell, Array.getElem?_modify, if_true, h, Option.map_some]
  first | rfl | simp
set_option maxRecDepth 100000 in
set_option maxHeartbeats 1000000 in
theorem fork_any (w : World) (v : Value) (l : PL) (hv : PairsIs w v l) (hT : Tree l) (h2 : 2 ≤ l.length) :
    Calls Tryd.prog 55 #[v] w fun e w' => e = .returned (.tuple #[.int .i64 (forkBit l), .int .i64 (sideN l (forkBit l).toNat : Int), .int .i64 0]) ∧ w.grownBy w' none := by
  obtain ⟨a, cap, rfl⟩ := hv.shape
  have hr := forkBit_range hT h2
  have hpart := fork_part hT h2
  have hsr := side_range hT h2
  have hbit := fun j hj => bit_side hT h2 j hj
  have hroom := hT.room
  obtain ⟨b, hb⟩ : ∃ b : Nat, forkBit l = (b : Int) := ⟨(forkBit l).toNat, by omega⟩
  rw [hb] at hpart hsr hbit ⊢
  rw [Int.toNat_natCast] at hsr hbit ⊢
  have hb145 : b < 145 := by omega
  generalize sideN l b = n at *
  obtain ⟨m, hm⟩ : ∃ m, l.length = m + 1 := ⟨l.length - 1, by omega⟩
  rw [show l.length - 1 = m by omega] at hpart
  obtain ⟨W1, hW1⟩ : ∃ W1 : World, W1 = (w.alloc (.cells #[.slice a l.length cap] 51)).alloc (.cells #[.int .i64 0] 3) := ⟨_, rfl⟩
  have hgW : w.grownBy W1 none := by rw [hW1]; exact grown_alloc (World.grownBy_alloc _ _ _) _
  have HW1 : Hid (W1 = (w.alloc (.cells #[.slice a l.length cap] 51)).alloc (.cells #[.int .i64 0] 3)) := hW1
  have d1 : W1.drew.cell? ⟨w.heap.size, 0, none⟩ = some (.slice a l.length cap) := by rw [hW1]; simp
  have d2 : Hid (W1.heap[w.heap.size + 1]? = some (.cells #[.int .i64 0] 3)) := by
    have := heap_alloc_new (w.alloc (.cells #[.slice a l.length cap] 51)) (.cells #[.int .i64 0] 3)
    rw [World.size_alloc] at this
    rw [hW1]; exact this
  obtain ⟨pb, po, rfl, hat0⟩ := hv.at 0 (by omega)
  obtain ⟨pb2, po2, e, hatm⟩ := hv.at m (by omega)
  cases e
  have hpb : pb < w.heap.size := by obtain ⟨_, _, c, _⟩ := hat0; exact cell_lt c
  obtain ⟨vk, vv, c1, _, s1, _⟩ := hat0.grown (grown_drew hgW)
  obtain ⟨uk, uv, c2, _, s2, _⟩ := hatm.grown (grown_drew hgW)
  rw [Nat.zero_mul, Nat.add_zero] at c1
  have PT : Hid (Calls Tryd.prog 70 #[vk, uk] W1.drew fun e w' => e = .returned (.tuple #[.int .i64 (b : Int), .int .i64 0]) ∧ W1.drew.grownBy w' none) := by
    have := PartOK.of part_ok W1.drew vk uk _ _ s1 s2 (hT.key 0 (by omega)) (hT.key m (by omega))
    rw [hpart] at this
    exact this
  obtain ⟨ka, kc, rfl⟩ := s1.shape
  obtain ⟨ua, uc, rfl⟩ := s2.shape
  generalize (l.getD 0 ([], [])).1.length = k0 at *
  generalize (l.getD m ([], [])).1.length = km at *
  have i0 : (0 : Int) < (l.length : Int) := by omega
  have i1 : (m : Int) < (l.length : Int) := by omega
  have i2 : IntKind.i64.wrap ((l.length : Int) - 1) = (m : Int) := by rw [IntKind.wrap_i64]; omega
  have HBT : Hid (∀ j, j < l.length → kbit (l.getD j ([], [])).1 b = decide (n ≤ j)) := hbit
  have hgd := grown_drew hgW
  have hm1 : m + 1 ≤ l.length := by omega
  have hm2 : l.length ≤ m + 1 := by omega
  clear hpart hbit hW1 s1 s2 hat0 hatm hb hr hm
  have HV : Hid (PairsIs w (.slice (some ⟨pb, po, none⟩) l.length cap) l) := hv
  have HT : Hid (Tree l) := hT
  clear hv hT
  generalize hL : l.length = L at *
  have HL : Hid (l.length = L) := hL
  clear hL
  have i0' : 0 < L := by omega
  go_enter Tryd.func55, Tryd.ntmps55
  go_wp2_with fail
  rw [← HW1.out]
  go_region_held3 (fun w' => w'.cell? ⟨w.heap.size, 0, none⟩ = some (.slice (some ⟨pb, po, none⟩) L cap) ∧ w'.cell? ⟨pb, po, none⟩ = some (.slice ka k0 kc) ∧ w'.cell? ⟨pb, po + m * 2, none⟩ = some (.slice ua km uc))
    (first | exact ⟨d1, c1, c2⟩ | exact ⟨f1, f2, f3⟩ | exact ⟨(World.cell?_setCell_other _ _ _ _ (by simp)).trans f1, (World.cell?_setCell_other _ _ _ _ (by first | (simp; done) | (simp; omega))).trans f2, (World.cell?_setCell_other _ _ _ _ (by first | (simp; done) | (simp; omega))).trans f3⟩)
    (first | (go_at_call 70; refine PT.out.mono ?_; rintro e w1 ⟨rfl, hg1⟩; have f1 := hg1.cell d1 (by simp); have f2 := hg1.cell c1 (by simp); have f3 := hg1.cell c2 (by simp); have g0 := pair_old hg1 d2.out; have g1 : w1.cell? ⟨w.heap.size + 1, 0, none⟩ = some (.int .i64 0) := one_cell g0; have g2 : w1.frozen? ⟨w.heap.size + 1, 0, none⟩ = false := one_free g0))
  have hgw := grown_trans hgd hg1
  have k1 : (w1.setCell ⟨w.heap.size + 1, 0, none⟩ (.int .i64 (b : Int))).cell? ⟨w.heap.size, 0, none⟩ = some (.slice (some ⟨pb, po, none⟩) L cap) := (World.cell?_setCell_other _ _ _ _ (by simp)).trans f1
  have k2 : (w1.setCell ⟨w.heap.size + 1, 0, none⟩ (.int .i64 (b : Int))).cell? ⟨w.heap.size + 1, 0, none⟩ = some (.int .i64 (b : Int)) := World.cell?_setCell_same' _ _ _ (by rw [g1]; rfl)
  have hgs : w.grownBy (w1.setCell ⟨w.heap.size + 1, 0, none⟩ (.int .i64 (b : Int))) none := grown_setNew hgw _ (by omega) _ _
  have SE : Hid (Calls Tryd.prog 60 #[.int .i64 (L : Int), .func (.func 71) #[] #[.pointer (some ⟨w.heap.size, 0, none⟩), .pointer (some ⟨w.heap.size + 1, 0, none⟩)]] (w1.setCell ⟨w.heap.size + 1, 0, none⟩ (.int .i64 (b : Int))) fun e w' => e = .returned (.int .i64 (n : Int)) ∧ (w1.setCell ⟨w.heap.size + 1, 0, none⟩ (.int .i64 (b : Int))).grownBy w' none) := by
    have := search_any (w1.setCell ⟨w.heap.size + 1, 0, none⟩ (.int .i64 (b : Int))) w.heap.size (w.heap.size + 1) (some ⟨pb, po, none⟩) cap l b n (by rw [HL.out]; exact k1) k2 (by rw [HL.out]; exact HV.out.grown hgs) HT.out hb145 (by rw [HL.out]; omega) (by rw [HL.out]; exact HBT.out)
    rw [HL.out] at this
    exact this
  have BK : Hid ((w1.setCell ⟨w.heap.size + 1, 0, none⟩ (.int .i64 (b : Int))).heap[w.heap.size + 1]? = some (.cells #[.int .i64 (b : Int)] 3)) := one_set g0 _
  obtain ⟨W2, hW2⟩ : ∃ W2 : World, W2 = w1.setCell ⟨w.heap.size + 1, 0, none⟩ (.int .i64 (b : Int)) := ⟨_, rfl⟩
  rw [← hW2] at SE BK hgs k1 k2
  have HW2 : Hid (W2 = w1.setCell ⟨w.heap.size + 1, 0, none⟩ (.int .i64 (b : Int))) := hW2
  clear hW2 g0 g1 g2 f1 f2 f3 c1 c2 d1 hgd hgw hg1 PT
  have e1 : (w1.setCell ⟨w.heap.size + 1, 0, none⟩ (.int .i64 (b : Int))).cell? ⟨w.heap.size, 0, none⟩ = some (.slice (some ⟨pb, po, none⟩) L cap) := by rw [← HW2.out]; exact k1
  go_wp2_with fail
  rw [← HW2.out]
  refine SE.out.mono ?_
  rintro e w3 ⟨rfl, hg3⟩
  have g0 := pair_old hg3 BK.out
  have g1 := one_cell g0
  have g2 := one_free g0
  have g3 := one_cell (one_set g0 (.int .i64 (b : Int)))
  go_wp2
  refine bodyPost_ret (v := .tuple #[.int .i64 (b : Int), .int .i64 (n : Int), .int .i64 0]) (by simp [results, Tryd.results55, go_sem, g3]) rfl ?_
  exact ⟨rfl, grown_setNew (grown_trans hgs hg3) _ (by omega) _ _⟩
end Go.Proofs.YtljdconhplgipabDoor
