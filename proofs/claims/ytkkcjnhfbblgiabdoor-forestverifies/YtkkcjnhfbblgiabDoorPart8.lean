/-
  Texts of this proof, joined: PForkP, PStepP.
-/
import Derived.Test.YtkkcjnhfbblgiabDoorPart6
import Derived.Test.YtkkcjnhfbblgiabDoorPart3
import Derived.Test.YtkkcjnhfbblgiabDoorStepMem
import Derived.Test.YtkkcjnhfbblgiabDoorTRootP
import Derived.Test.YtkkcjnhfbblgiabDoorPart2
/-
  proof.partedPairs and proof.sideOf, as they landed.
-/
namespace Go.Proofs.YtkkcjnhfbblgiabDoor
open Go.RowKit
theorem sideOf_any (w : World) (z : Bool) : Calls Tryd.prog 81 #[.bool z] w fun e w' => e = .returned (.int .i64 (if z = true then 1 else 0)) ∧ w' = w := by
  cases z
  all_goals
    go_enter Tryd.func81, Tryd.ntmps81
    go_wp2
    go_ret
    exact ⟨rfl, rfl⟩
theorem sideOf_false (w : World) : Calls Tryd.prog 81 #[.bool false] w fun e w' => e = .returned (.int .i64 0) ∧ w' = w := sideOf_any w false
theorem sideOf_true (w : World) : Calls Tryd.prog 81 #[.bool true] w fun e w' => e = .returned (.int .i64 1) ∧ w' = w := sideOf_any w true
set_option maxRecDepth 100000 in
set_option maxHeartbeats 1000000 in
theorem parted_any (w : World) (v : Value) (l : PL) (hv : PairsIs w v l) (hT : Tree l) (h2 : 2 ≤ l.length) :
    Calls Tryd.prog 79 #[v] w fun e w' => ∃ a1 n1 c1 a2 n2 c2, e = .returned (.tuple #[.int .i64 (forkBit l), .agg #[.slice a1 n1 c1, .slice a2 n2 c2], .int .i64 0]) ∧ (∀ W, PairsIs W v l → PairsIs W (.slice a1 n1 c1) (sideL l (forkBit l).toNat false)) ∧ (∀ W, PairsIs W v l → PairsIs W (.slice a2 n2 c2) (sideL l (forkBit l).toNat true)) ∧ w.grownBy w' none := by
  obtain ⟨a, cap, rfl⟩ := hv.shape
  have hr := forkBit_range hT h2
  have hpart := fork_part hT h2
  have hsr := side_range hT h2
  have hbit := fun j hj => bit_side hT h2 j hj
  have eF := side_false hT h2
  have eT := side_true hT h2
  have hroom := hT.room
  have hcap := hv.cap
  obtain ⟨b, hb⟩ : ∃ b : Nat, forkBit l = (b : Int) := ⟨(forkBit l).toNat, by omega⟩
  rw [hb] at hpart hsr hbit eF eT ⊢
  rw [Int.toNat_natCast] at hsr hbit eF eT ⊢
  rw [eF, eT]
  have hb145 : b < 145 := by omega
  generalize sideN l b = n at *
  obtain ⟨m, hm⟩ : ∃ m, l.length = m + 1 := ⟨l.length - 1, by omega⟩
  rw [show l.length - 1 = m by omega] at hpart
  obtain ⟨W1, hW1⟩ : ∃ W1 : World, W1 = ((w.alloc (.cells #[.slice a l.length cap] 46)).alloc (.cells #[.int .i64 0] 3)).alloc (.cells #[.slice none 0 0, .slice none 0 0] 110) := ⟨_, rfl⟩
  have hgW : w.grownBy W1 none := by rw [hW1]; exact grown_alloc (grown_alloc (World.grownBy_alloc _ _ _) _) _
  have HW1 : Hid (W1 = ((w.alloc (.cells #[.slice a l.length cap] 46)).alloc (.cells #[.int .i64 0] 3)).alloc (.cells #[.slice none 0 0, .slice none 0 0] 110)) := hW1
  have d1 : W1.drew.cell? ⟨w.heap.size, 0, none⟩ = some (.slice a l.length cap) := by
    have h0 := pair_old (grown_alloc (World.grownBy_alloc _ (.cells #[.int .i64 0] 3) none) (.cells #[.slice none 0 0, .slice none 0 0] 110)) (heap_alloc_new w (.cells #[.slice a l.length cap] 46))
    rw [hW1]; exact one_cell h0
  have d2 : Hid (W1.heap[w.heap.size + 1]? = some (.cells #[.int .i64 0] 3)) := by
    have := heap_alloc_new (w.alloc (.cells #[.slice a l.length cap] 46)) (.cells #[.int .i64 0] 3)
    rw [World.size_alloc] at this
    rw [hW1]; exact pair_old (World.grownBy_alloc _ _ _) this
  have d3 : Hid (W1.heap[w.heap.size + 1 + 1]? = some (.cells #[.slice none 0 0, .slice none 0 0] 110)) := by
    have := heap_alloc_new ((w.alloc (.cells #[.slice a l.length cap] 46)).alloc (.cells #[.int .i64 0] 3)) (.cells #[.slice none 0 0, .slice none 0 0] 110)
    rw [World.size_alloc, World.size_alloc] at this
    rw [hW1]; exact this
  obtain ⟨x1, k1, q1, g1⟩ := pslice_h a cap l n (by omega) hcap
  obtain ⟨x2, k2, q2, g2⟩ := pslice_l a cap l n (by omega)
  obtain ⟨pb, po, rfl, hat0⟩ := hv.at 0 (by omega)
  obtain ⟨pb2, po2, e, hatm⟩ := hv.at m (by omega)
  cases e
  have hpb : pb < w.heap.size := by obtain ⟨_, _, c, _⟩ := hat0; exact cell_lt c
  obtain ⟨vk, vv, c1, _, s1, _⟩ := hat0.grown (grown_drew hgW)
  obtain ⟨uk, uv, c2, _, s2, _⟩ := hatm.grown (grown_drew hgW)
  rw [Nat.zero_mul, Nat.add_zero] at c1
  have PT : Hid (Calls Tryd.prog 106 #[vk, uk] W1.drew fun e w' => e = .returned (.tuple #[.int .i64 (b : Int), .int .i64 0]) ∧ W1.drew.grownBy w' none) := by
    have := PartOK.of part_ok W1.drew vk uk _ _ s1 s2 (hT.key 0 (by omega)) (hT.key m (by omega))
    rw [hpart] at this
    exact this
  obtain ⟨ka, kc, rfl⟩ := s1.shape
  obtain ⟨ua, uc, rfl⟩ := s2.shape
  generalize (l.getD 0 ([], [])).1.length = k0 at *
  generalize (l.getD m ([], [])).1.length = km at *
  have i0 : (0 : Int) < (l.length : Int) := by omega
  have i1 : (m : Int) < (l.length : Int) := by omega
  have i2 : IntKind.i64.wrap ((l.length : Int) - 1) = (m : Int) := by rw [IntKind.wrap_i64]; omega
  have HBT : Hid (∀ j, j < l.length → kbit (l.getD j ([], [])).1 b = decide (n ≤ j)) := hbit
  have hgd := grown_drew hgW
  have hm1 : m + 1 ≤ l.length := by omega
  have hm2 : l.length ≤ m + 1 := by omega
  clear hpart hbit hW1 s1 s2 hat0 hatm hb hr hm eF eT
  have HV : Hid (PairsIs w (.slice (some ⟨pb, po, none⟩) l.length cap) l) := hv
  have HT : Hid (Tree l) := hT
  have HG1 : Hid (∀ W, PairsIs W (.slice (some ⟨pb, po, none⟩) l.length cap) l → PairsIs W (.slice x1 n k1) (l.take n)) := g1
  have HG2 : Hid (∀ W, PairsIs W (.slice (some ⟨pb, po, none⟩) l.length cap) l → PairsIs W (.slice x2 (l.length - n) k2) (l.drop n)) := g2
  clear hv hT g1 g2
  generalize hL : l.length = L at *
  have HL : Hid (l.length = L) := hL
  clear hL
  have i0' : 0 < L := by omega
  go_enter Tryd.func79, Tryd.ntmps79
  go_wp2_with fail
  rw [← HW1.out]
  go_region_held3 (fun w' => w'.cell? ⟨w.heap.size, 0, none⟩ = some (.slice (some ⟨pb, po, none⟩) L cap) ∧ w'.cell? ⟨pb, po, none⟩ = some (.slice ka k0 kc) ∧ w'.cell? ⟨pb, po + m * 2, none⟩ = some (.slice ua km uc))
    (first | exact ⟨d1, c1, c2⟩ | exact ⟨f1, f2, f3⟩ | exact ⟨(World.cell?_setCell_other _ _ _ _ (by simp)).trans f1, (World.cell?_setCell_other _ _ _ _ (by first | (simp; done) | (simp; omega))).trans f2, (World.cell?_setCell_other _ _ _ _ (by first | (simp; done) | (simp; omega))).trans f3⟩)
    (first | (go_at_call 106; refine PT.out.mono ?_; rintro e w1 ⟨rfl, hg1⟩; have f1 := hg1.cell d1 (by simp); have f2 := hg1.cell c1 (by simp); have f3 := hg1.cell c2 (by simp); have g0 := pair_old hg1 d2.out; have g1 : w1.cell? ⟨w.heap.size + 1, 0, none⟩ = some (.int .i64 0) := one_cell g0; have g2 : w1.frozen? ⟨w.heap.size + 1, 0, none⟩ = false := one_free g0))
  have hgw := grown_trans hgd hg1
  have k1' : (w1.setCell ⟨w.heap.size + 1, 0, none⟩ (.int .i64 (b : Int))).cell? ⟨w.heap.size, 0, none⟩ = some (.slice (some ⟨pb, po, none⟩) L cap) := (World.cell?_setCell_other _ _ _ _ (by simp)).trans f1
  have k2' : (w1.setCell ⟨w.heap.size + 1, 0, none⟩ (.int .i64 (b : Int))).cell? ⟨w.heap.size + 1, 0, none⟩ = some (.int .i64 (b : Int)) := World.cell?_setCell_same' _ _ _ (by rw [g1]; rfl)
  have hgs : w.grownBy (w1.setCell ⟨w.heap.size + 1, 0, none⟩ (.int .i64 (b : Int))) none := grown_setNew hgw _ (by omega) _ _
  have SE : Hid (Calls Tryd.prog 77 #[.int .i64 (L : Int), .func (.func 108) #[] #[.pointer (some ⟨w.heap.size, 0, none⟩), .pointer (some ⟨w.heap.size + 1, 0, none⟩)]] (w1.setCell ⟨w.heap.size + 1, 0, none⟩ (.int .i64 (b : Int))) fun e w' => e = .returned (.int .i64 (n : Int)) ∧ (w1.setCell ⟨w.heap.size + 1, 0, none⟩ (.int .i64 (b : Int))).grownBy w' none) := by
    have := psearch_any (w1.setCell ⟨w.heap.size + 1, 0, none⟩ (.int .i64 (b : Int))) w.heap.size (w.heap.size + 1) (some ⟨pb, po, none⟩) cap l b n (by rw [HL.out]; exact k1') k2' (by rw [HL.out]; exact HV.out.grown hgs) HT.out hb145 (by rw [HL.out]; omega) (by rw [HL.out]; exact HBT.out)
    rw [HL.out] at this
    exact this
  have BK : Hid ((w1.setCell ⟨w.heap.size + 1, 0, none⟩ (.int .i64 (b : Int))).heap[w.heap.size + 1]? = some (.cells #[.int .i64 (b : Int)] 3)) := one_set g0 _
  have BK3 : Hid ((w1.setCell ⟨w.heap.size + 1, 0, none⟩ (.int .i64 (b : Int))).heap[w.heap.size + 1 + 1]? = some (.cells #[.slice none 0 0, .slice none 0 0] 110)) := by
    have := pair_old hg1 d3.out
    have hlt := (Array.getElem?_eq_some_iff.1 this).1
    show _ = _
    rw [(grown_set (grown_refl w1 (some (w.heap.size + 1))) 0 (.int .i64 (b : Int))).block _ hlt (by simp)]
    exact this
  obtain ⟨W2, hW2⟩ : ∃ W2 : World, W2 = w1.setCell ⟨w.heap.size + 1, 0, none⟩ (.int .i64 (b : Int)) := ⟨_, rfl⟩
  rw [← hW2] at SE BK BK3 hgs k1' k2'
  have HW2 : Hid (W2 = w1.setCell ⟨w.heap.size + 1, 0, none⟩ (.int .i64 (b : Int))) := hW2
  clear hW2 g0 g1 g2 f1 f2 f3 c1 c2 d1 hgd hgw hg1 PT
  have e1 : (w1.setCell ⟨w.heap.size + 1, 0, none⟩ (.int .i64 (b : Int))).cell? ⟨w.heap.size, 0, none⟩ = some (.slice (some ⟨pb, po, none⟩) L cap) := by rw [← HW2.out]; exact k1'
  go_wp2_with fail
  rw [← HW2.out]
  refine SE.out.mono ?_
  rintro e w3 ⟨rfl, hg3⟩
  have g0 := pair_old hg3 BK.out
  have g1 := one_cell g0
  have g2 := one_free g0
  have g3 := one_cell (one_set g0 (.int .i64 (b : Int)))
  have g4 := hg3.cell k1' (by simp)
  obtain ⟨r1, r2, r3, r4⟩ := two_cells (pair_old hg3 BK3.out)
  have hgw3 := grown_trans hgs hg3
  clear HT HBT k1' k2' SE e1
  have b2 : (n : Int) ≤ (L : Int) := by omega
  go_wp2_with fail
  have gg1 : w3.drew.cell? ⟨w.heap.size + 1, 0, none⟩ = some (.int .i64 (b : Int)) := g1
  have gg2 : w3.drew.frozen? ⟨w.heap.size + 1, 0, none⟩ = false := g2
  have gg4 : w3.drew.cell? ⟨w.heap.size, 0, none⟩ = some (.slice (some ⟨pb, po, none⟩) L cap) := g4
  have hgd : w.grownBy w3.drew none := grown_drew hgw3
  have hgw0 := hgw3
  have B2 : Hid (w3.drew.heap[w.heap.size + 1 + 1]? = some (.cells #[.slice none 0 0, .slice none 0 0] 110)) := pair_old (grown_drew hg3) BK3.out
  have B1 : Hid (w3.drew.heap[w.heap.size + 1]? = some (.cells #[.int .i64 (b : Int)] 3)) := g0
  clear g0 g3 hg3 hgw3 hgs BK BK3 hgW
  have y1 : (w3.drew.setCell ⟨w.heap.size + 1, 0, none⟩ (.int .i64 (b : Int))).cell? ⟨w.heap.size, 0, none⟩ = some (.slice (some ⟨pb, po, none⟩) L cap) := (World.cell?_setCell_other _ _ _ _ (by simp)).trans gg4
  have y2 : (w3.drew.setCell ⟨w.heap.size + 1, 0, none⟩ (.int .i64 (b : Int))).cell? ⟨w.heap.size + 1, 0, none⟩ = some (.int .i64 (b : Int)) := one_cell (one_set B1.out _)
  have Y3 : Hid ((w3.drew.setCell ⟨w.heap.size + 1, 0, none⟩ (.int .i64 (b : Int))).heap[w.heap.size + 1 + 1]? = some (.cells #[.slice none 0 0, .slice none 0 0] 110)) := by
    show _ = _
    rw [(grown_set (grown_refl w3.drew (some (w.heap.size + 1))) 0 (.int .i64 (b : Int))).block _ (Array.getElem?_eq_some_iff.1 B2.out).1 (by simp)]
    exact B2.out
  obtain ⟨y4, y5, y6, y7⟩ := two_cells Y3.out
  obtain ⟨z4, z5, z6, z7⟩ := two_cells B2.out
  go_region
  have X3 : Hid ((w3.setCell ⟨w.heap.size + 1, 0, none⟩ (.int .i64 (b : Int))).heap[w.heap.size + 1 + 1]? = some (.cells #[.slice none 0 0, .slice none 0 0] 110)) := Y3.out
  have X4 := two_set X3.out (.slice x1 n k1) (.slice x2 (L - n) k2)
  obtain ⟨m1, m2, _, _⟩ := two_cells X4
  have m3 : (((w3.setCell ⟨w.heap.size + 1, 0, none⟩ (.int .i64 (b : Int))).setCell ⟨w.heap.size + 1 + 1, 0, none⟩ (.slice x1 n k1)).setCell ⟨w.heap.size + 1 + 1, 1, none⟩ (.slice x2 (L - n) k2)).cell? ⟨w.heap.size + 1, 0, none⟩ = some (.int .i64 (b : Int)) := (World.cell?_setCell_other _ _ _ _ (by simp)).trans ((World.cell?_setCell_other _ _ _ _ (by simp)).trans y2)
  have hgf : w.grownBy (((w3.setCell ⟨w.heap.size + 1, 0, none⟩ (.int .i64 (b : Int))).setCell ⟨w.heap.size + 1 + 1, 0, none⟩ (.slice x1 n k1)).setCell ⟨w.heap.size + 1 + 1, 1, none⟩ (.slice x2 (L - n) k2)).drew none := grown_drew (grown_setNew (grown_setNew (grown_setNew hgw0 _ (by omega) _ _) _ (by omega) _ _) _ (by omega) _ _)
  have hgp : w.grownBy (((w3.setCell ⟨w.heap.size + 1, 0, none⟩ (.int .i64 (b : Int))).setCell ⟨w.heap.size + 1 + 1, 0, none⟩ (.slice x1 n k1)).setCell ⟨w.heap.size + 1 + 1, 1, none⟩ (.slice x2 (L - n) k2)) none := grown_setNew (grown_setNew (grown_setNew hgw0 _ (by omega) _ _) _ (by omega) _ _) _ (by omega) _ _
  generalize (((w3.setCell ⟨w.heap.size + 1, 0, none⟩ (.int .i64 (b : Int))).setCell ⟨w.heap.size + 1 + 1, 0, none⟩ (.slice x1 n k1)).setCell ⟨w.heap.size + 1 + 1, 1, none⟩ (.slice x2 (L - n) k2)) = W4 at *
  clear X4 HV
  go_wp2
  refine bodyPost_ret (v := .tuple #[.int .i64 (b : Int), .agg #[.slice x1 n k1, .slice x2 (L - n) k2], .int .i64 0]) (by simp [results, Tryd.results79, go_sem, m1, m2, m3]) rfl ?_
  exact ⟨_, _, _, _, _, _, rfl, HG1.out, HG2.out, hgf⟩
end Go.Proofs.YtkkcjnhfbblgiabDoor

/-
  proof.stepFrom, as it landed.
-/
namespace Go.Proofs.YtkkcjnhfbblgiabDoor
open Go.RowKit
theorem NewD.partS {w w' : World} {v : Value} {bs : List UInt8} (h : NewD w w' v bs) (hl : bs.length = 32) : PartS w' v bs := by
  obtain ⟨nb, _, rfl, hb⟩ := h
  exact hb.partS hl
/-- A digest in a block of its own stays while an elder block turns. -/
theorem NewD.set {w w1 : World} {v : Value} {bs : List UInt8} (h : NewD w w1 v bs) (b : Nat) (hb : b < w.heap.size) (i : Nat) (u : Value) : NewD w (w1.setCell ⟨b, i, none⟩ u) v bs := by
  obtain ⟨nb, h1, h2, t, h3⟩ := h
  refine ⟨nb, h1, h2, t, ?_⟩
  rw [(grown_set (grown_refl w1 (some b)) i u).block nb (Array.getElem?_eq_some_iff.1 h3).1 (by simp; omega)]
  exact h3
theorem NewD.grown {w w1 w2 : World} {v : Value} {bs : List UInt8} (h : NewD w w1 v bs) (hg : w1.grownBy w2 none) : NewD w w2 v bs := by
  obtain ⟨nb, h1, h2, t, h3⟩ := h
  exact ⟨nb, h1, h2, t, by rw [hg.block nb (Array.getElem?_eq_some_iff.1 h3).1 (by simp)]; exact h3⟩
set_option maxRecDepth 100000 in
set_option maxHeartbeats 2000000 in
theorem stepFrom_any (w : World) (v u : Value) (l : PL) (k : List UInt8) (hv : PairsIs w v l) (hu : SliceIs w u k) (hT : Tree l) (h2 : 2 ≤ l.length) (hk : 1 ≤ k.length ∧ k.length ≤ 16) (ht : Tabs w) :
    Calls Tryd.prog 51 #[v, u] w fun e w' => ∃ x ra rn rc, e = .returned (.tuple #[.agg #[.int .i64 (stepOf l k).bit, .bool (stepOf l k).right, x], .slice ra rn rc, .int .i64 0]) ∧ NewD w w' x (stepOf l k).other ∧ (∀ W, PairsIs W v l → PairsIs W (.slice ra rn rc) (mine l k)) ∧ w.grownBy w' none := by
  have hr := forkBit_range hT h2
  have tO := side_tree hT (forkBit l).toNat (!kbit k (forkBit l).toNat)
  have PP : Hid (∀ w', w.grownBy w' none → Calls Tryd.prog 79 #[v] w' fun e w'' => ∃ a1 n1 c1 a2 n2 c2, e = .returned (.tuple #[.int .i64 (forkBit l), .agg #[.slice a1 n1 c1, .slice a2 n2 c2], .int .i64 0]) ∧ (∀ W, PairsIs W v l → PairsIs W (.slice a1 n1 c1) (sideL l (forkBit l).toNat false)) ∧ (∀ W, PairsIs W v l → PairsIs W (.slice a2 n2 c2) (sideL l (forkBit l).toNat true)) ∧ w'.grownBy w'' none) := fun w' hg => parted_any w' v l (hv.grown hg) hT h2
  unfold stepOf theirs mine
  dsimp only
  obtain ⟨B, hB⟩ : ∃ B : Nat, forkBit l = (B : Int) := ⟨(forkBit l).toNat, by omega⟩
  have hB145 : B < 145 := by omega
  rw [hB] at PP tO ⊢
  rw [Int.toNat_natCast] at PP tO ⊢
  have BT : Hid (∀ w', w.grownBy w' none → Calls Tryd.prog 80 #[u, .int .i64 (B : Int)] w' fun e w'' => e = .returned (.tuple #[.bool (kbit k B), .int .i64 0]) ∧ w'.grownBy w'' none) := fun w' hg => BitOK.of bit_ok w' u k B (hu.grown hg) hk hB145
  have RT : Hid (∀ w' v', w.grownBy w' none → PairsIs w' v' (sideL l B (!kbit k B)) → Calls Tryd.prog 20 #[v'] w' fun e w'' => ∃ x, e = .returned (.tuple #[x, .int .i64 0]) ∧ NewD w' w'' x (rootL (sideL l B (!kbit k B))) ∧ w'.grownBy w'' none) := fun w' v' hg h => troot_new w' v' _ h tO (ht.grownNone hg)
  obtain ⟨ua, uc, rfl⟩ := hu.shape
  obtain ⟨va, vc, rfl⟩ := hv.shape
  have HV : Hid (PairsIs w (.slice va l.length vc) l) := hv
  clear hr tO hB hv hu hT h2 hk ht
  generalize k.length = nk at *
  generalize l.length = nl at *
  obtain ⟨W1, hW1⟩ : ∃ W1 : World, W1 = w.alloc (.cells #[.int .i64 0, .bool false, .slice none 0 0] 71) := ⟨_, rfl⟩
  have hgW : w.grownBy W1 none := by rw [hW1]; exact World.grownBy_alloc _ _ _
  have HW1 : Hid (W1 = w.alloc (.cells #[.int .i64 0, .bool false, .slice none 0 0] 71)) := hW1
  have B1 : Hid (W1.heap[w.heap.size]? = some (.cells #[.int .i64 0, .bool false, .slice none 0 0] 71)) := by
    show _ = _
    rw [hW1]; exact heap_alloc_new w _
  clear hW1
  cases hz : kbit k B with
  | false =>
    rw [hz] at BT RT
    rw [Bool.not_false] at RT ⊢
    generalize sideL l B false = LF at *
    generalize sideL l B true = LT at *
    have hrl := rootL_len LT
    generalize rootL LT = R at *
    clear hz
    go_enter Tryd.func51, Tryd.ntmps51
    go_wp2_with fail
    rw [← HW1.out]
    refine (PP.out _ hgW).mono ?_
    rintro e w2 ⟨a1, n1, c1, a2, n2, c2, rfl, p1, p2, hg2⟩
    have hgw2 := grown_trans hgW hg2
    have hga := World.grownBy_alloc w2 (.cells #[.slice a1 n1 c1, .slice a2 n2 c2] 110) none
    have d0 := two_cells (heap_alloc_new w2 (.cells #[.slice a1 n1 c1, .slice a2 n2 c2] 110))
    obtain ⟨d1, d2, _, _⟩ := d0
    have BB : Hid (W1.grownBy (w2.alloc (.cells #[.slice a1 n1 c1, .slice a2 n2 c2] 110)) none) := grown_trans hg2 hga
    have P1 : Hid (∀ W, PairsIs W (.slice va nl vc) l → PairsIs W (.slice a1 n1 c1) LF) := p1
    have P2 : Hid (∀ W, PairsIs W (.slice va nl vc) l → PairsIs W (.slice a2 n2 c2) LT) := p2
    have hgwa := grown_trans hgw2 hga
    have hsz2 : w.heap.size < w2.heap.size := by
      have h1 := (Array.getElem?_eq_some_iff.1 B1.out).1
      have h2 := hg2.size
      omega
    clear p1 p2 hg2 hgw2 hga
    go_wp2_with fail
    refine (BT.out _ hgwa).mono ?_
    rintro e w3 ⟨rfl, hg3⟩
    have e1 := hg3.cell d1 (by simp)
    have e2 := hg3.cell d2 (by simp)
    clear d1 d2
    go_wp2_with fail
    refine (sideOf_false _).mono ?_
    rintro e w4 ⟨rfl, rfl⟩
    have hgw3 := grown_trans hgwa hg3
    go_wp2_with fail
    refine (RT.out _ _ hgw3 (P2.out _ (HV.out.grown hgw3))).mono ?_
    rintro e w5 ⟨x, rfl, hx, hg5⟩
    have f1 := hg5.cell e1 (by simp)
    have f2 := hg5.cell e2 (by simp)
    have hg35 := grown_trans hg3 hg5
    have HQ : Hid (∀ W, PairsIs W (.slice va nl vc) l → PairsIs W (.slice a1 n1 c1) LF) := P1.out
    have B5 := pair_old (grown_trans BB.out hg35) B1.out
    obtain ⟨⟨y1, y2, y3⟩, z1, z2, z3⟩ := three_cells B5
    have B6 := three_set B5 (.int .i64 (B : Int)) (.bool false) x
    obtain ⟨⟨q1, q2, q3⟩, _, _, _⟩ := three_cells B6
    have hgw5 := grown_trans hgw3 hg5
    have hgf := grown_three hgw5 w.heap.size (Nat.le_refl _) (.int .i64 (B : Int)) (.bool false) x
    have hsz3 := hg3.size
    rw [World.size_alloc] at hsz3
    have NX : Hid (NewD w (((w5.setCell ⟨w.heap.size, 0, none⟩ (.int .i64 (B : Int))).setCell ⟨w.heap.size, 1, none⟩ (.bool false)).setCell ⟨w.heap.size, 2, none⟩ x).drew x R) := ((((hx.set _ (by omega) _ _).set _ (by omega) _ _).set _ (by omega) _ _).older hgw3.size).grown (grown_drew (grown_refl _ _))
    obtain ⟨xa, xc, rfl⟩ := (hx.slice hrl).shape
    rw [hrl] at *
    have HB6 : Hid ((((w5.setCell ⟨w.heap.size, 0, none⟩ (.int .i64 (B : Int))).setCell ⟨w.heap.size, 1, none⟩ (.bool false)).setCell ⟨w.heap.size, 2, none⟩ (.slice xa 32 xc)).heap[w.heap.size]? = some (.cells #[.int .i64 (B : Int), .bool false, .slice xa 32 xc] 71)) := B6
    clear B5 B6 hx hrl e1 e2 P1 P2 BB
    go_wp2_with fail
    go_region
    go_wp2
    refine bodyPost_ret (v := .tuple #[.agg #[.int .i64 (B : Int), .bool false, .slice xa 32 xc], .slice a1 n1 c1, .int .i64 0]) (by simp [results, Tryd.results51, go_sem, q1, q2, q3]) rfl ?_
    exact ⟨_, _, _, _, rfl, NX.out, HQ.out, grown_drew hgf⟩
  | true =>
    rw [hz] at BT RT
    rw [Bool.not_true] at RT ⊢
    generalize sideL l B false = LF at *
    generalize sideL l B true = LT at *
    have hrl := rootL_len LF
    generalize rootL LF = R at *
    clear hz
    go_enter Tryd.func51, Tryd.ntmps51
    go_wp2_with fail
    rw [← HW1.out]
    refine (PP.out _ hgW).mono ?_
    rintro e w2 ⟨a1, n1, c1, a2, n2, c2, rfl, p1, p2, hg2⟩
    have hgw2 := grown_trans hgW hg2
    have hga := World.grownBy_alloc w2 (.cells #[.slice a1 n1 c1, .slice a2 n2 c2] 110) none
    have d0 := two_cells (heap_alloc_new w2 (.cells #[.slice a1 n1 c1, .slice a2 n2 c2] 110))
    obtain ⟨d1, d2, _, _⟩ := d0
    have BB : Hid (W1.grownBy (w2.alloc (.cells #[.slice a1 n1 c1, .slice a2 n2 c2] 110)) none) := grown_trans hg2 hga
    have P1 : Hid (∀ W, PairsIs W (.slice va nl vc) l → PairsIs W (.slice a1 n1 c1) LF) := p1
    have P2 : Hid (∀ W, PairsIs W (.slice va nl vc) l → PairsIs W (.slice a2 n2 c2) LT) := p2
    have hgwa := grown_trans hgw2 hga
    have hsz2 : w.heap.size < w2.heap.size := by
      have h1 := (Array.getElem?_eq_some_iff.1 B1.out).1
      have h2 := hg2.size
      omega
    clear p1 p2 hg2 hgw2 hga
    go_wp2_with fail
    refine (BT.out _ hgwa).mono ?_
    rintro e w3 ⟨rfl, hg3⟩
    have e1 := hg3.cell d1 (by simp)
    have e2 := hg3.cell d2 (by simp)
    clear d1 d2
    go_wp2_with fail
    refine (sideOf_true _).mono ?_
    rintro e w4 ⟨rfl, rfl⟩
    have hgw3 := grown_trans hgwa hg3
    go_wp2_with fail
    refine (RT.out _ _ hgw3 (P1.out _ (HV.out.grown hgw3))).mono ?_
    rintro e w5 ⟨x, rfl, hx, hg5⟩
    have f1 := hg5.cell e1 (by simp)
    have f2 := hg5.cell e2 (by simp)
    have hg35 := grown_trans hg3 hg5
    have HQ : Hid (∀ W, PairsIs W (.slice va nl vc) l → PairsIs W (.slice a2 n2 c2) LT) := P2.out
    have B5 := pair_old (grown_trans BB.out hg35) B1.out
    obtain ⟨⟨y1, y2, y3⟩, z1, z2, z3⟩ := three_cells B5
    have B6 := three_set B5 (.int .i64 (B : Int)) (.bool true) x
    obtain ⟨⟨q1, q2, q3⟩, _, _, _⟩ := three_cells B6
    have hgw5 := grown_trans hgw3 hg5
    have hgf := grown_three hgw5 w.heap.size (Nat.le_refl _) (.int .i64 (B : Int)) (.bool true) x
    have hsz3 := hg3.size
    rw [World.size_alloc] at hsz3
    have NX : Hid (NewD w (((w5.setCell ⟨w.heap.size, 0, none⟩ (.int .i64 (B : Int))).setCell ⟨w.heap.size, 1, none⟩ (.bool true)).setCell ⟨w.heap.size, 2, none⟩ x).drew x R) := ((((hx.set _ (by omega) _ _).set _ (by omega) _ _).set _ (by omega) _ _).older hgw3.size).grown (grown_drew (grown_refl _ _))
    obtain ⟨xa, xc, rfl⟩ := (hx.slice hrl).shape
    rw [hrl] at *
    have HB6 : Hid ((((w5.setCell ⟨w.heap.size, 0, none⟩ (.int .i64 (B : Int))).setCell ⟨w.heap.size, 1, none⟩ (.bool true)).setCell ⟨w.heap.size, 2, none⟩ (.slice xa 32 xc)).heap[w.heap.size]? = some (.cells #[.int .i64 (B : Int), .bool true, .slice xa 32 xc] 71)) := B6
    clear B5 B6 hx hrl e1 e2 P1 P2 BB
    go_wp2_with fail
    go_region
    go_wp2
    refine bodyPost_ret (v := .tuple #[.agg #[.int .i64 (B : Int), .bool true, .slice xa 32 xc], .slice a2 n2 c2, .int .i64 0]) (by simp [results, Tryd.results51, go_sem, q1, q2, q3]) rfl ?_
    exact ⟨_, _, _, _, rfl, NX.out, HQ.out, grown_drew hgf⟩
end Go.Proofs.YtkkcjnhfbblgiabDoor
