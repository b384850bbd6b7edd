/-
  proof.stepFrom, as it landed.
-/
import Derived.Test.YtedmhejnbapklaaDoorPForkP
import Derived.Test.YtedmhejnbapklaaDoorTRootP
import Derived.Test.YtedmhejnbapklaaDoorPart2
import Derived.Test.YtedmhejnbapklaaDoorStepMem
namespace Go.Proofs.YtedmhejnbapklaaDoor
open Go.RowKit
theorem NewD.partS {w w' : World} {v : Value} {bs : List UInt8} (h : NewD w w' v bs) (hl : bs.length = 32) : PartS w' v bs := by
  obtain ⟨nb, _, rfl, hb⟩ := h
  exact hb.partS hl
/-- A digest in a block of its own stays while an elder block turns. -/
theorem NewD.set {w w1 : World} {v : Value} {bs : List UInt8} (h : NewD w w1 v bs) (b : Nat) (hb : b < w.heap.size) (i : Nat) (u : Value) : NewD w (w1.setCell ⟨b, i, none⟩ u) v bs := by
  obtain ⟨nb, h1, h2, t, h3⟩ := h
  refine ⟨nb, h1, h2, t, ?_⟩
  rw [(grown_set (grown_refl w1 (some b)) i u).block nb (Array.getElem?_eq_some_iff.1 h3).1 (by simp; omega)]
  exact h3
theorem NewD.grown {w w1 w2 : World} {v : Value} {bs : List UInt8} (h : NewD w w1 v bs) (hg : w1.grownBy w2 none) : NewD w w2 v bs := by
  obtain ⟨nb, h1, h2, t, h3⟩ := h
  exact ⟨nb, h1, h2, t, by rw [hg.block nb (Array.getElem?_eq_some_iff.1 h3).1 (by simp)]; exact h3⟩
set_option maxRecDepth 100000 in
set_option maxHeartbeats 2000000 in
theorem stepFrom_any (w : World) (v u : Value) (l : PL) (k : List UInt8) (hv : PairsIs w v l) (hu : SliceIs w u k) (hT : Tree l) (h2 : 2 ≤ l.length) (hk : 1 ≤ k.length ∧ k.length ≤ 16) (ht : Tabs w) :
    Calls Tryd.prog 29 #[v, u] w fun e w' => ∃ x ra rn rc, e = .returned (.tuple #[.agg #[.int .i64 (stepOf l k).bit, .bool (stepOf l k).right, x], .slice ra rn rc, .int .i64 0]) ∧ NewD w w' x (stepOf l k).other ∧ (∀ W, PairsIs W v l → PairsIs W (.slice ra rn rc) (mine l k)) ∧ w.grownBy w' none := by
  have hr := forkBit_range hT h2
  have tO := side_tree hT (forkBit l).toNat (!kbit k (forkBit l).toNat)
  have PP : Hid (∀ w', w.grownBy w' none → Calls Tryd.prog 55 #[v] w' fun e w'' => ∃ a1 n1 c1 a2 n2 c2, e = .returned (.tuple #[.int .i64 (forkBit l), .agg #[.slice a1 n1 c1, .slice a2 n2 c2], .int .i64 0]) ∧ (∀ W, PairsIs W v l → PairsIs W (.slice a1 n1 c1) (sideL l (forkBit l).toNat false)) ∧ (∀ W, PairsIs W v l → PairsIs W (.slice a2 n2 c2) (sideL l (forkBit l).toNat true)) ∧ w'.grownBy w'' none) := fun w' hg => parted_any w' v l (hv.grown hg) hT h2
  unfold stepOf theirs mine
  dsimp only
  obtain ⟨B, hB⟩ : ∃ B : Nat, forkBit l = (B : Int) := ⟨(forkBit l).toNat, by omega⟩
  have hB145 : B < 145 := by omega
  rw [hB] at PP tO ⊢
  rw [Int.toNat_natCast] at PP tO ⊢
  have BT : Hid (∀ w', w.grownBy w' none → Calls Tryd.prog 25 #[u, .int .i64 (B : Int)] w' fun e w'' => e = .returned (.tuple #[.bool (kbit k B), .int .i64 0]) ∧ w'.grownBy w'' none) := fun w' hg => BitOK.of bit_ok w' u k B (hu.grown hg) hk hB145
  have RT : Hid (∀ w' v', w.grownBy w' none → PairsIs w' v' (sideL l B (!kbit k B)) → Calls Tryd.prog 20 #[v'] w' fun e w'' => ∃ x, e = .returned (.tuple #[x, .int .i64 0]) ∧ NewD w' w'' x (rootL (sideL l B (!kbit k B))) ∧ w'.grownBy w'' none) := fun w' v' hg h => troot_new w' v' _ h tO (ht.grownNone hg)
  obtain ⟨ua, uc, rfl⟩ := hu.shape
  obtain ⟨va, vc, rfl⟩ := hv.shape
  have HV : Hid (PairsIs w (.slice va l.length vc) l) := hv
  clear hr tO hB hv hu hT h2 hk ht
  generalize k.length = nk at *
  generalize l.length = nl at *
  obtain ⟨W1, hW1⟩ : ∃ W1 : World, W1 = w.alloc (.cells #[.int .i64 0, .bool false, .slice none 0 0] 55) := ⟨_, rfl⟩
  have hgW : w.grownBy W1 none := by rw [hW1]; exact World.grownBy_alloc _ _ _
  have HW1 : Hid (W1 = w.alloc (.cells #[.int .i64 0, .bool false, .slice none 0 0] 55)) := hW1
  have B1 : Hid (W1.heap[w.heap.size]? = some (.cells #[.int .i64 0, .bool false, .slice none 0 0] 55)) := by
    show _ = _
    rw [hW1]; exact heap_alloc_new w _
  clear hW1
  cases hz : kbit k B with
  | false =>
    rw [hz] at BT RT
    rw [Bool.not_false] at RT ⊢
    generalize sideL l B false = LF at *
    generalize sideL l B true = LT at *
    have hrl := rootL_len LT
    generalize rootL LT = R at *
    clear hz
    go_enter Tryd.func29, Tryd.ntmps29
    go_wp2_with fail
    rw [← HW1.out]
    refine (PP.out _ hgW).mono ?_
    rintro e w2 ⟨a1, n1, c1, a2, n2, c2, rfl, p1, p2, hg2⟩
    have hgw2 := grown_trans hgW hg2
    have hga := World.grownBy_alloc w2 (.cells #[.slice a1 n1 c1, .slice a2 n2 c2] 83) none
    have d0 := two_cells (heap_alloc_new w2 (.cells #[.slice a1 n1 c1, .slice a2 n2 c2] 83))
    obtain ⟨d1, d2, _, _⟩ := d0
    have BB : Hid (W1.grownBy (w2.alloc (.cells #[.slice a1 n1 c1, .slice a2 n2 c2] 83)) none) := grown_trans hg2 hga
    have P1 : Hid (∀ W, PairsIs W (.slice va nl vc) l → PairsIs W (.slice a1 n1 c1) LF) := p1
    have P2 : Hid (∀ W, PairsIs W (.slice va nl vc) l → PairsIs W (.slice a2 n2 c2) LT) := p2
    have hgwa := grown_trans hgw2 hga
    have hsz2 : w.heap.size < w2.heap.size := by
      have h1 := (Array.getElem?_eq_some_iff.1 B1.out).1
      have h2 := hg2.size
      omega
    clear p1 p2 hg2 hgw2 hga
    go_wp2_with fail
    refine (BT.out _ hgwa).mono ?_
    rintro e w3 ⟨rfl, hg3⟩
    have e1 := hg3.cell d1 (by simp)
    have e2 := hg3.cell d2 (by simp)
    clear d1 d2
    go_wp2_with fail
    refine (sideOf_false _).mono ?_
    rintro e w4 ⟨rfl, rfl⟩
    have hgw3 := grown_trans hgwa hg3
    go_wp2_with fail
    refine (RT.out _ _ hgw3 (P2.out _ (HV.out.grown hgw3))).mono ?_
    rintro e w5 ⟨x, rfl, hx, hg5⟩
    have f1 := hg5.cell e1 (by simp)
    have f2 := hg5.cell e2 (by simp)
    have hg35 := grown_trans hg3 hg5
    have HQ : Hid (∀ W, PairsIs W (.slice va nl vc) l → PairsIs W (.slice a1 n1 c1) LF) := P1.out
    have B5 := pair_old (grown_trans BB.out hg35) B1.out
    obtain ⟨⟨y1, y2, y3⟩, z1, z2, z3⟩ := three_cells B5
    have B6 := three_set B5 (.int .i64 (B : Int)) (.bool false) x
    obtain ⟨⟨q1, q2, q3⟩, _, _, _⟩ := three_cells B6
    have hgw5 := grown_trans hgw3 hg5
    have hgf := grown_three hgw5 w.heap.size (Nat.le_refl _) (.int .i64 (B : Int)) (.bool false) x
    have hsz3 := hg3.size
    rw [World.size_alloc] at hsz3
    have NX : Hid (NewD w (((w5.setCell ⟨w.heap.size, 0, none⟩ (.int .i64 (B : Int))).setCell ⟨w.heap.size, 1, none⟩ (.bool false)).setCell ⟨w.heap.size, 2, none⟩ x).drew x R) := ((((hx.set _ (by omega) _ _).set _ (by omega) _ _).set _ (by omega) _ _).older hgw3.size).grown (grown_drew (grown_refl _ _))
    obtain ⟨xa, xc, rfl⟩ := (hx.slice hrl).shape
    rw [hrl] at *
    have HB6 : Hid ((((w5.setCell ⟨w.heap.size, 0, none⟩ (.int .i64 (B : Int))).setCell ⟨w.heap.size, 1, none⟩ (.bool false)).setCell ⟨w.heap.size, 2, none⟩ (.slice xa 32 xc)).heap[w.heap.size]? = some (.cells #[.int .i64 (B : Int), .bool false, .slice xa 32 xc] 55)) := B6
    clear B5 B6 hx hrl e1 e2 P1 P2 BB
    go_wp2_with fail
    go_region
    go_wp2
    refine bodyPost_ret (v := .tuple #[.agg #[.int .i64 (B : Int), .bool false, .slice xa 32 xc], .slice a1 n1 c1, .int .i64 0]) (by simp [results, Tryd.results29, go_sem, q1, q2, q3]) rfl ?_
    exact ⟨_, _, _, _, rfl, NX.out, HQ.out, grown_drew hgf⟩
  | true =>
    rw [hz] at BT RT
    rw [Bool.not_true] at RT ⊢
    generalize sideL l B false = LF at *
    generalize sideL l B true = LT at *
    have hrl := rootL_len LF
    generalize rootL LF = R at *
    clear hz
    go_enter Tryd.func29, Tryd.ntmps29
    go_wp2_with fail
    rw [← HW1.out]
    refine (PP.out _ hgW).mono ?_
    rintro e w2 ⟨a1, n1, c1, a2, n2, c2, rfl, p1, p2, hg2⟩
    have hgw2 := grown_trans hgW hg2
    have hga := World.grownBy_alloc w2 (.cells #[.slice a1 n1 c1, .slice a2 n2 c2] 83) none
    have d0 := two_cells (heap_alloc_new w2 (.cells #[.slice a1 n1 c1, .slice a2 n2 c2] 83))
    obtain ⟨d1, d2, _, _⟩ := d0
    have BB : Hid (W1.grownBy (w2.alloc (.cells #[.slice a1 n1 c1, .slice a2 n2 c2] 83)) none) := grown_trans hg2 hga
    have P1 : Hid (∀ W, PairsIs W (.slice va nl vc) l → PairsIs W (.slice a1 n1 c1) LF) := p1
    have P2 : Hid (∀ W, PairsIs W (.slice va nl vc) l → PairsIs W (.slice a2 n2 c2) LT) := p2
    have hgwa := grown_trans hgw2 hga
    have hsz2 : w.heap.size < w2.heap.size := by
      have h1 := (Array.getElem?_eq_some_iff.1 B1.out).1
      have h2 := hg2.size
      omega
    clear p1 p2 hg2 hgw2 hga
    go_wp2_with fail
    refine (BT.out _ hgwa).mono ?_
    rintro e w3 ⟨rfl, hg3⟩
    have e1 := hg3.cell d1 (by simp)
    have e2 := hg3.cell d2 (by simp)
    clear d1 d2
    go_wp2_with fail
    refine (sideOf_true _).mono ?_
    rintro e w4 ⟨rfl, rfl⟩
    have hgw3 := grown_trans hgwa hg3
    go_wp2_with fail
    refine (RT.out _ _ hgw3 (P1.out _ (HV.out.grown hgw3))).mono ?_
    rintro e w5 ⟨x, rfl, hx, hg5⟩
    have f1 := hg5.cell e1 (by simp)
    have f2 := hg5.cell e2 (by simp)
    have hg35 := grown_trans hg3 hg5
    have HQ : Hid (∀ W, PairsIs W (.slice va nl vc) l → PairsIs W (.slice a2 n2 c2) LT) := P2.out
    have B5 := pair_old (grown_trans BB.out hg35) B1.out
    obtain ⟨⟨y1, y2, y3⟩, z1, z2, z3⟩ := three_cells B5
    have B6 := three_set B5 (.int .i64 (B : Int)) (.bool true) x
    obtain ⟨⟨q1, q2, q3⟩, _, _, _⟩ := three_cells B6
    have hgw5 := grown_trans hgw3 hg5
    have hgf := grown_three hgw5 w.heap.size (Nat.le_refl _) (.int .i64 (B : Int)) (.bool true) x
    have hsz3 := hg3.size
    rw [World.size_alloc] at hsz3
    have NX : Hid (NewD w (((w5.setCell ⟨w.heap.size, 0, none⟩ (.int .i64 (B : Int))).setCell ⟨w.heap.size, 1, none⟩ (.bool true)).setCell ⟨w.heap.size, 2, none⟩ x).drew x R) := ((((hx.set _ (by omega) _ _).set _ (by omega) _ _).set _ (by omega) _ _).older hgw3.size).grown (grown_drew (grown_refl _ _))
    obtain ⟨xa, xc, rfl⟩ := (hx.slice hrl).shape
    rw [hrl] at *
    have HB6 : Hid ((((w5.setCell ⟨w.heap.size, 0, none⟩ (.int .i64 (B : Int))).setCell ⟨w.heap.size, 1, none⟩ (.bool true)).setCell ⟨w.heap.size, 2, none⟩ (.slice xa 32 xc)).heap[w.heap.size]? = some (.cells #[.int .i64 (B : Int), .bool true, .slice xa 32 xc] 55)) := B6
    clear B5 B6 hx hrl e1 e2 P1 P2 BB
    go_wp2_with fail
    go_region
    go_wp2
    refine bodyPost_ret (v := .tuple #[.agg #[.int .i64 (B : Int), .bool true, .slice xa 32 xc], .slice a2 n2 c2, .int .i64 0]) (by simp [results, Tryd.results29, go_sem, q1, q2, q3]) rfl ?_
    exact ⟨_, _, _, _, rfl, NX.out, HQ.out, grown_drew hgf⟩
end Go.Proofs.YtedmhejnbapklaaDoor
