/-
  The walk of canopykeep.RootMade, over what the code must keep.
-/
import Derived.Test.YtdpoickggdgddacDoorLRootSides
import Derived.Test.YtdpoickggdgddacDoorKeyO
import Derived.Deep.DrawnRows
namespace Go.Proofs.YtdpoickggdgddacDoor
open Go.RowKit
attribute [local go_sem ↓] Go.wp_at_zero Go.wp_at_succ
theorem tree_one (P : Pr) (h : (1 ≤ P.1.length ∧ P.1.length ≤ 16) ∧ P.2.length ≤ 32) : Tree [P] := ⟨by simp, fun q hq => by simp at hq; rw [hq]; exact h, List.pairwise_singleton _ _⟩
theorem tree_two (P Q : Pr) (h : (1 ≤ P.1.length ∧ P.1.length ≤ 16) ∧ P.2.length ≤ 32) (h' : (1 ≤ Q.1.length ∧ Q.1.length ≤ 16) ∧ Q.2.length ≤ 32) (hk : klt P.1 Q.1 = true) : Tree [P, Q] := by
  refine ⟨by simp, fun q hq => ?_, ?_⟩
  · simp at hq
    rcases hq with rfl | rfl
    · exact h
    · exact h'
  · exact List.Pairwise.cons (fun q hq => by simp at hq; rw [hq]; exact hk) (List.pairwise_singleton _ _)
theorem root_one (P : Pr) : rootL [P] = sumF (joinF 1 [P.1, P.2]) := rootL_one [P] rfl
theorem root_two (P Q : Pr) (hT : Tree [P, Q]) (B : Nat) (hB : partK P.1 Q.1 = (B : Int)) : rootL [P, Q] = sumF (joinF 2 [[UInt8.ofNat B], rootL [P], rootL [Q]]) := by
  have h2 : 2 ≤ ([P, Q] : PL).length := by simp
  have e := rootL_fork [P, Q] hT h2
  have hp : partK P.1 Q.1 = forkBit [P, Q] := fork_part hT h2
  have hs := side_range hT h2
  have s1 : sideN [P, Q] (forkBit [P, Q]).toNat = 1 := by simp at hs; omega
  rw [side_false hT h2, side_true hT h2, s1, ← hp, hB] at e
  rw [e]
  rfl
theorem pairs_two (w : World) (t : TypeId) (k1 v1 k2 v2 : Value) (P Q : Pr) (h1 : SliceIs w k1 P.1) (h2 : SliceIs w v1 P.2) (h3 : SliceIs w k2 Q.1) (h4 : SliceIs w v2 Q.2) : PairsIs (w.alloc (.cells #[k1, v1, k2, v2] t)) (.slice (some ⟨w.heap.size, 0, none⟩) 2 2) [P, Q] := by
  refine ⟨_, 2, rfl, by simp, .inr ⟨w.heap.size, 0, rfl, fun i hi => ?_⟩⟩
  match i, hi with
  | 0, _ => exact ⟨k1, v1, by simp, by simp, h1.alloc _, h2.alloc _⟩
  | 1, _ => exact ⟨k2, v2, by simp, by simp, h3.alloc _, h4.alloc _⟩
theorem pairs_one (w : World) (t : TypeId) (k1 v1 : Value) (P : Pr) (h1 : SliceIs w k1 P.1) (h2 : SliceIs w v1 P.2) : PairsIs (w.alloc (.cells #[k1, v1] t)) (.slice (some ⟨w.heap.size, 0, none⟩) 1 1) [P] := by
  refine ⟨_, 1, rfl, by simp, .inr ⟨w.heap.size, 0, rfl, fun i hi => ?_⟩⟩
  match i, hi with
  | 0, _ => exact ⟨k1, v1, by simp, by simp, h1.alloc _, h2.alloc _⟩
set_option maxRecDepth 100000 in
set_option maxHeartbeats 4000000 in
theorem rootMade_walk (hR : TRootOK) (hPt : PartOK) (w : World) (x y : Value) (p q : Pr) (hx : PairIs w x p) (hy : PairIs w y q) (hp1 : p.1.length ≤ maxLen) (hp2 : p.2.length ≤ maxLen) (hq1 : q.1.length ≤ maxLen) (hq2 : q.2.length ≤ maxLen) (ht : Tabs w) :
    Calls Tryd.prog 3 #[x, y] w fun e w' => e = .returned (.bool true) ∧ w.grownBy w' none := by
  have hA := itemP_ok p
  have hB := itemP_ok q
  obtain ⟨xk, xv, rfl, sx1, sx2⟩ := hx
  obtain ⟨yk, yv, rfl, sy1, sy2⟩ := hy
  obtain ⟨W0, hW0⟩ : ∃ W0 : World, W0 = (w.alloc (.cells #[xk, xv] 24)).alloc (.cells #[yk, yv] 24) := ⟨_, rfl⟩
  have hgW : w.grownBy W0 none := by rw [hW0]; exact grown_alloc (World.grownBy_alloc _ _ _) _
  have HW0 : Hid (W0 = (w.alloc (.cells #[xk, xv] 24)).alloc (.cells #[yk, yv] 24)) := hW0
  have CX : Hid (W0.heap[w.heap.size]? = some (.cells #[xk, xv] 24)) := by
    have := (World.grownBy_alloc (w.alloc (.cells #[xk, xv] 24)) (.cells #[yk, yv] 24) none).block w.heap.size (by simp) (by simp)
    rw [heap_alloc_new] at this
    rw [hW0]; exact this
  have CY : Hid (W0.heap[w.heap.size + 1]? = some (.cells #[yk, yv] 24)) := by
    have := heap_alloc_new (w.alloc (.cells #[xk, xv] 24)) (.cells #[yk, yv] 24)
    rw [World.size_alloc] at this
    rw [hW0]; exact this
  have hsz0 : w.heap.size + 2 ≤ W0.heap.size := by rw [hW0]; simp
  have KX : Hid (∀ w', w.grownBy w' none → Calls Tryd.prog 5 #[xk] w' fun e w'' => ∃ v', e = .returned v' ∧ Own w'.heap.size w'' v' (itemP p).1 ∧ w'.grownBy w'' none) := fun w' hg => keyO_any w' xk p.1 (sx1.grown hg) hp1
  have SX : Hid (∀ w', w.grownBy w' none → Calls Tryd.prog 6 #[xv, .int .i64 32] w' fun e w'' => ∃ v', e = .returned v' ∧ Own w'.heap.size w'' v' (itemP p).2 ∧ w'.grownBy w'' none) := fun w' hg => some_any w' xv p.2 32 (by omega) (sx2.grown hg) hp2
  have KY : Hid (∀ w', w.grownBy w' none → Calls Tryd.prog 5 #[yk] w' fun e w'' => ∃ v', e = .returned v' ∧ Own w'.heap.size w'' v' (itemP q).1 ∧ w'.grownBy w'' none) := fun w' hg => keyO_any w' yk q.1 (sy1.grown hg) hq1
  have SY : Hid (∀ w', w.grownBy w' none → Calls Tryd.prog 6 #[yv, .int .i64 32] w' fun e w'' => ∃ v', e = .returned v' ∧ Own w'.heap.size w'' v' (itemP q).2 ∧ w'.grownBy w'' none) := fun w' hg => some_any w' yv q.2 32 (by omega) (sy2.grown hg) hq2
  obtain ⟨ka, kc, rfl⟩ := sx1.shape
  obtain ⟨va, vc, rfl⟩ := sx2.shape
  obtain ⟨la, lc, rfl⟩ := sy1.shape
  obtain ⟨ua, uc, rfl⟩ := sy2.shape
  obtain ⟨d1, d2, _, _⟩ := pair_room (grown_refl W0 none) CX.out
  generalize itemP p = P at *
  generalize itemP q = Q at *
  clear sx1 sx2 sy1 sy2 hp1 hp2 hq1 hq2 hW0
  have RT : ∀ (l : PL), Tree l → Hid (∀ w' v', w.grownBy w' none → PairsIs w' v' l → Calls Tryd.prog 7 #[v'] w' fun e w'' => ∃ x, e = .returned (.tuple #[x, .int .i64 0]) ∧ SliceIs w'' x (rootL l) ∧ w'.grownBy w'' none) := fun l hT w' v' hg h => TRootOK.of hR w' v' l h hT (ht.grownNone hg)
  have R1 := RT [P] (tree_one P hA)
  have R2 := RT [Q] (tree_one Q hB)
  have R0 := RT [] tree_nil
  rw [rootL_none [] rfl] at R0
  have DP1 : Hid (∀ (w' : World) (k v : Value), w.grownBy w' none → SliceIs w' k P.1 → SliceIs w' v P.2 → Calls Tryd.prog 8 #[.int .u8 1, .slice (some ⟨w'.heap.size, 0, none⟩) 2 2] (w'.alloc (.cells #[k, v] 22)) fun e w'' => ∃ z, e = .returned (.tuple #[z, .int .i64 0]) ∧ SliceIs w'' z (rootL [P]) ∧ w'.grownBy w'' none) := fun w' k v hg hk hv => by
    have hga := World.grownBy_alloc w' (.cells #[k, v] 22) none
    rw [root_one]
    refine (parts_short _ 1 _ [P.1, P.2] (plist_two w' _ k v P.1 P.2 hk hv _ rfl) (by simp) ?_ (by rw [joinF_two]; omega) (ht.grownNone (grown_trans hg hga))).mono ?_
    · intro i hi
      match i, hi with
      | 0, _ => simp; omega
      | 1, _ => simp; omega
    · rintro e w1 ⟨z, rfl, hz, hg1⟩
      exact ⟨z, rfl, hz, grown_trans hga hg1⟩
  have DP0 : Hid (∀ (w' : World), w.grownBy w' none → Calls Tryd.prog 8 #[.int .u8 0, .slice none 0 0] w' fun e w'' => ∃ z, e = .returned (.tuple #[z, .int .i64 0]) ∧ SliceIs w'' z (sumF [0]) ∧ w'.grownBy w'' none) := fun w' hg => by
    have := parts_short w' 0 (.slice none 0 0) [] ⟨none, 0, rfl, by simp, .inl rfl⟩ (by simp) (by simp) (by simp [joinF]) (ht.grownNone hg)
    simpa [joinF] using this
  have PT : Hid (∀ (w' : World) (v1 v2 : Value), SliceIs w' v1 P.1 → SliceIs w' v2 Q.1 → Calls Tryd.prog 10 #[v1, v2] w' fun e w'' => e = .returned (.tuple #[.int .i64 (partK P.1 Q.1), .int .i64 0]) ∧ w'.grownBy w'' none) := fun w' v1 v2 h1 h2 => PartOK.of hPt w' v1 v2 _ _ h1 h2 hA.1 hB.1
  have hrg := partK_range P.1 Q.1
  have rl1 := rootL_len [P]
  have rl2 := rootL_len [Q]
  have HPQ : Hid (klt Q.1 P.1 = false → ∀ B : Nat, partK P.1 Q.1 = (B : Int) → (∀ w' v', w.grownBy w' none → PairsIs w' v' [P, Q] → Calls Tryd.prog 7 #[v'] w' fun e w'' => ∃ x, e = .returned (.tuple #[x, .int .i64 0]) ∧ SliceIs w'' x (rootL [P, Q]) ∧ w'.grownBy w'' none) ∧ rootL [P, Q] = sumF (joinF 2 [[UInt8.ofNat B], rootL [P], rootL [Q]])) := fun hk B hb => by
    have hne : ¬ Q.1 = P.1 := fun e => by
      have := (partK_same P.1 Q.1 hA.1.2 hB.1.2).2 e.symm
      omega
    have hT := tree_two P Q hA hB (klt_total _ _ hk hne)
    exact ⟨RT [P, Q] hT, root_two P Q hT B hb⟩
  have HQP : Hid (klt Q.1 P.1 = true → ∀ B : Nat, partK P.1 Q.1 = (B : Int) → (∀ w' v', w.grownBy w' none → PairsIs w' v' [Q, P] → Calls Tryd.prog 7 #[v'] w' fun e w'' => ∃ x, e = .returned (.tuple #[x, .int .i64 0]) ∧ SliceIs w'' x (rootL [Q, P]) ∧ w'.grownBy w'' none) ∧ rootL [Q, P] = sumF (joinF 2 [[UInt8.ofNat B], rootL [Q], rootL [P]])) := fun hk B hb => by
    have hT := tree_two Q P hB hA hk
    exact ⟨RT [Q, P] hT, root_two Q P hT B (by rw [partK_comm]; exact hb)⟩
  have HDP : Hid (∀ (B : Nat), B < 145 → ∀ (w' : World) (x y : Value) (X Y : List UInt8), w.grownBy w' none → SliceIs w' x X → SliceIs w' y Y → X.length = 32 → Y.length = 32 → Calls Tryd.prog 8 #[.int .u8 2, .slice (some ⟨w'.heap.size + 1, 0, none⟩) 3 3] ((w'.alloc (.cells #[.int .u8 (B : Int)] 5)).alloc (.cells #[.slice (some ⟨w'.heap.size, 0, none⟩) 1 1, x, y] 22)) fun e w'' => ∃ z, e = .returned (.tuple #[z, .int .i64 0]) ∧ SliceIs w'' z (sumF (joinF 2 [[UInt8.ofNat B], X, Y])) ∧ w'.grownBy w'' none) := fun B hB w' x y X Y hg hx hy h1 h2 => forkParts w' B hB x y X Y hx hy h1 h2 (ht.grownNone hg)
  generalize rootL [P, Q] = RPQ at *
  generalize rootL [Q, P] = RQP at *
  generalize rootL [P] = RP at *
  generalize rootL [Q] = RQ at *
  generalize sumF [0] = S0 at *
  have HL1 : Hid (RP.length = 32) := rl1
  have HL2 : Hid (RQ.length = 32) := rl2
  clear RT hR hPt hA hB ht rl1 rl2
  go_enter Tryd.func3, Tryd.ntmps3
  go_upto_region 1 with fail
  rw [← HW0.out]
  go_cut [5] (fun sl wx => ∃ (pb : Nat) (xa : Option Addr) (xc : Nat) (ya : Option Addr) (yc : Nat), sl = .pointer (some ⟨pb, 0, none⟩) ∧ wx.heap[pb]? = some (.cells #[.slice xa P.1.length xc, .slice ya P.2.length yc] 27) ∧ SliceIs wx (.slice xa P.1.length xc) P.1 ∧ SliceIs wx (.slice ya P.2.length yc) P.2 ∧ W0.grownBy wx none)
  case first =>
    have hgd := grown_drew (grown_refl W0 none)
    have hga0 : W0.grownBy (W0.alloc (.cells #[.slice none 0 0, .slice none 0 0] 27)) none := grown_alloc (grown_refl W0 none) _
    have hga : W0.grownBy (W0.alloc (.cells #[.slice none 0 0, .slice none 0 0] 27)).drew none := grown_drew hga0
    have e1 := hgd.cell d1 (by simp)
    have e2 := hgd.cell d2 (by simp)
    have e3 := hga.cell d1 (by simp)
    have e4 := hga.cell d2 (by simp)
    go_region_held3 (fun w' => w'.cell? ⟨w.heap.size, 0, none⟩ = some (.slice ka p.1.length kc) ∧ w'.cell? ⟨w.heap.size, 1, none⟩ = some (.slice va p.2.length vc))
      (first | exact ⟨e1, e2⟩ | exact ⟨e3, e4⟩ | exact ⟨f1, f2⟩ | exact ⟨f3, f4⟩ | exact ⟨(World.grownBy_alloc _ _ none).cell f1 (by simp), (World.grownBy_alloc _ _ none).cell f2 (by simp)⟩ | exact ⟨(World.grownBy_alloc _ _ none).cell f3 (by simp), (World.grownBy_alloc _ _ none).cell f4 (by simp)⟩ | (refine ⟨?_, ?_⟩ <;> (rw [World.cell?_setCell_other _ _ _ _ (by intro e; injection e with e1 e2; omega), World.cell?_setCell_other _ _ _ _ (by intro e; injection e with e1 e2; omega)]; first | assumption | exact (World.grownBy_alloc _ _ none).cell f3 (by simp) | exact (World.grownBy_alloc _ _ none).cell f4 (by simp))))
      (first
        | (go_at_call 5; refine (KX.out _ ?_).mono ?_; first | exact grown_trans hgW hgd | exact grown_trans hgW hga
           rintro e w2 ⟨v2, rfl, ok, hg2⟩; obtain ⟨xa, xc, rfl⟩ := ok.shape
           have hgk : W0.grownBy w2 none := by first | exact grown_trans hgd hg2 | exact grown_trans hga hg2
           have f1 := hgk.cell d1 (by simp)
           have f2 := hgk.cell d2 (by simp)
           have z2 := hgk.size)
        | (go_at_call 6; refine (SX.out _ ?_).mono ?_; first | exact grown_trans hgW hgk | exact grown_trans hgW (grown_alloc hgk _)
           rintro e w3 ⟨v3, rfl, ov, hg3⟩; obtain ⟨ya, yc, rfl⟩ := ov.shape
           have hgs : W0.grownBy w3 none := by first | exact grown_trans hgk hg3 | exact grown_trans (grown_alloc hgk _) hg3
           have f3 := hgs.cell d1 (by simp)
           have f4 := hgs.cell d2 (by simp)
           have z3 := hgs.size
           first
             | (refine pair_room_elim (b := W0.heap.size) (grown_trans hg2 hg3) (heap_alloc_new W0 (.cells #[.slice none 0 0, .slice none 0 0] 27)) ?_; intro hpb0 cA cB fA fB; have HPB : Hid (w3.heap[W0.heap.size]? = some (.cells #[.slice none 0 0, .slice none 0 0] 27)) := hpb0; clear hpb0)
             | (refine pair_room_elim (b := w2.heap.size) hg3 (heap_alloc_new w2 (.cells #[.slice none 0 0, .slice none 0 0] 27)) ?_; intro hpb0 cA cB fA fB; have HPB : Hid (w3.heap[w2.heap.size]? = some (.cells #[.slice none 0 0, .slice none 0 0] 27)) := hpb0; clear hpb0)
             | skip))
    all_goals (go_wp2_with fail; go_meet; case rel =>
      first
        | exact ⟨w3.heap.size, xa, xc, ya, yc, rfl, heap_alloc_new w3 _, ((ok.grownNone hg3).alloc _).slice, (ov.alloc _).slice, grown_alloc hgs _⟩
        | exact ⟨W0.heap.size, xa, xc, ya, yc, rfl, (pair_stored (base := W0.heap.size) HPB.out (by omega) _ _).1, ((pair_stored (base := W0.heap.size) HPB.out (by omega) _ _).2.1 _ _ (ok.grownNone hg3).part).slice, ((pair_stored (base := W0.heap.size) HPB.out (by omega) _ _).2.1 _ _ ov.part).slice, (pair_stored (base := W0.heap.size) HPB.out (by omega) _ _).2.2 W0 (Nat.le_refl _) hgs⟩
        | exact ⟨w2.heap.size, xa, xc, ya, yc, rfl, (pair_stored (base := W0.heap.size) HPB.out (by omega) _ _).1, ((pair_stored (base := W0.heap.size) HPB.out (by omega) _ _).2.1 _ _ ((ok.alloc _).grownNone hg3).part).slice, ((pair_stored (base := W0.heap.size) HPB.out (by omega) _ _).2.1 _ _ ov.part).slice, (pair_stored (base := W0.heap.size) HPB.out (by omega) _ _).2.2 W0 z2 hgs⟩)
  case rest =>
    obtain ⟨pb, xa, xc, ya, yc, rfl, hpb, sA1, sA2, hgx⟩ := hcut
    obtain ⟨W2, hW2⟩ : ∃ W2 : World, W2 = wc := ⟨_, rfl⟩
    subst hW2
    have HPA : Hid (W2.heap[pb]? = some (.cells #[.slice xa P.1.length xc, .slice ya P.2.length yc] 27)) := hpb
    have SA1 : Hid (SliceIs W2 (.slice xa P.1.length xc) P.1) := sA1
    have SA2 : Hid (SliceIs W2 (.slice ya P.2.length yc) P.2) := sA2
    obtain ⟨d3, d4, _, _⟩ := pair_room hgx CY.out
    have hgw2 := grown_trans hgW hgx
    have hsz2 : w.heap.size + 2 ≤ W2.heap.size := by have := hgx.size; omega
    clear hpb sA1 sA2 hgx d1 d2 hsz0 KX SX CX CY
    go_upto_region 2 with fail
    go_cut [6] (fun sl wx => ∃ (pb : Nat) (xa : Option Addr) (xc : Nat) (ya : Option Addr) (yc : Nat), sl = .pointer (some ⟨pb, 0, none⟩) ∧ wx.heap[pb]? = some (.cells #[.slice xa Q.1.length xc, .slice ya Q.2.length yc] 27) ∧ SliceIs wx (.slice xa Q.1.length xc) Q.1 ∧ SliceIs wx (.slice ya Q.2.length yc) Q.2 ∧ W2.grownBy wx none)
    case first =>
      have hgd := grown_drew (grown_refl W2 none)
      have hga0 : W2.grownBy (W2.alloc (.cells #[.slice none 0 0, .slice none 0 0] 27)) none := grown_alloc (grown_refl W2 none) _
      have hga : W2.grownBy (W2.alloc (.cells #[.slice none 0 0, .slice none 0 0] 27)).drew none := grown_drew hga0
      have e1 := hgd.cell d3 (by simp)
      have e2 := hgd.cell d4 (by simp)
      have e3 := hga.cell d3 (by simp)
      have e4 := hga.cell d4 (by simp)
      go_region_held3 (fun w' => w'.cell? ⟨w.heap.size + 1, 0, none⟩ = some (.slice la q.1.length lc) ∧ w'.cell? ⟨w.heap.size + 1, 1, none⟩ = some (.slice ua q.2.length uc))
        (first | exact ⟨e1, e2⟩ | exact ⟨e3, e4⟩ | exact ⟨f1, f2⟩ | exact ⟨f3, f4⟩ | exact ⟨(World.grownBy_alloc _ _ none).cell f1 (by simp), (World.grownBy_alloc _ _ none).cell f2 (by simp)⟩ | exact ⟨(World.grownBy_alloc _ _ none).cell f3 (by simp), (World.grownBy_alloc _ _ none).cell f4 (by simp)⟩ | (refine ⟨?_, ?_⟩ <;> (rw [World.cell?_setCell_other _ _ _ _ (by intro e; injection e with e1 e2; omega), World.cell?_setCell_other _ _ _ _ (by intro e; injection e with e1 e2; omega)]; first | assumption | exact (World.grownBy_alloc _ _ none).cell f3 (by simp) | exact (World.grownBy_alloc _ _ none).cell f4 (by simp))))
        (first
          | (go_at_call 5; refine (KY.out _ ?_).mono ?_; first | exact grown_trans hgw2 hgd | exact grown_trans hgw2 hga
             rintro e w2 ⟨v2, rfl, ok, hg2⟩; obtain ⟨xa, xc, rfl⟩ := ok.shape
             have hgk : W2.grownBy w2 none := by first | exact grown_trans hgd hg2 | exact grown_trans hga hg2
             have f1 := hgk.cell d3 (by simp)
             have f2 := hgk.cell d4 (by simp)
             have z2 := hgk.size)
          | (go_at_call 6; refine (SY.out _ ?_).mono ?_; first | exact grown_trans hgw2 hgk | exact grown_trans hgw2 (grown_alloc hgk _)
             rintro e w3 ⟨v3, rfl, ov, hg3⟩; obtain ⟨ya, yc, rfl⟩ := ov.shape
             have hgs : W2.grownBy w3 none := by first | exact grown_trans hgk hg3 | exact grown_trans (grown_alloc hgk _) hg3
             have f3 := hgs.cell d3 (by simp)
             have f4 := hgs.cell d4 (by simp)
             have z3 := hgs.size
             first
               | (refine pair_room_elim (b := W2.heap.size) (grown_trans hg2 hg3) (heap_alloc_new W2 (.cells #[.slice none 0 0, .slice none 0 0] 27)) ?_; intro hpb0 cA cB fA fB; have HPB : Hid (w3.heap[W2.heap.size]? = some (.cells #[.slice none 0 0, .slice none 0 0] 27)) := hpb0; clear hpb0)
               | (refine pair_room_elim (b := w2.heap.size) hg3 (heap_alloc_new w2 (.cells #[.slice none 0 0, .slice none 0 0] 27)) ?_; intro hpb0 cA cB fA fB; have HPB : Hid (w3.heap[w2.heap.size]? = some (.cells #[.slice none 0 0, .slice none 0 0] 27)) := hpb0; clear hpb0)
               | skip))
      all_goals (go_wp2_with fail; go_meet; case rel =>
        first
          | exact ⟨w3.heap.size, xa, xc, ya, yc, rfl, heap_alloc_new w3 _, ((ok.grownNone hg3).alloc _).slice, (ov.alloc _).slice, grown_alloc hgs _⟩
          | exact ⟨W2.heap.size, xa, xc, ya, yc, rfl, (pair_stored (base := W2.heap.size) HPB.out (by omega) _ _).1, ((pair_stored (base := W2.heap.size) HPB.out (by omega) _ _).2.1 _ _ (ok.grownNone hg3).part).slice, ((pair_stored (base := W2.heap.size) HPB.out (by omega) _ _).2.1 _ _ ov.part).slice, (pair_stored (base := W2.heap.size) HPB.out (by omega) _ _).2.2 W2 (Nat.le_refl _) hgs⟩
          | exact ⟨w2.heap.size, xa, xc, ya, yc, rfl, (pair_stored (base := W2.heap.size) HPB.out (by omega) _ _).1, ((pair_stored (base := W2.heap.size) HPB.out (by omega) _ _).2.1 _ _ ((ok.alloc _).grownNone hg3).part).slice, ((pair_stored (base := W2.heap.size) HPB.out (by omega) _ _).2.1 _ _ ov.part).slice, (pair_stored (base := W2.heap.size) HPB.out (by omega) _ _).2.2 W2 z2 hgs⟩)
    case rest =>
      obtain ⟨qb, za, zc, ta, tc, rfl, hqb, sB1, sB2, hgy⟩ := hcut
      have hgw3 := grown_trans hgw2 hgy
      have HPA3 : Hid (wc.heap[pb]? = some (.cells #[.slice xa P.1.length xc, .slice ya P.2.length yc] 27)) := pair_old hgy HPA.out
      have HPB3 : Hid (wc.heap[qb]? = some (.cells #[.slice za Q.1.length zc, .slice ta Q.2.length tc] 27)) := hqb
      have SA13 : Hid (SliceIs wc (.slice xa P.1.length xc) P.1) := SA1.out.grown hgy
      have SA23 : Hid (SliceIs wc (.slice ya P.2.length yc) P.2) := SA2.out.grown hgy
      have SB13 : Hid (SliceIs wc (.slice za Q.1.length zc) Q.1) := sB1
      have SB23 : Hid (SliceIs wc (.slice ta Q.2.length tc) Q.2) := sB2
      clear hqb sB1 sB2 hgy d3 d4 hsz2 KY SY HPA SA1 SA2 hgw2 hgW
      obtain ⟨m1, m2, _, _⟩ := pair_room (grown_refl wc none) HPA3.out
      go_wp2_with fail
      refine (R1.out _ _ (grown_trans hgw3 (World.grownBy_alloc _ _ _)) (pairs_one wc _ _ _ P SA13.out SA23.out)).mono ?_
      rintro e w4 ⟨x4, rfl, h4, hg4⟩
      obtain ⟨a4, c4, rfl⟩ := h4.shape
      have hg34 := grown_trans (World.grownBy_alloc wc (.cells #[.slice xa P.1.length xc, .slice ya P.2.length yc] 27) none) hg4
      obtain ⟨n1, n2, _, _⟩ := pair_room hg34 HPB3.out
      clear m1 m2
      go_wp2_with fail
      refine (R2.out _ _ (grown_trans hgw3 (grown_trans hg34 (World.grownBy_alloc _ _ _))) (pairs_one w4 _ _ _ Q (SB13.out.grown hg34) (SB23.out.grown hg34))).mono ?_
      rintro e w5 ⟨x5, rfl, h5, hg5⟩
      obtain ⟨a5, c5, rfl⟩ := h5.shape
      have hg45 := grown_trans (World.grownBy_alloc w4 (.cells #[.slice za Q.1.length zc, .slice ta Q.2.length tc] 27) none) hg5
      have hg35 := grown_trans hg34 hg45
      obtain ⟨m3, m4, _, _⟩ := pair_room hg35 HPA3.out
      clear n1 n2
      go_wp2_with fail
      refine (DP1.out _ _ _ (grown_trans hgw3 hg35) (SA13.out.grown hg35) (SA23.out.grown hg35)).mono ?_
      rintro e w6 ⟨x6, rfl, h6, hg6⟩
      obtain ⟨a6, c6, rfl⟩ := h6.shape
      have hg36 := grown_trans hg35 hg6
      clear m3 m4
      go_wp2_with fail
      refine (R0.out _ _ (grown_trans hgw3 hg36) (pairsIs_nil _)).mono ?_
      rintro e w7 ⟨x7, rfl, h7, hg7⟩
      obtain ⟨a7, c7, rfl⟩ := h7.shape
      have hg37 := grown_trans hg36 hg7
      go_wp2_with fail
      refine (DP0.out _ (grown_trans hgw3 hg37)).mono ?_
      rintro e w8 ⟨x8, rfl, h8, hg8⟩
      obtain ⟨a8, c8, rfl⟩ := h8.shape
      have hg38 := grown_trans hg37 hg8
      have SM1 : Hid (Calls Tryd.prog 9 #[.slice a4 RP.length c4, .slice a6 RP.length c6] w8 fun e w' => e = .returned (.bool true) ∧ w' = w8) := by
        have := same_any w8 _ _ RP RP (h4.grown (grown_trans hg45 (grown_trans hg6 (grown_trans hg7 hg8)))) (h6.grown (grown_trans hg7 hg8))
        rw [decide_eq_true rfl] at this
        exact this
      have SM2 : Hid (Calls Tryd.prog 9 #[.slice a7 S0.length c7, .slice a8 S0.length c8] w8 fun e w' => e = .returned (.bool true) ∧ w' = w8) := by
        have := same_any w8 _ _ S0 S0 (h7.grown hg8) h8
        rw [decide_eq_true rfl] at this
        exact this
      have T4 : Hid (SliceIs w8 (.slice a4 RP.length c4) RP) := h4.grown (grown_trans hg45 (grown_trans hg6 (grown_trans hg7 hg8)))
      have T5 : Hid (SliceIs w8 (.slice a5 RQ.length c5) RQ) := h5.grown (grown_trans hg6 (grown_trans hg7 hg8))
      have K1 : Hid (SliceIs w8 (.slice xa P.1.length xc) P.1) := SA13.out.grown hg38
      have K2 : Hid (SliceIs w8 (.slice ya P.2.length yc) P.2) := SA23.out.grown hg38
      have K3 : Hid (SliceIs w8 (.slice za Q.1.length zc) Q.1) := SB13.out.grown hg38
      have K4 : Hid (SliceIs w8 (.slice ta Q.2.length tc) Q.2) := SB23.out.grown hg38
      have HPA8 : Hid (w8.heap[pb]? = some (.cells #[.slice xa P.1.length xc, .slice ya P.2.length yc] 27)) := pair_old hg38 HPA3.out
      have HPB8 : Hid (w8.heap[qb]? = some (.cells #[.slice za Q.1.length zc, .slice ta Q.2.length tc] 27)) := pair_old hg38 HPB3.out
      have hgw8 := grown_trans hgw3 hg38
      clear h4 h5 h6 h7 h8 hg4 hg5 hg6 hg7 hg8 hg34 hg45 hg35 hg36 hg37 hg38 hgw3 SA13 SA23 SB13 SB23 HPA3 HPB3 R0 R1 R2 DP0 DP1
      have hl1 : (RP.length : Int) = 32 := by have := HL1.out; omega
      obtain ⟨m5, m6, _, _⟩ := pair_room (grown_refl w8 none) HPA8.out
      obtain ⟨n5, n6, _, _⟩ := pair_room (grown_refl w8 none) HPB8.out
      go_wp2_with fail
      refine SM1.out.mono ?_
      rintro e w9 ⟨rfl, rfl⟩
      go_wp2_with fail
      refine SM2.out.mono ?_
      rintro e w9' ⟨rfl, rfl⟩
      go_wp2_with fail
      refine (PT.out _ _ _ K1.out K3.out).mono ?_
      rintro e w9 ⟨rfl, hg9⟩
      clear m5 m6 n5 n6 SM1 SM2
      have HBE : Hid (∀ B : Nat, partK P.1 Q.1 = (B : Int) → partK P.1 Q.1 = (B : Int)) := fun _ h => h
      generalize hbit : partK P.1 Q.1 = bit at *
      by_cases hneg : bit < 0
      · go_wp2
        go_ret
        exact ⟨rfl, grown_trans hgw8 hg9⟩
      · obtain ⟨B, hB⟩ : ∃ B : Nat, bit = (B : Int) := ⟨bit.toNat, by omega⟩
        subst hB
        have hB2 : B < 145 := by omega
        have hnn : ¬ (B : Int) < 0 := hneg
        clear hneg HBE hbit hrg
        obtain ⟨m7, m8, _, _⟩ := pair_room hg9 HPA8.out
        obtain ⟨n7, n8, _, _⟩ := pair_room hg9 HPB8.out
        have L1 : Hid (SliceIs w9 (.slice xa P.1.length xc) P.1) := K1.out.grown hg9
        have L2 : Hid (SliceIs w9 (.slice ya P.2.length yc) P.2) := K2.out.grown hg9
        have L3 : Hid (SliceIs w9 (.slice za Q.1.length zc) Q.1) := K3.out.grown hg9
        have L4 : Hid (SliceIs w9 (.slice ta Q.2.length tc) Q.2) := K4.out.grown hg9
        have hgw9 := grown_trans hgw8 hg9
        have hga : w9.grownBy (w9.alloc (.cells #[.slice xa P.1.length xc, .slice ya P.2.length yc, .slice za Q.1.length zc, .slice ta Q.2.length tc] 27)) none := World.grownBy_alloc _ _ _
        have cv1 := conv_bytes _ _ _ (L3.out.grown hga)
        have cv2 := conv_bytes _ _ _ (L1.out.grown hga)
        have m9 := hga.cell m7 (by simp)
        have m10 := hga.cell m8 (by simp)
        have n9 := hga.cell n7 (by simp)
        have n10 := hga.cell n8 (by simp)
        have hga2 : w9.grownBy ((w9.alloc (.cells #[.slice xa P.1.length xc, .slice ya P.2.length yc, .slice za Q.1.length zc, .slice ta Q.2.length tc] 27)).alloc (.cells #[.slice za Q.1.length zc, .slice ta Q.2.length tc, .slice xa P.1.length xc, .slice ya P.2.length yc] 27)) none := grown_alloc hga _
        cases hk : klt Q.1 P.1 with
        | true =>
          have e1 : Op.bytesLess (textOf Q.1).toList (textOf P.1).toList = true := by rw [textOf_list, textOf_list]; exact hk
          obtain ⟨r1, r2⟩ := HQP.out hk B rfl
          have RR : Hid (∀ w' v', w.grownBy w' none → PairsIs w' v' [Q, P] → Calls Tryd.prog 7 #[v'] w' fun e w'' => ∃ x, e = .returned (.tuple #[x, .int .i64 0]) ∧ SliceIs w'' x RQP ∧ w'.grownBy w'' none) := r1
          have HE : Hid (RQP = sumF (joinF 2 [[UInt8.ofNat B], RQ, RP])) := r2
          have PB : Hid (PairsIs ((w9.alloc (.cells #[.slice xa P.1.length xc, .slice ya P.2.length yc, .slice za Q.1.length zc, .slice ta Q.2.length tc] 27)).alloc (.cells #[.slice za Q.1.length zc, .slice ta Q.2.length tc, .slice xa P.1.length xc, .slice ya P.2.length yc] 27)) (.slice (some ⟨w9.heap.size + 1, 0, none⟩) 2 2) [Q, P]) := by
            have := pairs_two (w9.alloc (.cells #[.slice xa P.1.length xc, .slice ya P.2.length yc, .slice za Q.1.length zc, .slice ta Q.2.length tc] 27)) 27 _ _ _ _ Q P (L3.out.grown hga) (L4.out.grown hga) (L1.out.grown hga) (L2.out.grown hga)
            rw [World.size_alloc] at this
            exact this
          clear hk r1 r2 HPQ HQP
          go_wp2_with fail
          refine (RR.out _ _ (grown_trans hgw9 hga2) PB.out).mono ?_
          rintro e w10 ⟨x10, rfl, h10, hg10⟩
          obtain ⟨a10, c10, rfl⟩ := h10.shape
          have hg910 := grown_trans hga2 hg10
          clear m7 m8 n7 n8 m9 m10 n9 n10 cv1 cv2
          go_wp2_with fail
          refine (HDP.out B hB2 _ _ _ RQ RP (grown_trans hgw9 hg910) ((T5.out.grown hg9).grown hg910) ((T4.out.grown hg9).grown hg910) HL2.out HL1.out).mono ?_
          rintro e w11 ⟨x11, rfl, h11, hg11⟩
          rw [← HE.out] at h11
          obtain ⟨a11, c11, rfl⟩ := h11.shape
          have SM : Hid (Calls Tryd.prog 9 #[.slice a10 RQP.length c10, .slice a11 RQP.length c11] w11 fun e w' => e = .returned (.bool true) ∧ w' = w11) := by
            have := same_any w11 _ _ RQP RQP (h10.grown hg11) h11
            rw [decide_eq_true rfl] at this
            exact this
          clear h10 h11 HE
          go_wp2_with fail
          refine SM.out.mono ?_
          rintro e w12 ⟨rfl, rfl⟩
          go_wp2
          go_ret
          exact ⟨rfl, grown_trans hgw9 (grown_trans hg910 hg11)⟩
        | false =>
          have e1 : Op.bytesLess (textOf Q.1).toList (textOf P.1).toList = false := by rw [textOf_list, textOf_list]; exact hk
          obtain ⟨r1, r2⟩ := HPQ.out hk B rfl
          have RR : Hid (∀ w' v', w.grownBy w' none → PairsIs w' v' [P, Q] → Calls Tryd.prog 7 #[v'] w' fun e w'' => ∃ x, e = .returned (.tuple #[x, .int .i64 0]) ∧ SliceIs w'' x RPQ ∧ w'.grownBy w'' none) := r1
          have HE : Hid (RPQ = sumF (joinF 2 [[UInt8.ofNat B], RP, RQ])) := r2
          have PB : Hid (PairsIs (w9.alloc (.cells #[.slice xa P.1.length xc, .slice ya P.2.length yc, .slice za Q.1.length zc, .slice ta Q.2.length tc] 27)) (.slice (some ⟨w9.heap.size, 0, none⟩) 2 2) [P, Q]) := pairs_two w9 _ _ _ _ _ P Q L1.out L2.out L3.out L4.out
          clear hk r1 r2 HPQ HQP
          go_wp2_with fail
          refine (RR.out _ _ (grown_trans hgw9 hga) PB.out).mono ?_
          rintro e w10 ⟨x10, rfl, h10, hg10⟩
          obtain ⟨a10, c10, rfl⟩ := h10.shape
          have hg910 := grown_trans hga hg10
          clear m7 m8 n7 n8 m9 m10 n9 n10 cv1 cv2
          go_wp2_with fail
          refine (HDP.out B hB2 _ _ _ RP RQ (grown_trans hgw9 hg910) ((T4.out.grown hg9).grown hg910) ((T5.out.grown hg9).grown hg910) HL1.out HL2.out).mono ?_
          rintro e w11 ⟨x11, rfl, h11, hg11⟩
          rw [← HE.out] at h11
          obtain ⟨a11, c11, rfl⟩ := h11.shape
          have SM : Hid (Calls Tryd.prog 9 #[.slice a10 RPQ.length c10, .slice a11 RPQ.length c11] w11 fun e w' => e = .returned (.bool true) ∧ w' = w11) := by
            have := same_any w11 _ _ RPQ RPQ (h10.grown hg11) h11
            rw [decide_eq_true rfl] at this
            exact this
          clear h10 h11 HE
          go_wp2_with fail
          refine SM.out.mono ?_
          rintro e w12 ⟨rfl, rfl⟩
          go_wp2
          go_ret
          exact ⟨rfl, grown_trans hgw9 (grown_trans hg910 hg11)⟩
end Go.Proofs.YtdpoickggdgddacDoor
