/-
  The walk of canopykeep.PutTurns, over what the code must keep.
-/
import Derived.Test.YtdpoickggdgddabTCPut
import Derived.Test.YtdpoickggdgddabKMakeS
import Derived.Test.YtdpoickggdgddabKPure
import Derived.Test.YtdpoickggdgddabKPairs
import Derived.Test.YtdpoickggdgddabKeyO
import Derived.Deep.DrawnRows
namespace Go.Proofs.Ytdpoickggdgddab
open Go.RowKit
attribute [local go_sem ↓] Go.wp_at_zero Go.wp_at_succ
set_option maxRecDepth 100000 in
set_option maxHeartbeats 2000000 in
theorem putTurns_walk (hM : KMakeOK) (hP : TPutOK) (w : World) (v x y : Value) (l : PL) (p q : Pr) (hv : PairsIs w v l) (hx : PairIs w x p) (hy : PairIs w y q) (hl : Fits l) (hp1 : p.1.length ≤ maxLen) (hp2 : p.2.length ≤ maxLen) (hq1 : q.1.length ≤ maxLen) (hq2 : q.2.length ≤ maxLen) :
    Calls Try.prog 4 #[v, x, y] w fun e w' => e = .returned (.bool true) ∧ w.grownBy w' none := by
  have hT := mkT_tree l 30 (by omega)
  have hTl := mkT_len l 30 (by omega)
  have hA := itemP_ok p
  have hB := itemP_ok q
  obtain ⟨xk, xv, rfl, sx1, sx2⟩ := hx
  obtain ⟨yk, yv, rfl, sy1, sy2⟩ := hy
  obtain ⟨W0, hW0⟩ : ∃ W0 : World, W0 = (w.alloc (.cells #[xk, xv] 40)).alloc (.cells #[yk, yv] 40) := ⟨_, rfl⟩
  have hgW : w.grownBy W0 none := by rw [hW0]; exact grown_alloc (World.grownBy_alloc _ _ _) _
  have HW0 : Hid (W0 = (w.alloc (.cells #[xk, xv] 40)).alloc (.cells #[yk, yv] 40)) := hW0
  have CX : Hid (W0.heap[w.heap.size]? = some (.cells #[xk, xv] 40)) := by
    have := (World.grownBy_alloc (w.alloc (.cells #[xk, xv] 40)) (.cells #[yk, yv] 40) none).block w.heap.size (by simp) (by simp)
    rw [heap_alloc_new] at this
    rw [hW0]; exact this
  have CY : Hid (W0.heap[w.heap.size + 1]? = some (.cells #[yk, yv] 40)) := by
    have := heap_alloc_new (w.alloc (.cells #[xk, xv] 40)) (.cells #[yk, yv] 40)
    rw [World.size_alloc] at this
    rw [hW0]; exact this
  have HSZ : Hid (w.heap.size + 2 ≤ W0.heap.size) := by show _ ≤ _; rw [hW0]; simp
  have HM : Hid (Calls Try.prog 8 #[v, .int .i64 30] W0 fun e w' => ∃ v', e = .returned v' ∧ OwnP W0.heap.size w' v' (mkT (l.take 30)) ∧ W0.grownBy w' none) := hM W0 v l 30 (hv.grown hgW) hl (by omega)
  have KX : Hid (∀ w', w.grownBy w' none → Calls Try.prog 9 #[xk] w' fun e w'' => ∃ v', e = .returned v' ∧ Own w'.heap.size w'' v' (itemP p).1 ∧ w'.grownBy w'' none) := fun w' hg => keyO_any w' xk p.1 (sx1.grown hg) hp1
  have SX : Hid (∀ w', w.grownBy w' none → Calls Try.prog 11 #[xv, .int .i64 32] w' fun e w'' => ∃ v', e = .returned v' ∧ Own w'.heap.size w'' v' (itemP p).2 ∧ w'.grownBy w'' none) := fun w' hg => some_any w' xv p.2 32 (by omega) (sx2.grown hg) hp2
  have KY : Hid (∀ w', w.grownBy w' none → Calls Try.prog 9 #[yk] w' fun e w'' => ∃ v', e = .returned v' ∧ Own w'.heap.size w'' v' (itemP q).1 ∧ w'.grownBy w'' none) := fun w' hg => keyO_any w' yk q.1 (sy1.grown hg) hq1
  have SY : Hid (∀ w', w.grownBy w' none → Calls Try.prog 11 #[yv, .int .i64 32] w' fun e w'' => ∃ v', e = .returned v' ∧ Own w'.heap.size w'' v' (itemP q).2 ∧ w'.grownBy w'' none) := fun w' hg => some_any w' yv q.2 32 (by omega) (sy2.grown hg) hq2
  obtain ⟨ka, kc, rfl⟩ := sx1.shape
  obtain ⟨va, vc, rfl⟩ := sx2.shape
  obtain ⟨la, lc, rfl⟩ := sy1.shape
  obtain ⟨ua, uc, rfl⟩ := sy2.shape
  generalize mkT (l.take 30) = PS at *
  generalize itemP p = P at *
  generalize itemP q = Q at *
  clear hM hv sx1 sx2 sy1 sy2 hl hp1 hp2 hq1 hq2 hW0
  obtain ⟨p1, p2, p3⟩ := putE_ok PS P hT hA (by omega)
  have hl1 := put_len PS P
  obtain ⟨q1, q2, q3⟩ := putE_ok (putL PS P) Q p3 hB (by omega)
  obtain ⟨r1, r2, r3⟩ := putE_ok PS Q hT hB (by omega)
  have hl2 := put_len PS Q
  obtain ⟨s1, s2, s3⟩ := putE_ok (putL PS Q) P r3 hA (by omega)
  have HP1 : Hid (∀ w' v1 v2, PairsIs w' v1 PS → PairIs w' v2 P → Calls Try.prog 10 #[v1, v2] w' fun e w'' => ∃ y, e = .returned (.tuple #[y, .int .i64 0]) ∧ PairsIs w'' y (putL PS P) ∧ w'.grownBy w'' none) := fun w' v1 v2 h1 h2 => by
    have := hP w' v1 v2 PS P h1 h2 hT.fits (by omega) (by omega)
    rw [p1, p2] at this
    exact this
  have HP2 : Hid (∀ w' v1 v2, PairsIs w' v1 (putL PS P) → PairIs w' v2 Q → Calls Try.prog 10 #[v1, v2] w' fun e w'' => ∃ y, e = .returned (.tuple #[y, .int .i64 0]) ∧ PairsIs w'' y (putL (putL PS P) Q) ∧ w'.grownBy w'' none) := fun w' v1 v2 h1 h2 => by
    have := hP w' v1 v2 _ Q h1 h2 p3.fits (by omega) (by omega)
    rw [q1, q2] at this
    exact this
  have HP3 : Hid (∀ w' v1 v2, PairsIs w' v1 PS → PairIs w' v2 Q → Calls Try.prog 10 #[v1, v2] w' fun e w'' => ∃ y, e = .returned (.tuple #[y, .int .i64 0]) ∧ PairsIs w'' y (putL PS Q) ∧ w'.grownBy w'' none) := fun w' v1 v2 h1 h2 => by
    have := hP w' v1 v2 PS Q h1 h2 hT.fits (by omega) (by omega)
    rw [r1, r2] at this
    exact this
  have HP4 : Hid (∀ w' v1 v2, PairsIs w' v1 (putL PS Q) → PairIs w' v2 P → Calls Try.prog 10 #[v1, v2] w' fun e w'' => ∃ y, e = .returned (.tuple #[y, .int .i64 0]) ∧ PairsIs w'' y (putL (putL PS Q) P) ∧ w'.grownBy w'' none) := fun w' v1 v2 h1 h2 => by
    have := hP w' v1 v2 _ P h1 h2 r3.fits (by omega) (by omega)
    rw [s1, s2] at this
    exact this
  have hne := put_some (putL PS P) Q
  have hlen : 0 < (putL (putL PS P) Q).length := List.length_pos_iff.2 hne
  have hroom := q3.room
  have HSame : Hid (P.1 = Q.1 → putL (putL PS P) Q = putL PS Q) := fun h => put_same PS P Q hT.rises h
  have HTurn : Hid (¬ P.1 = Q.1 → putL (putL PS P) Q = putL (putL PS Q) P) := fun h => put_comm PS P Q hT.rises h
  generalize putL (putL PS P) Q = PQ at *
  generalize putL (putL PS Q) P = QP at *
  generalize putL PS P = NP at *
  generalize putL PS Q = NQ at *
  clear p1 p2 p3 q1 q2 q3 r1 r2 r3 s1 s2 s3 hT hP hA hB hTl hl1 hl2 hne
  go_enter Try.func4, Try.ntmps4
  go_wp2_with fail
  rw [← HW0.out]
  refine HM.out.mono ?_
  rintro e w1 ⟨v1, rfl, ho1, hg1⟩
  obtain ⟨a1, c1, rfl⟩ := ho1.shape
  have HL : Hid (PairsIs w1 (.slice a1 PS.length c1) PS) := ho1.list
  obtain ⟨d1, d2, _, _⟩ := pair_room hg1 CX.out
  have hgw1 := grown_trans hgW hg1
  clear ho1
  have hsz1 : w.heap.size + 2 ≤ w1.heap.size := by have := hg1.size; have := HSZ.out; omega
  go_upto_region 2 with fail
  go_cut [8] (fun sl wx => ∃ (pb : Nat) (xa : Option Addr) (xc : Nat) (ya : Option Addr) (yc : Nat), sl = .pointer (some ⟨pb, 0, none⟩) ∧ wx.heap[pb]? = some (.cells #[.slice xa P.1.length xc, .slice ya P.2.length yc] 32) ∧ SliceIs wx (.slice xa P.1.length xc) P.1 ∧ SliceIs wx (.slice ya P.2.length yc) P.2 ∧ w1.grownBy wx none)
  case first =>
    have hgd := grown_drew (grown_refl w1 none)
    have hga0 : w1.grownBy (w1.alloc (.cells #[.slice none 0 0, .slice none 0 0] 32)) none := grown_alloc (grown_refl w1 none) _
    have hga : w1.grownBy (w1.alloc (.cells #[.slice none 0 0, .slice none 0 0] 32)).drew none := grown_drew hga0
    have e1 := hgd.cell d1 (by simp)
    have e2 := hgd.cell d2 (by simp)
    have e3 := hga.cell d1 (by simp)
    have e4 := hga.cell d2 (by simp)
    go_region_held3 (fun w' => w'.cell? ⟨w.heap.size, 0, none⟩ = some (.slice ka p.1.length kc) ∧ w'.cell? ⟨w.heap.size, 1, none⟩ = some (.slice va p.2.length vc))
      (first | exact ⟨e1, e2⟩ | exact ⟨e3, e4⟩ | exact ⟨f1, f2⟩ | exact ⟨f3, f4⟩ | exact ⟨(World.grownBy_alloc _ _ none).cell f1 (by simp), (World.grownBy_alloc _ _ none).cell f2 (by simp)⟩ | exact ⟨(World.grownBy_alloc _ _ none).cell f3 (by simp), (World.grownBy_alloc _ _ none).cell f4 (by simp)⟩ | (refine ⟨?_, ?_⟩ <;> (rw [World.cell?_setCell_other _ _ _ _ (by intro e; injection e with e1 e2; omega), World.cell?_setCell_other _ _ _ _ (by intro e; injection e with e1 e2; omega)]; first | assumption | exact (World.grownBy_alloc _ _ none).cell f3 (by simp) | exact (World.grownBy_alloc _ _ none).cell f4 (by simp))))
      (first
        | (go_at_call 9; refine (KX.out _ ?_).mono ?_; first | exact grown_trans hgw1 hgd | exact grown_trans hgw1 hga
           rintro e w2 ⟨v2, rfl, ok, hg2⟩; obtain ⟨xa, xc, rfl⟩ := ok.shape
           have hgk : w1.grownBy w2 none := by first | exact grown_trans hgd hg2 | exact grown_trans hga hg2
           have f1 := hgk.cell d1 (by simp)
           have f2 := hgk.cell d2 (by simp)
           have z2 := hgk.size)
        | (go_at_call 11; refine (SX.out _ ?_).mono ?_; first | exact grown_trans hgw1 hgk | exact grown_trans hgw1 (grown_alloc hgk _)
           rintro e w3 ⟨v3, rfl, ov, hg3⟩; obtain ⟨ya, yc, rfl⟩ := ov.shape
           have hgs : w1.grownBy w3 none := by first | exact grown_trans hgk hg3 | exact grown_trans (grown_alloc hgk _) hg3
           have f3 := hgs.cell d1 (by simp)
           have f4 := hgs.cell d2 (by simp)
           have z3 := hgs.size
           first
             | (refine pair_room_elim (b := w1.heap.size) (grown_trans hg2 hg3) (heap_alloc_new w1 (.cells #[.slice none 0 0, .slice none 0 0] 32)) ?_; intro hpb0 cA cB fA fB; have HPB : Hid (w3.heap[w1.heap.size]? = some (.cells #[.slice none 0 0, .slice none 0 0] 32)) := hpb0; clear hpb0)
             | (refine pair_room_elim (b := w2.heap.size) hg3 (heap_alloc_new w2 (.cells #[.slice none 0 0, .slice none 0 0] 32)) ?_; intro hpb0 cA cB fA fB; have HPB : Hid (w3.heap[w2.heap.size]? = some (.cells #[.slice none 0 0, .slice none 0 0] 32)) := hpb0; clear hpb0)
             | skip))
    all_goals (go_wp2_with fail; go_meet; case rel =>
      first
        | exact ⟨w3.heap.size, xa, xc, ya, yc, rfl, heap_alloc_new w3 _, ((ok.grownNone hg3).alloc _).slice, (ov.alloc _).slice, grown_alloc hgs _⟩
        | exact ⟨w1.heap.size, xa, xc, ya, yc, rfl, (pair_stored (base := w1.heap.size) HPB.out (by omega) _ _).1, ((pair_stored (base := w1.heap.size) HPB.out (by omega) _ _).2.1 _ _ (ok.grownNone hg3).part).slice, ((pair_stored (base := w1.heap.size) HPB.out (by omega) _ _).2.1 _ _ ov.part).slice, (pair_stored (base := w1.heap.size) HPB.out (by omega) _ _).2.2 w1 (Nat.le_refl _) hgs⟩
        | exact ⟨w2.heap.size, xa, xc, ya, yc, rfl, (pair_stored (base := w1.heap.size) HPB.out (by omega) _ _).1, ((pair_stored (base := w1.heap.size) HPB.out (by omega) _ _).2.1 _ _ ((ok.alloc _).grownNone hg3).part).slice, ((pair_stored (base := w1.heap.size) HPB.out (by omega) _ _).2.1 _ _ ov.part).slice, (pair_stored (base := w1.heap.size) HPB.out (by omega) _ _).2.2 w1 z2 hgs⟩)
  case rest =>
    obtain ⟨pb, xa, xc, ya, yc, rfl, hpb, sA1, sA2, hgx⟩ := hcut
    obtain ⟨W2, hW2⟩ : ∃ W2 : World, W2 = wc := ⟨_, rfl⟩
    subst hW2
    have HPA : Hid (W2.heap[pb]? = some (.cells #[.slice xa P.1.length xc, .slice ya P.2.length yc] 32)) := hpb
    have SA1 : Hid (SliceIs W2 (.slice xa P.1.length xc) P.1) := sA1
    have SA2 : Hid (SliceIs W2 (.slice ya P.2.length yc) P.2) := sA2
    have HL2 : Hid (PairsIs W2 (.slice a1 PS.length c1) PS) := HL.out.grown hgx
    obtain ⟨d3, d4, _, _⟩ := pair_room (grown_trans hg1 hgx) CY.out
    have hgw2 := grown_trans hgw1 hgx
    have hsz2 : w.heap.size + 2 ≤ W2.heap.size := by have := hgx.size; omega
    clear hpb sA1 sA2 HL hgx hg1 d1 d2 hsz1 KX SX CX CY
    go_upto_region 3 with fail
    go_cut [9] (fun sl wx => ∃ (pb : Nat) (xa : Option Addr) (xc : Nat) (ya : Option Addr) (yc : Nat), sl = .pointer (some ⟨pb, 0, none⟩) ∧ wx.heap[pb]? = some (.cells #[.slice xa Q.1.length xc, .slice ya Q.2.length yc] 32) ∧ SliceIs wx (.slice xa Q.1.length xc) Q.1 ∧ SliceIs wx (.slice ya Q.2.length yc) Q.2 ∧ W2.grownBy wx none)
    case first =>
      have hgd := grown_drew (grown_refl W2 none)
      have hga0 : W2.grownBy (W2.alloc (.cells #[.slice none 0 0, .slice none 0 0] 32)) none := grown_alloc (grown_refl W2 none) _
      have hga : W2.grownBy (W2.alloc (.cells #[.slice none 0 0, .slice none 0 0] 32)).drew none := grown_drew hga0
      have e1 := hgd.cell d3 (by simp)
      have e2 := hgd.cell d4 (by simp)
      have e3 := hga.cell d3 (by simp)
      have e4 := hga.cell d4 (by simp)
      go_region_held3 (fun w' => w'.cell? ⟨w.heap.size + 1, 0, none⟩ = some (.slice la q.1.length lc) ∧ w'.cell? ⟨w.heap.size + 1, 1, none⟩ = some (.slice ua q.2.length uc))
        (first | exact ⟨e1, e2⟩ | exact ⟨e3, e4⟩ | exact ⟨f1, f2⟩ | exact ⟨f3, f4⟩ | exact ⟨(World.grownBy_alloc _ _ none).cell f1 (by simp), (World.grownBy_alloc _ _ none).cell f2 (by simp)⟩ | exact ⟨(World.grownBy_alloc _ _ none).cell f3 (by simp), (World.grownBy_alloc _ _ none).cell f4 (by simp)⟩ | (refine ⟨?_, ?_⟩ <;> (rw [World.cell?_setCell_other _ _ _ _ (by intro e; injection e with e1 e2; omega), World.cell?_setCell_other _ _ _ _ (by intro e; injection e with e1 e2; omega)]; first | assumption | exact (World.grownBy_alloc _ _ none).cell f3 (by simp) | exact (World.grownBy_alloc _ _ none).cell f4 (by simp))))
        (first
          | (go_at_call 9; refine (KY.out _ ?_).mono ?_; first | exact grown_trans hgw2 hgd | exact grown_trans hgw2 hga
             rintro e w2 ⟨v2, rfl, ok, hg2⟩; obtain ⟨xa, xc, rfl⟩ := ok.shape
             have hgk : W2.grownBy w2 none := by first | exact grown_trans hgd hg2 | exact grown_trans hga hg2
             have f1 := hgk.cell d3 (by simp)
             have f2 := hgk.cell d4 (by simp)
             have z2 := hgk.size)
          | (go_at_call 11; refine (SY.out _ ?_).mono ?_; first | exact grown_trans hgw2 hgk | exact grown_trans hgw2 (grown_alloc hgk _)
             rintro e w3 ⟨v3, rfl, ov, hg3⟩; obtain ⟨ya, yc, rfl⟩ := ov.shape
             have hgs : W2.grownBy w3 none := by first | exact grown_trans hgk hg3 | exact grown_trans (grown_alloc hgk _) hg3
             have f3 := hgs.cell d3 (by simp)
             have f4 := hgs.cell d4 (by simp)
             have z3 := hgs.size
             first
               | (refine pair_room_elim (b := W2.heap.size) (grown_trans hg2 hg3) (heap_alloc_new W2 (.cells #[.slice none 0 0, .slice none 0 0] 32)) ?_; intro hpb0 cA cB fA fB; have HPB : Hid (w3.heap[W2.heap.size]? = some (.cells #[.slice none 0 0, .slice none 0 0] 32)) := hpb0; clear hpb0)
               | (refine pair_room_elim (b := w2.heap.size) hg3 (heap_alloc_new w2 (.cells #[.slice none 0 0, .slice none 0 0] 32)) ?_; intro hpb0 cA cB fA fB; have HPB : Hid (w3.heap[w2.heap.size]? = some (.cells #[.slice none 0 0, .slice none 0 0] 32)) := hpb0; clear hpb0)
               | skip))
      all_goals (go_wp2_with fail; go_meet; case rel =>
        first
          | exact ⟨w3.heap.size, xa, xc, ya, yc, rfl, heap_alloc_new w3 _, ((ok.grownNone hg3).alloc _).slice, (ov.alloc _).slice, grown_alloc hgs _⟩
          | exact ⟨W2.heap.size, xa, xc, ya, yc, rfl, (pair_stored (base := W2.heap.size) HPB.out (by omega) _ _).1, ((pair_stored (base := W2.heap.size) HPB.out (by omega) _ _).2.1 _ _ (ok.grownNone hg3).part).slice, ((pair_stored (base := W2.heap.size) HPB.out (by omega) _ _).2.1 _ _ ov.part).slice, (pair_stored (base := W2.heap.size) HPB.out (by omega) _ _).2.2 W2 (Nat.le_refl _) hgs⟩
          | exact ⟨w2.heap.size, xa, xc, ya, yc, rfl, (pair_stored (base := W2.heap.size) HPB.out (by omega) _ _).1, ((pair_stored (base := W2.heap.size) HPB.out (by omega) _ _).2.1 _ _ ((ok.alloc _).grownNone hg3).part).slice, ((pair_stored (base := W2.heap.size) HPB.out (by omega) _ _).2.1 _ _ ov.part).slice, (pair_stored (base := W2.heap.size) HPB.out (by omega) _ _).2.2 W2 z2 hgs⟩)
    case rest =>
      obtain ⟨qb, za, zc, ta, tc, rfl, hqb, sB1, sB2, hgy⟩ := hcut
      have hgw3 := grown_trans hgw2 hgy
      have HPA3 : Hid (wc.heap[pb]? = some (.cells #[.slice xa P.1.length xc, .slice ya P.2.length yc] 32)) := pair_old hgy HPA.out
      have HPB3 : Hid (wc.heap[qb]? = some (.cells #[.slice za Q.1.length zc, .slice ta Q.2.length tc] 32)) := hqb
      have SA13 : Hid (SliceIs wc (.slice xa P.1.length xc) P.1) := SA1.out.grown hgy
      have SA23 : Hid (SliceIs wc (.slice ya P.2.length yc) P.2) := SA2.out.grown hgy
      have SB13 : Hid (SliceIs wc (.slice za Q.1.length zc) Q.1) := sB1
      have SB23 : Hid (SliceIs wc (.slice ta Q.2.length tc) Q.2) := sB2
      have HL3 : Hid (PairsIs wc (.slice a1 PS.length c1) PS) := HL2.out.grown hgy
      clear hqb sB1 sB2 HL2 hgy d3 d4 hsz2 KY SY HPA SA1 SA2 hgw1 hgw2
      obtain ⟨m1, m2, _, _⟩ := pair_room (grown_refl wc none) HPA3.out
      obtain ⟨n1, n2, _, _⟩ := pair_room (grown_refl wc none) HPB3.out
      go_wp2_with fail
      refine (HP1.out _ _ _ HL3.out ⟨_, _, rfl, SA13.out, SA23.out⟩).mono ?_
      rintro e w4 ⟨v4, rfl, h4, hg4⟩
      obtain ⟨a4, c4, rfl⟩ := h4.shape
      obtain ⟨n3, n4, _, _⟩ := pair_room hg4 HPB3.out
      clear m1 m2 n1 n2
      go_wp2_with fail
      refine (HP2.out _ _ _ h4 ⟨_, _, rfl, SB13.out.grown hg4, SB23.out.grown hg4⟩).mono ?_
      rintro e w5 ⟨v5, rfl, h5, hg5⟩
      obtain ⟨a5, c5, rfl⟩ := h5.shape
      have hg45 := grown_trans hg4 hg5
      obtain ⟨n5, n6, _, _⟩ := pair_room hg45 HPB3.out
      clear n3 n4 h4
      go_wp2_with fail
      refine (HP3.out _ _ _ (HL3.out.grown hg45) ⟨_, _, rfl, SB13.out.grown hg45, SB23.out.grown hg45⟩).mono ?_
      rintro e w6 ⟨v6, rfl, h6, hg6⟩
      obtain ⟨a6, c6, rfl⟩ := h6.shape
      have hg46 := grown_trans hg45 hg6
      obtain ⟨m3, m4, _, _⟩ := pair_room hg46 HPA3.out
      clear n5 n6
      go_wp2_with fail
      refine (HP4.out _ _ _ h6 ⟨_, _, rfl, SA13.out.grown hg46, SA23.out.grown hg46⟩).mono ?_
      rintro e w7 ⟨v7, rfl, h7, hg7⟩
      obtain ⟨a7, c7, rfl⟩ := h7.shape
      have hg47 := grown_trans hg46 hg7
      have hgw7 := grown_trans hgw3 hg47
      obtain ⟨m5, m6, _, _⟩ := pair_room hg47 HPA3.out
      obtain ⟨n7, n8, _, _⟩ := pair_room hg47 HPB3.out
      have T5 : Hid (PairsIs w7 (.slice a5 PQ.length c5) PQ) := h5.grown (grown_trans hg6 hg7)
      have T6 : Hid (PairsIs w7 (.slice a6 NQ.length c6) NQ) := h6.grown hg7
      have T7 : Hid (PairsIs w7 (.slice a7 QP.length c7) QP) := h7
      have SM : Hid (Calls Try.prog 13 #[.slice xa P.1.length xc, .slice za Q.1.length zc] w7 fun e w' => e = .returned (.bool (decide (P.1 = Q.1))) ∧ w' = w7) := same_any w7 _ _ _ _ (SA13.out.grown hg47) (SB13.out.grown hg47)
      have l0 : (0 : Int) < (PQ.length : Int) := by omega
      clear m3 m4 h5 h6 h7 hg4 hg5 hg6 hg7 hg45 hg46 HPA3 HPB3 SA13 SA23 SB13 SB23 HL3 HP1 HP2 HP3 HP4
      by_cases he : P.1 = Q.1
      · have SP : Hid (Calls Try.prog 15 #[.slice a5 PQ.length c5, .slice a6 NQ.length c6] w7 fun e w' => e = .returned (.bool true) ∧ w7.grownBy w' none) := by
          have := ksamePairs_any w7 _ _ PQ NQ T5.out T6.out (by omega)
          rw [decide_eq_true (HSame.out he)] at this
          exact this
        rw [decide_eq_true he] at SM
        clear he HSame HTurn
        go_wp2_with fail
        refine SM.out.mono ?_
        rintro e w8 ⟨rfl, rfl⟩
        go_wp2_with fail
        refine SP.out.mono ?_
        rintro e w9 ⟨rfl, hg9⟩
        go_wp2
        go_ret
        exact ⟨rfl, grown_trans hgw7 hg9⟩
      · have SP : Hid (Calls Try.prog 15 #[.slice a5 PQ.length c5, .slice a7 QP.length c7] w7 fun e w' => e = .returned (.bool true) ∧ w7.grownBy w' none) := by
          have := ksamePairs_any w7 _ _ PQ QP T5.out T7.out (by omega)
          rw [decide_eq_true (HTurn.out he)] at this
          exact this
        rw [decide_eq_false he] at SM
        clear he HSame HTurn
        go_wp2_with fail
        refine SM.out.mono ?_
        rintro e w8 ⟨rfl, rfl⟩
        go_wp2_with fail
        refine SP.out.mono ?_
        rintro e w9 ⟨rfl, hg9⟩
        go_wp2
        go_ret
        exact ⟨rfl, grown_trans hgw7 hg9⟩
end Go.Proofs.Ytdpoickggdgddab
