/-
  The walk of canopylaw.TapeAppends, over what the code must keep.
-/
import Derived.Test.YtkheombfjgjedaaDoorRTapeA
import Derived.Test.YtkheombfjgjedaaDoorPart4
import Derived.Test.YtkheombfjgjedaaDoorPart17
import Derived.Test.YtkheombfjgjedaaDoorLSameTp
import Derived.Deep.RegionHeld3
namespace Go.Proofs.YtkheombfjgjedaaDoor
open Go.RowKit
theorem hid_elimA {P G : Prop} (h : P) (k : Hid P → G) : G := k h
theorem two_setA {w : World} {b : Nat} {x y : Value} {t : TypeId} (h : w.heap[b]? = some (.cells #[x, y] t)) (u v : Value) : ((w.setCell ⟨b, 0, none⟩ u).setCell ⟨b, 1, none⟩ v).heap[b]? = some (.cells #[u, v] t) := set_self (set_self h)
theorem cell_twoA {w : World} {b c i : Nat} {v : Value} (h : w.cell? ⟨b, i, none⟩ = some v) (hne : b ≠ c) {x y : Value} : ((w.setCell ⟨c, 0, none⟩ x).setCell ⟨c, 1, none⟩ y).cell? ⟨b, i, none⟩ = some v := by
  rw [World.cell?_setCell_other _ _ _ _ (fun e => hne (congrArg Addr.block e).symm), World.cell?_setCell_other _ _ _ _ (fun e => hne (congrArg Addr.block e).symm)]
  exact h
set_option maxRecDepth 100000 in
set_option maxHeartbeats 2000000 in
theorem tapeAppends_walk (hE : TpAppOK) (w : World) (v u : Value) (t : Tap) (c : Cmt) (hv : TapeIs w v t) (hu : CommitIs w u c) (hl : FitsTp t) (hlc : FitsC c) (ht : Tabs w) :
    Calls Tryd.prog 3 #[v, u] w fun e w' => e = .returned (.bool true) ∧ w.grownBy w' none := by
  obtain ⟨a, cap, rfl⟩ := hv.agg
  obtain ⟨a2, cap2, rfl⟩ := hu.agg
  obtain ⟨U0, HU0, hgU, BU⟩ := alloc_named5 w (.cells #[.slice a t.data.length cap, .int .i64 t.synced] 24)
  obtain ⟨W0, HW0, hgA0, BC⟩ := alloc_named5 U0 (.cells #[.int .i64 c.turn, .slice a2 c.writes.length cap2] 27)
  have HW : Hid (W0 = (w.alloc (.cells #[.slice a t.data.length cap, .int .i64 t.synced] 24)).alloc (.cells #[.int .i64 c.turn, .slice a2 c.writes.length cap2] 27)) := by show _ = _; rw [HW0.out, HU0.out]
  have hsz : U0.heap.size = w.heap.size + 1 := by rw [HU0.out]; simp
  rw [hsz] at BC
  clear hsz
  have hg0 := grown_trans hgU hgA0
  have B0 : Hid (W0.heap[w.heap.size]? = some (.cells #[.slice a t.data.length cap, .int .i64 t.synced] 24)) := pair_old hgA0 BU.out
  have HV : Hid (TapeIs W0 (.agg #[.slice a t.data.length cap, .int .i64 t.synced]) t) := hv.grown hg0
  have HVC : Hid (CommitIs W0 (.agg #[.int .i64 c.turn, .slice a2 c.writes.length cap2]) c) := hu.grown hg0
  have TA : Hid (Calls Tryd.prog 4 #[.agg #[.slice a t.data.length cap, .int .i64 t.synced]] W0 fun e w' => ∃ x, e = .returned x ∧ TapeIs w' x t ∧ W0.grownBy w' none) := tapes_any W0 _ t HV.out hl.data
  have CM : Hid (∀ w', W0.grownBy w' none → Calls Tryd.prog 6 #[.agg #[.int .i64 c.turn, .slice a2 c.writes.length cap2]] w' fun e w'' => ∃ x, e = .returned x ∧ CommitIs w'' x c ∧ w'.grownBy w'' none) := fun w' hg => commit_any w' _ c (HVC.out.grown hg) hlc.writes
  have EN : Hid (∀ w' x y, w.grownBy w' none → TapeIs w' x t → CommitIs w' y c → Calls Tryd.prog 5 #[x, y] w' fun e w'' => ∃ ya yc, e = .returned (.tuple #[.agg #[.slice ya (appT fourF t c).data.length yc, .int .i64 (appT fourF t c).synced], .int .i64 (appE fourF t c)]) ∧ SliceIs w'' (.slice ya (appT fourF t c).data.length yc) (appT fourF t c).data ∧ w'.grownBy w'' none) := fun w' x y hg h1 h2 => (hE w' x y t c h1 h2 hl hlc (ht.grownNone hg)).mono (by
    rintro e w'' ⟨z, rfl, ⟨vd, rfl, h3⟩, hg3⟩
    obtain ⟨ya, yc, rfl⟩ := h3.shape
    exact ⟨ya, yc, rfl, h3, hg3⟩)
  have CB : Hid (∀ w' x y, TapeIs w' x t → CommitIs w' y c → Calls Tryd.prog 7 #[x, y] w' fun e w'' => ∃ z, e = .returned (.tuple #[z, .int .i64 (appE fourF t c)]) ∧ TapeIs w'' z (appT fourF t c) ∧ w'.grownBy w'' none) := fun w' x y h1 h2 => tapeAppended_any w' x y t c h1 h2 hlc.writes
  have ST : Hid (∀ (T' : Tap) w' x y, TapeIs w' x T' → TapeIs w' y T' → Calls Tryd.prog 8 #[x, y] w' fun e w'' => e = .returned (.bool true) ∧ w'.grownBy w'' none) := fun T' w' x y h1 h2 => sameTape_same w' x y T' h1 h2
  generalize appE fourF t c = E at *
  generalize appT fourF t c = R at *
  have hEE : (E == E) = true := by simp
  obtain ⟨c0, c1, _, _⟩ := pair_room (grown_refl W0 none) B0.out
  clear hv hu hl hlc hE ht HU0 HW0 hgU hgA0 BU
  go_enter Tryd.func3, Tryd.ntmps3
  go_upto_region 1 with fail
  rw [← HW.out]
  go_wp2_with fail
  refine TA.out.mono ?_
  rintro e w1 ⟨x1, rfl, h1, hg1⟩
  obtain ⟨xa, xc, rfl⟩ := h1.agg
  obtain ⟨W1, HW1, hgA1, B1⟩ := alloc_named5 w1 (.cells #[.slice xa t.data.length xc, .int .i64 t.synced] 24)
  have HX : Hid (TapeIs W1 (.agg #[.slice xa t.data.length xc, .int .i64 t.synced]) t) := h1.grown hgA1
  have hg01 := grown_trans hg1 hgA1
  clear h1 c0 c1
  obtain ⟨b0, b1, _, _⟩ := pair_room (grown_refl W1 none) B1.out
  obtain ⟨b2, b3, _, _⟩ := pair_room hg01 BC.out
  have hs1 : w1.heap.size < W1.heap.size := (Array.getElem?_eq_some_iff.1 B1.out).1
  have hs2 : w.heap.size + 1 < W1.heap.size := cell_lt b2
  generalize t.data.length = tl at *
  generalize t.synced = ts at *
  generalize c.turn = ct at *
  generalize c.writes.length = cl at *
  go_upto_region 2 with fail
  rw [← HW1.out]
  go_cut [6, 7] from 10 (fun s6 s7 wx => ∃ (nb : Nat) (ya : Option Addr) (yc : Nat), s6 = .pointer (some ⟨nb, 0, none⟩) ∧ s7 = .int .i64 E ∧ wx.heap[nb]? = some (.cells #[.slice ya R.data.length yc, .int .i64 R.synced] 24) ∧ SliceIs wx (.slice ya R.data.length yc) R.data ∧ W1.grownBy wx none)
  case first =>
    have hgd := grown_drew (grown_refl W1 none)
    obtain ⟨WA, hWA⟩ : ∃ WA : World, WA = W1.alloc (.cells #[.slice none 0 0, .int .i64 0] 24) := ⟨_, rfl⟩
    have hgA : W1.grownBy WA.drew none := by rw [hWA]; exact grown_drew (World.grownBy_alloc _ _ _)
    have HPA : Hid (WA.drew.heap[W1.heap.size]? = some (.cells #[.slice none 0 0, .int .i64 0] 24)) := by rw [hWA]; exact heap_alloc_new W1 _
    have HWA : Hid (WA = W1.alloc (.cells #[.slice none 0 0, .int .i64 0] 24)) := hWA
    clear hWA
    have hz1 : w1.heap.size ≠ W1.heap.size := by omega
    have hz2 : w.heap.size + 1 ≠ W1.heap.size := by omega
    have k0 := hgd.cell b0 (by simp)
    have k1 := hgd.cell b1 (by simp)
    have k2 := hgd.cell b2 (by simp)
    have k3 := hgd.cell b3 (by simp)
    have m0 := hgA.cell b0 (by simp)
    have m1 := hgA.cell b1 (by simp)
    have m2 := hgA.cell b2 (by simp)
    have m3 := hgA.cell b3 (by simp)
    go_region_held3 (fun w' => w'.cell? ⟨w1.heap.size, 0, none⟩ = some (.slice xa tl xc) ∧ w'.cell? ⟨w1.heap.size, 1, none⟩ = some (.int .i64 ts) ∧ w'.cell? ⟨w.heap.size + 1, 0, none⟩ = some (.int .i64 ct) ∧ w'.cell? ⟨w.heap.size + 1, 1, none⟩ = some (.slice a2 cl cap2))
      (first | with_reducible exact ⟨k0, k1, k2, k3⟩ | (rw [← HWA.out]; with_reducible exact ⟨m0, m1, m2, m3⟩) | with_reducible exact ⟨j0, j1, j2, j3⟩ | with_reducible exact ⟨f0, f1, f2, f3⟩ | with_reducible exact ⟨(World.grownBy_alloc _ _ none).cell j0 (by simp), (World.grownBy_alloc _ _ none).cell j1 (by simp), (World.grownBy_alloc _ _ none).cell j2 (by simp), (World.grownBy_alloc _ _ none).cell j3 (by simp)⟩ | with_reducible exact ⟨(World.grownBy_alloc _ _ none).cell f0 (by simp), (World.grownBy_alloc _ _ none).cell f1 (by simp), (World.grownBy_alloc _ _ none).cell f2 (by simp), (World.grownBy_alloc _ _ none).cell f3 (by simp)⟩ | with_reducible exact ⟨cell_twoA j0 hnz1, cell_twoA j1 hnz1, cell_twoA j2 hnz2, cell_twoA j3 hnz2⟩)
      (first
        | (go_at_call 6
           first
             | (rw [← HWA.out]; with_reducible refine (CM.out _ (grown_trans hg01 hgA)).mono ?_
                rintro e w2 ⟨x2, rfl, h2, hg2⟩
                have hgk : W1.grownBy w2 none := grown_trans hgA hg2
                have HB2 : Hid (w2.heap[W1.heap.size]? = some (.cells #[.slice none 0 0, .int .i64 0] 24)) := pair_old hg2 HPA.out)
             | (with_reducible refine (CM.out _ (grown_trans hg01 hgd)).mono ?_
                rintro e w2 ⟨x2, rfl, h2, hg2⟩
                have hgk : W1.grownBy w2 none := grown_trans hgd hg2)
           have f0 := hgk.cell b0 (by simp)
           have f1 := hgk.cell b1 (by simp)
           have f2 := hgk.cell b2 (by simp)
           have f3 := hgk.cell b3 (by simp)
           have z2 := hgk.size
           obtain ⟨qa, qc, rfl⟩ := h2.agg
           have HQ2 : Hid (CommitIs w2 (.agg #[.int .i64 c.turn, .slice qa c.writes.length qc]) c) := h2
           clear h2)
        | (go_at_call 5
           first
             | (with_reducible refine (EN.out _ _ _ (grown_trans hg0 (grown_trans hg01 hgk)) (HX.out.grown hgk) HQ2.out).mono ?_
                rintro e w3 ⟨ya, yc, rfl, h3, hg3⟩
                have hgm : W1.grownBy w3 none := grown_trans hgk hg3)
             | (with_reducible refine (EN.out _ _ _ (grown_trans hg0 (grown_trans hg01 (grown_alloc hgk _))) (HX.out.grown (grown_alloc hgk _)) (HQ2.out.grown (World.grownBy_alloc _ _ _))).mono ?_
                rintro e w3 ⟨ya, yc, rfl, h3, hg3⟩
                have hgm : W1.grownBy w3 none := grown_trans (grown_alloc hgk _) hg3)
           have j0 := hgm.cell b0 (by simp)
           have j1 := hgm.cell b1 (by simp)
           have j2 := hgm.cell b2 (by simp)
           have j3 := hgm.cell b3 (by simp)
           have z3 := hgm.size
           have HF3 : Hid (SliceIs w3 (.slice ya R.data.length yc) R.data) := h3
           clear h3
           first
             | (refine pair_room_elim (b := W1.heap.size) hg3 HB2.out ?_; intro hpb0 cA cB fA fB; have HPB : Hid (w3.heap[W1.heap.size]? = some (.cells #[.slice none 0 0, .int .i64 0] 24)) := hpb0; clear hpb0; have hnz1 := hz1; have hnz2 := hz2)
             | (refine pair_room_elim (b := w2.heap.size) hg3 (heap_alloc_new w2 (.cells #[.slice none 0 0, .int .i64 0] 24)) ?_; intro hpb0 cA cB fA fB; have HPB : Hid (w3.heap[w2.heap.size]? = some (.cells #[.slice none 0 0, .int .i64 0] 24)) := hpb0; clear hpb0; have hnz1 : w1.heap.size ≠ w2.heap.size := (by omega); have hnz2 : w.heap.size + 1 ≠ w2.heap.size := (by omega))
             | skip))
    all_goals (go_wp2_with fail; go_meet; case rel =>
      first
        | exact ⟨w3.heap.size, ya, yc, rfl, rfl, heap_alloc_new w3 _, HF3.out.alloc _, grown_alloc hgm _⟩
        | exact ⟨W1.heap.size, ya, yc, rfl, rfl, two_setA HPB.out _ _, HF3.out.setPair HPB.out (fun q => by simp) (fun q => by simp) _ _, grown_setNew (grown_setNew hgm _ (Nat.le_refl _) _ _) _ (Nat.le_refl _) _ _⟩
        | exact ⟨w2.heap.size, ya, yc, rfl, rfl, two_setA HPB.out _ _, HF3.out.setPair HPB.out (fun q => by simp) (fun q => by simp) _ _, grown_setNew (grown_setNew hgm _ z2 _ _) _ z2 _ _⟩)
  case rest =>
    obtain ⟨nb, ya, yc, rfl, rfl, hnb, hsx, hgx⟩ := hcut
    obtain ⟨W2, hW2⟩ : ∃ W2 : World, W2 = wc := ⟨_, rfl⟩
    subst hW2
    have HNB : Hid (W2.heap[nb]? = some (.cells #[.slice ya R.data.length yc, .int .i64 R.synced] 24)) := hnb
    have HY : Hid (TapeIs W2 (.agg #[.slice ya R.data.length yc, .int .i64 R.synced]) R) := ⟨_, rfl, hsx⟩
    have hg02 := grown_trans hg01 hgx
    clear hnb hsx b0 b1 b2 b3
    obtain ⟨c0, c1, _, _⟩ := pair_room hg02 B0.out
    obtain ⟨d0, d1, _, _⟩ := pair_room hg02 BC.out
    go_wp2_with fail
    refine (CB.out _ _ _ (HV.out.grown hg02) (HVC.out.grown hg02)).mono ?_
    rintro e w3 ⟨y3, rfl, h3, hg3⟩
    obtain ⟨za, zc, rfl⟩ := h3.agg
    obtain ⟨W3, HW3, hgA3, B3⟩ := alloc_named5 w3 (.cells #[.slice za R.data.length zc, .int .i64 R.synced] 24)
    have HZ : Hid (TapeIs W3 (.agg #[.slice za R.data.length zc, .int .i64 R.synced]) R) := h3.grown hgA3
    have hg23 := grown_trans hg3 hgA3
    have hg13 := grown_trans hgx hg23
    have hg03 := grown_trans hg02 hg23
    clear h3 c0 c1 d0 d1
    go_upto_region 4 with fail
    rw [← HW3.out]
    obtain ⟨e0, e1, _, _⟩ := pair_room hg23 HNB.out
    obtain ⟨f0, f1, _, _⟩ := pair_room (grown_refl W3 none) B3.out
    go_wp2_with fail
    refine (ST.out R _ _ _ (HY.out.grown hg23) HZ.out).mono ?_
    rintro e w4 ⟨rfl, hg4⟩
    clear e0 e1 f0 f1
    obtain ⟨c0, c1, _, _⟩ := pair_room (grown_trans hg03 hg4) B0.out
    obtain ⟨d0, d1, _, _⟩ := pair_room (grown_trans hg13 hg4) B1.out
    go_wp2_with fail
    refine (ST.out t _ _ _ (HX.out.grown (grown_trans hg13 hg4)) (HV.out.grown (grown_trans hg03 hg4))).mono ?_
    rintro e w5 ⟨rfl, hg5⟩
    go_wp2
    go_ret
    exact ⟨rfl, grown_trans hg0 (grown_trans hg03 (grown_trans hg4 hg5))⟩
end Go.Proofs.YtkheombfjgjedaaDoor
