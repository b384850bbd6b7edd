/-
  The walk of canopykeep.taped.
-/
import Derived.Test.YtkheombfjgjedacDoorPart4
import Derived.Deep.RegionHeld3
import Derived.Deep.RegionWith
namespace Go.Proofs.YtkheombfjgjedacDoor
open Go.RowKit
theorem alloc_named7 (w : World) (o : Obj) : ∃ W : World, Hid (W = w.alloc o) ∧ w.grownBy W none ∧ Hid (W.heap[w.heap.size]? = some o) := ⟨w.alloc o, rfl, World.grownBy_alloc _ _ _, heap_alloc_new w o⟩
theorem two_setT {w : World} {b : Nat} {x y : Value} {t : TypeId} (h : w.heap[b]? = some (.cells #[x, y] t)) (u v : Value) : ((w.setCell ⟨b, 0, none⟩ u).setCell ⟨b, 1, none⟩ v).heap[b]? = some (.cells #[u, v] t) := set_self (set_self h)
theorem two_apart {w : World} {b c : Nat} {o : Obj} (h : w.heap[b]? = some o) (hne : b ≠ c) (u v : Value) : ((w.setCell ⟨c, 0, none⟩ u).setCell ⟨c, 1, none⟩ v).heap[b]? = some o := set_apart (set_apart h hne) hne
theorem two_room {w : World} {b : Nat} {x y : Value} {t : TypeId} (h : w.heap[b]? = some (.cells #[x, y] t)) : w.cell? ⟨b, 0, none⟩ = some x ∧ w.cell? ⟨b, 1, none⟩ = some y ∧ w.frozen? ⟨b, 0, none⟩ = false ∧ w.frozen? ⟨b, 1, none⟩ = false := by
  refine ⟨?_, ?_, ?_, ?_⟩ <;> simp [World.cell?, World.frozen?, h]
theorem cell_twoT {w : World} {b c i : Nat} {v : Value} (h : w.cell? ⟨b, i, none⟩ = some v) (hne : b ≠ c) {x y : Value} : ((w.setCell ⟨c, 0, none⟩ x).setCell ⟨c, 1, none⟩ y).cell? ⟨b, i, none⟩ = some v := by
  rw [World.cell?_setCell_other _ _ _ _ (fun e => hne (congrArg Addr.block e).symm), World.cell?_setCell_other _ _ _ _ (fun e => hne (congrArg Addr.block e).symm)]
  exact h
abbrev zeroTp : Obj := .cells #[.slice none 0 0, .int .i64 0] 28
set_option maxRecDepth 100000 in
set_option maxHeartbeats 2000000 in
theorem taped_any (hE : TpAppOK) (w : World) (v : Value) (cs : List Cmt) (hv : CommitsIs w v cs) (hi : InTurn 1 cs) (hl : cs.length ≤ 50) (ht : Tabs w) :
    Calls Tryd.prog 10 #[v] w fun e w' => ∃ x, e = .returned (.tuple #[x, .bool true]) ∧ TapeIs w' x ⟨flatT fourF cs, 0⟩ ∧ w.grownBy w' none := by
  obtain ⟨a, cap, rfl⟩ := hv.shape
  obtain ⟨U0, HU0, hgU, BU⟩ := alloc_named7 w zeroTp
  obtain ⟨W0, HW0, hgA, BA⟩ := alloc_named7 U0 zeroTp
  have HW : Hid (W0 = (w.alloc zeroTp).alloc zeroTp) := by show _ = _; rw [HW0.out, HU0.out]
  have hsz : U0.heap.size = w.heap.size + 1 := by rw [HU0.out]; simp
  rw [hsz] at BA
  clear hsz
  have hg0 := grown_trans hgU hgA
  have B0 : Hid (W0.heap[w.heap.size]? = some zeroTp) := pair_old hgA BU.out
  have AP : Hid (∀ w' m ta tc vs, m < cs.length → w.grownBy w' none → SliceIs w' (.slice ta (flatT fourF (cs.take m)).length tc) (flatT fourF (cs.take m)) → WritesIs w' vs (cs.getD m noCmt).writes → Calls Tryd.prog 12 #[.agg #[.slice ta (flatT fourF (cs.take m)).length tc, .int .i64 0], .agg #[.int .i64 (cs.getD m noCmt).turn, vs]] w' fun e w'' => ∃ xa xc, e = .returned (.tuple #[.agg #[.slice xa (flatT fourF (cs.take (m + 1))).length xc, .int .i64 0], .int .i64 0]) ∧ SliceIs w'' (.slice xa (flatT fourF (cs.take (m + 1))).length xc) (flatT fourF (cs.take (m + 1))) ∧ w'.grownBy w'' none) := fun w' m ta tc vs hm hg h1 h2 => by
    have hc := (hi.at m hm).2
    have hs := flatT_size fourF_len (hi.take m)
    have hs2 : (cs.take m).length ≤ 50 := by simp; omega
    obtain ⟨e1, e2⟩ := app_next (D := fourF) fourF_len (t := ⟨flatT fourF (cs.take m), 0⟩) hc ⟨by simp, by simp⟩ (by show (flatT fourF (cs.take m)).length ≤ 190000; omega)
    have h := hE w' _ _ ⟨flatT fourF (cs.take m), 0⟩ (cs.getD m noCmt) ⟨_, rfl, h1⟩ ⟨_, rfl, h2⟩ ⟨by show (flatT fourF (cs.take m)).length ≤ _; omega, by show -9223372036854775808 ≤ (0 : Int) ∧ (0 : Int) ≤ 9223372036854775807; omega⟩ (commit_fits hc) (ht.grownNone hg)
    rw [e1, e2] at h
    refine h.mono ?_
    rintro e w'' ⟨x, rfl, ⟨vd, rfl, hx⟩, hgx⟩
    have hx' : SliceIs w'' vd (flatT fourF (cs.take (m + 1))) := by rw [flatT_next _ _ _ hm]; exact hx
    obtain ⟨xa, xc, rfl⟩ := hx'.shape
    exact ⟨xa, xc, rfl, hx', hgx⟩
  have HGR : Hid (∀ m, m < cs.length → (flatT fourF (cs.take m)).length < (flatT fourF (cs.take (m + 1))).length ∧ (flatT fourF (cs.take (m + 1))).length ≤ 100000) := fun m hm => by
    have h1 := flatT_grows fourF cs m hm
    have h2 := frame_grows fourF_len (hi.at m hm).2
    have h3 := flatT_size fourF_len (hi.take (m + 1))
    have h4 : (cs.take (m + 1)).length ≤ 50 := by simp; omega
    omega
  have HCS : Hid (CommitsIs w (.slice a cs.length cap) cs) := hv
  obtain ⟨D, hD⟩ : ∃ D, D = flatT fourF cs := ⟨_, rfl⟩
  rw [← hD]
  have HDD : Hid (flatT fourF cs = D) := hD.symm
  clear hD
  clear hv hi ht hE HU0 HW0 hgU hgA BU
  go_enter Tryd.func10, Tryd.ntmps10
  go_upto_region 2 with fail
  rw [← HW.out]
  go_wp2_with fail
  go_loopw [5] (fun i wr => ∃ (m : Nat) (ta : Option Addr) (tc : Nat), m ≤ cs.length ∧ i = .int .i64 (m : Int) ∧ wr.heap[w.heap.size]? = some zeroTp ∧ wr.heap[w.heap.size + 1]? = some (.cells #[.slice ta (flatT fourF (cs.take m)).length tc, .int .i64 0] 28) ∧ SliceIs wr (.slice ta (flatT fourF (cs.take m)).length tc) (flatT fourF (cs.take m)) ∧ w.grownBy wr none) (fun i _ => cs.length - (intOf i).toNat)
  case atStart => exact ⟨0, none, 0, by omega, rfl, B0.out, BA.out, sliceIs_nil _, hg0⟩
  case round =>
    obtain ⟨m, ta, tc, hm, rfl, hrb, htb, hsl, hg⟩ := hrel
    have HRB : Hid (wr.heap[w.heap.size]? = some zeroTp) := hrb
    have HTB : Hid (wr.heap[w.heap.size + 1]? = some (.cells #[.slice ta (flatT fourF (cs.take m)).length tc, .int .i64 0] 28)) := htb
    have HSL : Hid (SliceIs wr (.slice ta (flatT fourF (cs.take m)).length tc) (flatT fourF (cs.take m))) := hsl
    clear hrb htb hsl
    obtain ⟨t0, t1, t2, t3⟩ := two_room HTB.out
    by_cases hlt : m < cs.length
    · have i1 : (m : Int) < (cs.length : Int) := by omega
      obtain ⟨b, o, rfl, hat⟩ := HCS.out.at m hlt
      obtain ⟨vs, x1, x2, s1⟩ := hat.grown hg
      obtain ⟨g1, g2⟩ := HGR.out m hlt
      have hgd := grown_drew (grown_refl wr none)
      have AP1 : Hid (∀ w', wr.grownBy w' none → Calls Tryd.prog 12 #[.agg #[.slice ta (flatT fourF (cs.take m)).length tc, .int .i64 0], .agg #[.int .i64 (cs.getD m noCmt).turn, vs]] w' fun e w'' => ∃ xa xc, e = .returned (.tuple #[.agg #[.slice xa (flatT fourF (cs.take (m + 1))).length xc, .int .i64 0], .int .i64 0]) ∧ SliceIs w'' (.slice xa (flatT fourF (cs.take (m + 1))).length xc) (flatT fourF (cs.take (m + 1))) ∧ w'.grownBy w'' none) := fun w' h => AP.out w' m ta tc vs hlt (grown_trans hg h) (HSL.out.grown h) (s1.grown h)
      obtain ⟨va, vc, rfl⟩ := s1.shape
      obtain ⟨D2, hD2⟩ : ∃ D2, D2 = flatT fourF (cs.take (m + 1)) := ⟨_, rfl⟩
      have HD2 : Hid (D2 = flatT fourF (cs.take (m + 1))) := hD2
      rw [← hD2] at AP1 g1 g2
      generalize (flatT fourF (cs.take m)).length = n1 at *
      generalize (cs.getD m noCmt).turn = T at *
      generalize (cs.getD m noCmt).writes.length = vn at *
      have hwz := hg.size
      have hlt1 : w.heap.size + 1 < wr.heap.size := (Array.getElem?_eq_some_iff.1 HTB.out).1
      have hz1 : w.heap.size + 1 ≠ wr.heap.size := by omega
      have hz2 : b ≠ wr.heap.size := by have := cell_lt x1; omega
      clear hat s1 hD2 AP HSL
      go_upto_region 5 with fail
      go_cut [6, 7] from 8 to 35 (fun s6 s7 wx => ∃ (nb : Nat) (xa : Option Addr) (xc : Nat), s6 = .pointer (some ⟨nb, 0, none⟩) ∧ s7 = .int .i64 0 ∧ wx.heap[nb]? = some (.cells #[.slice xa D2.length xc, .int .i64 0] 28) ∧ SliceIs wx (.slice xa D2.length xc) D2 ∧ wr.grownBy wx none)
      case first =>
        obtain ⟨WA, hWA⟩ : ∃ WA : World, WA = wr.alloc zeroTp := ⟨_, rfl⟩
        have hgA : wr.grownBy WA.drew none := by rw [hWA]; exact grown_drew (World.grownBy_alloc _ _ _)
        have HPA : Hid (WA.drew.heap[wr.heap.size]? = some zeroTp) := by rw [hWA]; exact heap_alloc_new wr _
        have HWA : Hid (WA = wr.alloc (.cells #[.slice none 0 0, .int .i64 0] 28)) := hWA
        clear hWA
        have c0 := hgd.cell t0 (by simp)
        have c1 := hgd.cell t1 (by simp)
        have c2 := hgd.cell x1 (by simp)
        have c3 := hgd.cell x2 (by simp)
        have m0 := hgA.cell t0 (by simp)
        have m1 := hgA.cell t1 (by simp)
        have m2 := hgA.cell x1 (by simp)
        have m3 := hgA.cell x2 (by simp)
        go_region_held3 (fun w' => w'.cell? ⟨w.heap.size + 1, 0, none⟩ = some (.slice ta n1 tc) ∧ w'.cell? ⟨w.heap.size + 1, 1, none⟩ = some (.int .i64 0) ∧ w'.cell? ⟨b, o + m * 2, none⟩ = some (.int .i64 T) ∧ w'.cell? ⟨b, o + m * 2 + 1, none⟩ = some (.slice va vn vc))
          (first | with_reducible exact ⟨c0, c1, c2, c3⟩ | (rw [← HWA.out]; with_reducible exact ⟨m0, m1, m2, m3⟩) | with_reducible exact ⟨j0, j1, j2, j3⟩ | with_reducible exact ⟨(World.grownBy_alloc _ _ none).cell j0 (by simp), (World.grownBy_alloc _ _ none).cell j1 (by simp), (World.grownBy_alloc _ _ none).cell j2 (by simp), (World.grownBy_alloc _ _ none).cell j3 (by simp)⟩ | with_reducible exact ⟨cell_twoT j0 hz1, cell_twoT j1 hz1, cell_twoT j2 hz2, cell_twoT j3 hz2⟩)
          (first
            | (go_at_call 12
               first
                 | (rw [← HWA.out]; with_reducible refine (AP1.out _ hgA).mono ?_
                    rintro e w3 ⟨xa, xc, rfl, h3, hg3⟩
                    have hgm : wr.grownBy w3 none := grown_trans hgA hg3
                    refine pair_room_elim (b := wr.heap.size) hg3 HPA.out ?_
                    intro hpb0 cA cB fA fB
                    have HPB : Hid (w3.heap[wr.heap.size]? = some zeroTp) := hpb0
                    clear hpb0)
                 | (with_reducible refine (AP1.out _ hgd).mono ?_
                    rintro e w3 ⟨xa, xc, rfl, h3, hg3⟩
                    have hgm : wr.grownBy w3 none := grown_trans hgd hg3)
               have j0 := hgm.cell t0 (by simp)
               have j1 := hgm.cell t1 (by simp)
               have j2 := hgm.cell x1 (by simp)
               have j3 := hgm.cell x2 (by simp)
               have HF3 : Hid (SliceIs w3 (.slice xa D2.length xc) D2) := h3
               clear h3))
        all_goals (go_wp2_with fail; go_meet; case rel =>
          first
            | exact ⟨w3.heap.size, xa, xc, rfl, rfl, heap_alloc_new w3 _, HF3.out.alloc _, grown_alloc hgm _⟩
            | exact ⟨wr.heap.size, xa, xc, rfl, rfl, two_setT HPB.out _ _, HF3.out.setPair HPB.out (fun q => by simp) (fun q => by simp) _ _, grown_setNew (grown_setNew hgm _ (Nat.le_refl _) _ _) _ (Nat.le_refl _) _ _⟩)
      case rest =>
        obtain ⟨nb, xa, xc, rfl, rfl, hnb, hsx, hgx⟩ := hcut
        obtain ⟨y0, y1, _, _⟩ := two_room hnb
        clear t0 t1 t2 t3 x1 x2
        have htx := pair_old hgx HTB.out
        obtain ⟨t0, t1, t2, t3⟩ := two_room htx
        have hrx := pair_old hgx HRB.out
        have j1 : ¬ (D2.length : Int) ≤ (n1 : Int) := by omega
        have HTX : Hid (wc.heap[w.heap.size + 1]? = some (.cells #[.slice ta n1 tc, .int .i64 0] 28)) := htx
        have HRX : Hid (wc.heap[w.heap.size]? = some zeroTp) := hrx
        have HSX : Hid (SliceIs wc (.slice xa D2.length xc) D2) := hsx
        have hgw := grown_trans hg hgx
        clear hnb hsx htx hrx
        go_wp2_with fail
        go_roundw
        case rel => exact ⟨m + 1, xa, xc, by omega, by go_num, two_apart HRX.out (by omega) _ _, by rw [← HD2.out]; exact two_setT HTX.out _ _, by rw [← HD2.out]; exact HSX.out.setPair HTX.out (fun q => by simp) (fun q => by simp) _ _, grown_setNew (grown_setNew hgw _ (by omega) _ _) _ (by omega) _ _⟩
        case measure => simp [intOf]; omega
    · have i1 : ¬ (m : Int) < (cs.length : Int) := by omega
      obtain ⟨r0, r1, r2, r3⟩ := two_room HRB.out
      have e : cs.take m = cs := List.take_of_length_le (by omega)
      rw [e, HDD.out] at HTB HSL t0
      obtain ⟨z0, z1⟩ := pair_set (grown_refl wr none) HRB.out (.slice ta D.length tc) (.int .i64 0)
      clear e AP HGR HDD
      go_wp2
      refine bodyPost_ret (v := .tuple #[.agg #[.slice ta D.length tc, .int .i64 0], .bool true]) (by simp [results, Tryd.results10, go_sem, z0, z1]) rfl ?_
      exact ⟨_, rfl, ⟨_, rfl, HSL.out.setPair HRB.out (fun q => by simp) (fun q => by simp) _ _⟩, grown_setNew (grown_setNew hg _ (by omega) _ _) _ (by omega) _ _⟩
end Go.Proofs.YtkheombfjgjedacDoor
