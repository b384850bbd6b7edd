/-
  The walk of canopykeep.TapeKeeps, over what the code must keep.
-/
import Derived.Test.YtkheombfjgjedacDoorPart20
import Derived.Test.YtkheombfjgjedacDoorKBegins
import Derived.Test.YtkheombfjgjedacDoorPicked
import Derived.Test.YtkheombfjgjedacDoorPart4
namespace Go.Proofs.YtkheombfjgjedacDoor
open Go.RowKit
theorem sync_call (hS : TpSyncOK) (w : World) (x : Value) (t : Tap) (hx : TapeIs w x t) (hl : t.data.length ≤ 200000) (hs : 0 ≤ t.synced ∧ t.synced ≤ (t.data.length : Int)) :
    Calls Tryd.prog 11 #[x] w fun e w' => ∃ xa xc, e = .returned (.tuple #[.agg #[.slice xa t.data.length xc, .int .i64 (t.data.length : Int)], .int .i64 0]) ∧ SliceIs w' (.slice xa t.data.length xc) t.data ∧ w.grownBy w' none := by
  have hm : mayT t = true := (mayT_iff t).2 ⟨hl, hs⟩
  have h := hS w x t hx ⟨by omega, by omega⟩
  rw [show syncE t = 0 by rw [syncE, if_pos hm], show syncT t = ⟨t.data, (t.data.length : Int)⟩ by rw [syncT, if_pos hm]] at h
  refine h.mono ?_
  rintro e w' ⟨y, rfl, ⟨vd, rfl, h2⟩, hg⟩
  obtain ⟨xa, xc, rfl⟩ := h2.shape
  exact ⟨xa, xc, rfl, h2, hg⟩
set_option maxRecDepth 100000 in
set_option maxHeartbeats 4000000 in
theorem tapeKeeps_walk (hF : FApplyNewOK) (hA : TpAppOK) (hR : TpRecOK) (hC : TpCrashOK) (hS : TpSyncOK) (w : World) (v : Value) (l : List Plc) (at_ keep : Int) (hv : PlacesIs w v l) (hl : FitsQ l) (ha0 : -9223372036854775808 ≤ at_) (ha1 : at_ ≤ 9223372036854775807) (hn0 : -9223372036854775808 ≤ keep) (hn1 : keep ≤ 9223372036854775807) (ht : Tabs w) :
    Calls Tryd.prog 3 #[v, .int .i64 at_, .int .i64 keep] w fun e w' => e = .returned (.bool true) ∧ w.grownBy w' none := by
  obtain ⟨a, cap, rfl⟩ := hv.shape
  have KC : Hid (Calls Tryd.prog 8 #[.slice a l.length cap, .int .i64 16] w fun e w' => ∃ v', e = .returned v' ∧ ∃ cs, CommitsIs w' v' cs ∧ (∃ f, CmtsOf ((l.take 16).map writeF) ((l.take 16).map writeF).length cs f) ∧ w.grownBy w' none) := kcommits_any hF w _ l 16 hv hl (by omega)
  have PK1 : Hid (∀ w' (m : Nat), m ≤ 16 → Calls Tryd.prog 9 #[.int .i64 at_, .int .i64 ((m : Int) + 1)] w' fun e w'' => ∃ k : Nat, e = .returned (.int .i64 (k : Int)) ∧ (k : Int) < (m : Int) + 1 ∧ w'' = w') := fun w' m hm => picked_any at_ _ w' ha0 ha1 (by omega) (by omega)
  have PK2 : Hid (∀ w', Calls Tryd.prog 9 #[.int .i64 keep, .int .i64 300] w' fun e w'' => ∃ k : Nat, e = .returned (.int .i64 (k : Int)) ∧ (k : Int) < 300 ∧ w'' = w') := fun w' => picked_any keep 300 w' hn0 hn1 (by omega) (by omega)
  have HA : Hid TpAppOK := hA
  have HR : Hid TpRecOK := hR
  have HCr : Hid TpCrashOK := hC
  have HSy : Hid TpSyncOK := hS
  have HT : Hid (Tabs w) := ht
  clear hv hl hF hA hR hC hS ht
  go_enter Tryd.func3, Tryd.ntmps3
  go_wp2_with fail
  refine KC.out.mono ?_
  rintro e w1 ⟨v1, rfl, cs, h1, hco, hg1⟩
  obtain ⟨hi, hcl, hne, hfl, hws⟩ := cmts_facts (by omega) hco
  obtain ⟨ca, cc, rfl⟩ := h1.shape
  have HC1 : Hid (CommitsIs w1 (.slice ca cs.length cc) cs) := h1
  have hccap := h1.capC
  have HIT : Hid (InTurn 1 cs) := hi
  have HWS : Hid (∀ i, i < cs.length → (cs.getD i noCmt).writes.length ≤ 1000000) := hws
  have hdl : (flatT fourF cs).length ≤ 10000 := by omega
  clear h1 hco hws hi hne hfl
  go_wp2_with fail
  refine (PK1.out _ cs.length hcl).mono ?_
  rintro e w2 ⟨k, rfl, hk, rfl⟩
  have hkc : k ≤ cs.length := by omega
  obtain ⟨a1, p1, p2⟩ := cslice_hm ca cc cs k hkc hccap
  have p1w := p1 w2
  have hkl : (cs.take k).length = k := by simp; omega
  have TD : Hid (Calls Tryd.prog 10 #[.slice a1 k k] w2 fun e w' => ∃ xa xc, e = .returned (.tuple #[.agg #[.slice xa (flatT fourF (cs.take k)).length xc, .int .i64 0], .bool true]) ∧ SliceIs w' (.slice xa (flatT fourF (cs.take k)).length xc) (flatT fourF (cs.take k)) ∧ w2.grownBy w' none) := taped_call HA.out w2 _ (cs.take k) (p2 _ HC1.out) (HIT.out.take k) (by omega) (HT.out.grownNone hg1)
  have hle : ∀ i j, i ≤ j → (flatT fourF (cs.take i)).length ≤ (flatT fourF (cs.take j)).length := fun i j h => flatT_take_le fourF cs i j h
  have hd1 : (flatT fourF (cs.take k)).length ≤ (flatT fourF cs).length := by have := hle k cs.length hkc; rw [List.take_length] at this; exact this
  have SY : Hid (∀ w' x, TapeIs w' x ⟨flatT fourF (cs.take k), 0⟩ → Calls Tryd.prog 11 #[x] w' fun e w'' => ∃ xa xc, e = .returned (.tuple #[.agg #[.slice xa (flatT fourF (cs.take k)).length xc, .int .i64 ((flatT fourF (cs.take k)).length : Int)], .int .i64 0]) ∧ SliceIs w'' (.slice xa (flatT fourF (cs.take k)).length xc) (flatT fourF (cs.take k)) ∧ w'.grownBy w'' none) := fun w' x hx => sync_call HSy.out w' x ⟨flatT fourF (cs.take k), 0⟩ hx (by show (flatT fourF (cs.take k)).length ≤ _; omega) (by show (0 : Int) ≤ 0 ∧ (0 : Int) ≤ ((flatT fourF (cs.take k)).length : Int); omega)
  have AP : Hid (∀ w' m ta tc vs, k ≤ m → m < cs.length → w.grownBy w' none → SliceIs w' (.slice ta (flatT fourF (cs.take m)).length tc) (flatT fourF (cs.take m)) → WritesIs w' vs (cs.getD m noCmt).writes → Calls Tryd.prog 12 #[.agg #[.slice ta (flatT fourF (cs.take m)).length tc, .int .i64 ((flatT fourF (cs.take k)).length : Int)], .agg #[.int .i64 (cs.getD m noCmt).turn, vs]] w' fun e w'' => ∃ xa xc, e = .returned (.tuple #[.agg #[.slice xa (flatT fourF (cs.take (m + 1))).length xc, .int .i64 ((flatT fourF (cs.take k)).length : Int)], .int .i64 0]) ∧ SliceIs w'' (.slice xa (flatT fourF (cs.take (m + 1))).length xc) (flatT fourF (cs.take (m + 1))) ∧ w'.grownBy w'' none) := fun w' m ta tc vs hkm hm hg h1 h2 => by
    have hc := (HIT.out.at m hm).2
    have h3 := hle m cs.length (by omega)
    rw [List.take_length] at h3
    have h4 := hle k m hkm
    obtain ⟨e1, e2⟩ := app_next (D := fourF) fourF_len (t := ⟨flatT fourF (cs.take m), ((flatT fourF (cs.take k)).length : Int)⟩) hc (by show (0 : Int) ≤ ((flatT fourF (cs.take k)).length : Int) ∧ ((flatT fourF (cs.take k)).length : Int) ≤ ((flatT fourF (cs.take m)).length : Int); omega) (by show (flatT fourF (cs.take m)).length ≤ 190000; omega)
    rw [← flatT_next _ _ _ hm] at e2
    exact app_call HA.out w' _ _ ⟨flatT fourF (cs.take m), ((flatT fourF (cs.take k)).length : Int)⟩ ⟨flatT fourF (cs.take (m + 1)), ((flatT fourF (cs.take k)).length : Int)⟩ _ 0 ⟨_, rfl, h1⟩ ⟨_, rfl, h2⟩ (by show (flatT fourF (cs.take m)).length ≤ _; omega) (by show (0 : Int) ≤ ((flatT fourF (cs.take k)).length : Int) ∧ ((flatT fourF (cs.take k)).length : Int) ≤ 200000; omega) (commit_fits hc) (HT.out.grownNone hg) e1 e2
  have CR : Hid (∀ w' x (q : Nat), (q : Int) < 300 → TapeIs w' x ⟨flatT fourF cs, ((flatT fourF (cs.take k)).length : Int)⟩ → Calls Tryd.prog 13 #[x, .int .i64 (q : Int)] w' fun e w'' => ∃ xa xc, e = .returned (.tuple #[.agg #[.slice xa (crN ⟨flatT fourF cs, ((flatT fourF (cs.take k)).length : Int)⟩ q) xc, .int .i64 (crN ⟨flatT fourF cs, ((flatT fourF (cs.take k)).length : Int)⟩ q : Int)], .int .i64 0]) ∧ SliceIs w'' (.slice xa (crN ⟨flatT fourF cs, ((flatT fourF (cs.take k)).length : Int)⟩ q) xc) ((flatT fourF cs).take (crN ⟨flatT fourF cs, ((flatT fourF (cs.take k)).length : Int)⟩ q)) ∧ w'.grownBy w'' none) := fun w' x q hq hx => crash_call HCr.out w' x _ q hx (by show (flatT fourF cs).length ≤ _; omega) (by show (0 : Int) ≤ ((flatT fourF (cs.take k)).length : Int) ∧ ((flatT fourF (cs.take k)).length : Int) ≤ ((flatT fourF cs).length : Int); omega) (by omega)
  have HCN : Hid (∀ q, crN ⟨flatT fourF cs, ((flatT fourF (cs.take k)).length : Int)⟩ q ≤ (flatT fourF cs).length ∧ (flatT fourF (cs.take k)).length ≤ crN ⟨flatT fourF cs, ((flatT fourF (cs.take k)).length : Int)⟩ q) := fun q => by
    have := crN_le (t := ⟨flatT fourF cs, ((flatT fourF (cs.take k)).length : Int)⟩) (by show (0 : Int) ≤ ((flatT fourF (cs.take k)).length : Int) ∧ ((flatT fourF (cs.take k)).length : Int) ≤ ((flatT fourF cs).length : Int); omega) q
    exact ⟨this.1, by have := this.2; simp only at this; omega⟩
  have HKP : Hid (k = 0 ∨ 0 < (flatT fourF (cs.take k)).length) := by
    by_cases h0 : k = 0
    · exact .inl h0
    · refine .inr ?_
      have h1 := flatT_grows fourF cs (k - 1) (by omega)
      have h2 := frame_grows fourF_len (HIT.out.at (k - 1) (by omega)).2
      rw [show k - 1 + 1 = k by omega] at h1
      omega
  have HLE : Hid (∀ i j, i ≤ j → (flatT fourF (cs.take i)).length ≤ (flatT fourF (cs.take j)).length) := hle
  obtain ⟨S, hS⟩ : ∃ S : Nat, S = (flatT fourF (cs.take k)).length := ⟨_, rfl⟩
  have HS : Hid (S = (flatT fourF (cs.take k)).length) := hS
  have HD1 : Hid ((flatT fourF (cs.take cs.length)) = flatT fourF cs) := by show _ = _; rw [List.take_length]
  obtain ⟨DK, hDK⟩ : ∃ DK, DK = flatT fourF (cs.take k) := ⟨_, rfl⟩
  have HDK : Hid (DK = flatT fourF (cs.take k)) := hDK
  rw [← hS, ← hDK] at TD SY
  rw [← hS] at AP CR HCN HKP hd1
  clear hle hS hDK p1 p2 HCr HSy HA PK1
  go_wp2_with fail
  refine TD.out.mono ?_
  rintro e w3 ⟨ta, tc, rfl, h3, hg3⟩
  obtain ⟨W3, HW3, hgA3, B3⟩ := alloc_named7 w3 (.cells #[.slice ta S tc, .int .i64 0] 28)
  have HT3 : Hid (TapeIs W3 (.agg #[.slice ta S tc, .int .i64 0]) ⟨DK, 0⟩) := ⟨_, rfl, h3.grown hgA3⟩
  have hg13 := grown_trans hg3 hgA3
  have hz3 := hg3.size
  clear h3 TD p1w
  go_upto_region 4 with fail
  rw [← HW3.out]
  obtain ⟨c0, c1, _, _⟩ := pair_room (grown_refl W3 none) B3.out
  go_wp2_with fail
  refine (SY.out _ _ HT3.out).mono ?_
  rintro e w4 ⟨xa, xc, rfl, h4, hg4⟩
  clear c0 c1
  obtain ⟨c0, c1, c2, c3⟩ := pair_room hg4 B3.out
  have HB4 : Hid (w4.heap[w3.heap.size]? = some (.cells #[.slice ta S tc, .int .i64 0] 28)) := pair_old hg4 B3.out
  obtain ⟨W4, hW4⟩ : ∃ W4 : World, W4 = (w4.setCell ⟨w3.heap.size, 0, none⟩ (.slice xa S xc)).setCell ⟨w3.heap.size, 1, none⟩ (.int .i64 (S : Int)) := ⟨_, rfl⟩
  have HTB : Hid (W4.heap[w3.heap.size]? = some (.cells #[.slice xa S xc, .int .i64 (S : Int)] 28)) := by rw [hW4]; exact two_setT HB4.out _ _
  have HS4 : Hid (SliceIs W4 (.slice xa S xc) DK) := by rw [hW4]; exact h4.setPair HB4.out (fun q => by simp) (fun q => by simp) _ _
  have hg14 : w2.grownBy W4 none := by rw [hW4]; exact grown_setNew (grown_setNew (grown_trans hg13 hg4) _ hz3 _ _) _ hz3 _ _
  have HW4 : Hid (W4 = (w4.setCell ⟨w3.heap.size, 0, none⟩ (.slice xa S xc)).setCell ⟨w3.heap.size, 1, none⟩ (.int .i64 (S : Int))) := hW4
  clear hW4 h4
  go_upto_region 5 with fail
  rw [← HW4.out]
  clear c0 c1 c2 c3
  obtain ⟨c0, c1, _, _⟩ := two_room HTB.out
  go_wp2_with fail
  go_loopw [13] (fun iv wr => ∃ (m : Nat) (ta : Option Addr) (tc : Nat), k ≤ m ∧ m ≤ cs.length ∧ iv = .int .i64 (m : Int) ∧ wr.heap[w3.heap.size]? = some (.cells #[.slice ta (flatT fourF (cs.take m)).length tc, .int .i64 (S : Int)] 28) ∧ SliceIs wr (.slice ta (flatT fourF (cs.take m)).length tc) (flatT fourF (cs.take m)) ∧ w2.grownBy wr none) (fun iv _ => cs.length - (intOf iv).toNat)
  case atStart => exact ⟨k, xa, xc, Nat.le_refl _, hkc, rfl, by rw [← HS.out]; exact HTB.out, by rw [← HS.out, ← HDK.out]; exact HS4.out, hg14⟩
  case round =>
    obtain ⟨m, ta, tc, hkm, hm, rfl, htb, hsl, hg⟩ := hrel
    have HTBr : Hid (wr.heap[w3.heap.size]? = some (.cells #[.slice ta (flatT fourF (cs.take m)).length tc, .int .i64 (S : Int)] 28)) := htb
    have HSL : Hid (SliceIs wr (.slice ta (flatT fourF (cs.take m)).length tc) (flatT fourF (cs.take m))) := hsl
    clear htb hsl c0 c1
    obtain ⟨t0, t1, t2, t3⟩ := two_room HTBr.out
    have hlt1 : w3.heap.size < wr.heap.size := (Array.getElem?_eq_some_iff.1 HTBr.out).1
    by_cases hlt : m < cs.length
    · have i1 : (m : Int) < (cs.length : Int) := by omega
      obtain ⟨b, o, rfl, hat⟩ := HC1.out.at m hlt
      obtain ⟨vs, x1, x2, s1⟩ := hat.grown hg
      have hgd := grown_drew (grown_refl wr none)
      have AP1 : Hid (∀ w', wr.grownBy w' none → Calls Tryd.prog 12 #[.agg #[.slice ta (flatT fourF (cs.take m)).length tc, .int .i64 (S : Int)], .agg #[.int .i64 (cs.getD m noCmt).turn, vs]] w' fun e w'' => ∃ xa xc, e = .returned (.tuple #[.agg #[.slice xa (flatT fourF (cs.take (m + 1))).length xc, .int .i64 (S : Int)], .int .i64 0]) ∧ SliceIs w'' (.slice xa (flatT fourF (cs.take (m + 1))).length xc) (flatT fourF (cs.take (m + 1))) ∧ w'.grownBy w'' none) := fun w' h => AP.out w' m ta tc vs hkm hlt (grown_trans hg1 (grown_trans hg h)) (HSL.out.grown h) (s1.grown h)
      obtain ⟨va, vc, rfl⟩ := s1.shape
      obtain ⟨D2, hD2⟩ : ∃ D2, D2 = flatT fourF (cs.take (m + 1)) := ⟨_, rfl⟩
      have HD2 : Hid (D2 = flatT fourF (cs.take (m + 1))) := hD2
      rw [← hD2] at AP1
      generalize (flatT fourF (cs.take m)).length = n1 at *
      generalize (cs.getD m noCmt).turn = T at *
      generalize (cs.getD m noCmt).writes.length = vn at *
      have hz1 : w3.heap.size ≠ wr.heap.size := by omega
      have hz2 : b ≠ wr.heap.size := by have := cell_lt x1; omega
      clear hat s1 hD2 AP HSL
      go_upto_region 9 with fail
      go_cut [14, 15] from 44 to 61 (fun s6 s7 wx => ∃ (nb : Nat) (xa : Option Addr) (xc : Nat), s6 = .pointer (some ⟨nb, 0, none⟩) ∧ s7 = .int .i64 0 ∧ wx.heap[nb]? = some (.cells #[.slice xa D2.length xc, .int .i64 (S : Int)] 28) ∧ SliceIs wx (.slice xa D2.length xc) D2 ∧ wr.grownBy wx none)
      case first =>
        obtain ⟨WA, hWA⟩ : ∃ WA : World, WA = wr.alloc zeroTp := ⟨_, rfl⟩
        have hgA : wr.grownBy WA.drew none := by rw [hWA]; exact grown_drew (World.grownBy_alloc _ _ _)
        have HPA : Hid (WA.drew.heap[wr.heap.size]? = some zeroTp) := by rw [hWA]; exact heap_alloc_new wr _
        have HWA : Hid (WA = wr.alloc (.cells #[.slice none 0 0, .int .i64 0] 28)) := hWA
        clear hWA
        have c0 := hgd.cell t0 (by simp)
        have c1 := hgd.cell t1 (by simp)
        have c2 := hgd.cell x1 (by simp)
        have c3 := hgd.cell x2 (by simp)
        have m0 := hgA.cell t0 (by simp)
        have m1 := hgA.cell t1 (by simp)
        have m2 := hgA.cell x1 (by simp)
        have m3 := hgA.cell x2 (by simp)
        go_region_held3 (fun w' => w'.cell? ⟨w3.heap.size, 0, none⟩ = some (.slice ta n1 tc) ∧ w'.cell? ⟨w3.heap.size, 1, none⟩ = some (.int .i64 (S : Int)) ∧ w'.cell? ⟨b, o + m * 2, none⟩ = some (.int .i64 T) ∧ w'.cell? ⟨b, o + m * 2 + 1, none⟩ = some (.slice va vn vc))
          (first | with_reducible exact ⟨c0, c1, c2, c3⟩ | (rw [← HWA.out]; with_reducible exact ⟨m0, m1, m2, m3⟩) | with_reducible exact ⟨j0, j1, j2, j3⟩ | with_reducible exact ⟨(World.grownBy_alloc _ _ none).cell j0 (by simp), (World.grownBy_alloc _ _ none).cell j1 (by simp), (World.grownBy_alloc _ _ none).cell j2 (by simp), (World.grownBy_alloc _ _ none).cell j3 (by simp)⟩ | with_reducible exact ⟨cell_twoT j0 hz1, cell_twoT j1 hz1, cell_twoT j2 hz2, cell_twoT j3 hz2⟩)
          (first
            | (go_at_call 12
               first
                 | (rw [← HWA.out]; with_reducible refine (AP1.out _ hgA).mono ?_
                    rintro e w5 ⟨xa, xc, rfl, h5, hg5⟩
                    have hgm : wr.grownBy w5 none := grown_trans hgA hg5
                    refine pair_room_elim (b := wr.heap.size) hg5 HPA.out ?_
                    intro hpb0 cA cB fA fB
                    have HPB : Hid (w5.heap[wr.heap.size]? = some zeroTp) := hpb0
                    clear hpb0)
                 | (with_reducible refine (AP1.out _ hgd).mono ?_
                    rintro e w5 ⟨xa, xc, rfl, h5, hg5⟩
                    have hgm : wr.grownBy w5 none := grown_trans hgd hg5)
               have j0 := hgm.cell t0 (by simp)
               have j1 := hgm.cell t1 (by simp)
               have j2 := hgm.cell x1 (by simp)
               have j3 := hgm.cell x2 (by simp)
               have HF3 : Hid (SliceIs w5 (.slice xa D2.length xc) D2) := h5
               clear h5))
        all_goals (go_wp2_with fail; go_meet; case rel =>
          first
            | exact ⟨w5.heap.size, xa, xc, rfl, rfl, heap_alloc_new w5 _, HF3.out.alloc _, grown_alloc hgm _⟩
            | exact ⟨wr.heap.size, xa, xc, rfl, rfl, two_setT HPB.out _ _, HF3.out.setPair HPB.out (fun q => by simp) (fun q => by simp) _ _, grown_setNew (grown_setNew hgm _ (Nat.le_refl _) _ _) _ (Nat.le_refl _) _ _⟩)
      case rest =>
        obtain ⟨nb, xa, xc, rfl, rfl, hnb, hsx, hgx⟩ := hcut
        obtain ⟨y0, y1, _, _⟩ := two_room hnb
        clear t0 t1 t2 t3 x1 x2
        have htx := pair_old hgx HTBr.out
        obtain ⟨t0, t1, t2, t3⟩ := two_room htx
        have HTX : Hid (wc.heap[w3.heap.size]? = some (.cells #[.slice ta n1 tc, .int .i64 (S : Int)] 28)) := htx
        have HSX : Hid (SliceIs wc (.slice xa D2.length xc) D2) := hsx
        have hgw := grown_trans hg hgx
        clear hnb hsx htx
        go_wp2_with fail
        go_roundw
        case rel => exact ⟨m + 1, xa, xc, by omega, by omega, by go_num, by rw [← HD2.out]; exact two_setT HTX.out _ _, by rw [← HD2.out]; exact HSX.out.setPair HTX.out (fun q => by simp) (fun q => by simp) _ _, grown_setNew (grown_setNew hgw _ hz3 _ _) _ hz3 _ _⟩
        case measure => simp [intOf]; omega
    · have i1 : ¬ (m : Int) < (cs.length : Int) := by omega
      obtain rfl : m = cs.length := by omega
      rw [HD1.out] at HTBr HSL t0
      obtain ⟨D, hD⟩ : ∃ D, D = flatT fourF cs := ⟨_, rfl⟩
      have HD : Hid (D = flatT fourF cs) := hD
      rw [← hD] at HTBr HSL t0 CR HCN hd1 hdl
      have HTr : Hid (TapeIs wr (.agg #[.slice ta D.length tc, .int .i64 (S : Int)]) ⟨D, (S : Int)⟩) := ⟨_, rfl, HSL.out⟩
      clear hD AP HSL SY
      have hgd := grown_drew (grown_refl wr none)
      go_upto_region 13 with fail
      go_cut [16] from 20 (fun s16 wx => ∃ (n : Nat) (xa : Option Addr) (xc : Nat), s16 = .int .i64 0 ∧ n ≤ D.length ∧ S ≤ n ∧ wx.heap[w3.heap.size]? = some (.cells #[.slice xa n xc, .int .i64 (n : Int)] 28) ∧ SliceIs wx (.slice xa n xc) (D.take n) ∧ w2.grownBy wx none)
      case first =>
        go_region_with (first
          | (go_at_call 9; refine (PK2.out _).mono ?_; rintro e wp ⟨q, rfl, hq, rfl⟩)
          | (go_at_call 13; refine (CR.out _ _ q hq (HTr.out.grown hgd)).mono ?_; rintro e w5 ⟨xa, xc, rfl, h5, hg5⟩; have hgm := grown_trans hgd hg5; obtain ⟨s0, s1, s2, s3⟩ := pair_room hgm HTBr.out; have HB5 : Hid (w5.heap[w3.heap.size]? = some (.cells #[.slice ta D.length tc, .int .i64 (S : Int)] 28)) := pair_old hgm HTBr.out; have HX5 : Hid (SliceIs w5 (.slice xa (crN ⟨D, (S : Int)⟩ q) xc) (D.take (crN ⟨D, (S : Int)⟩ q))) := h5; clear h5))
        all_goals (go_wp2_with fail; go_meet; case rel => exact ⟨crN ⟨D, (S : Int)⟩ q, xa, xc, rfl, (HCN.out q).1, (HCN.out q).2, two_setT HB5.out _ _, HX5.out.setPair HB5.out (fun q => by simp) (fun q => by simp) _ _, grown_setNew (grown_setNew (grown_trans hg hgm) _ hz3 _ _) _ hz3 _ _⟩)
      case rest =>
        obtain ⟨n, xa, xc, rfl, hnD, hSn, htb, hsx, hgx⟩ := hcut
        have hg0x := grown_trans hg1 hgx
        obtain ⟨j, q1, q2, q3, q4, q5, q6⟩ := rec_crash (D := fourF) fourF_len HIT.out n (by rw [← HD.out]; exact hnD) (by rw [← HD.out]; omega)
        have hkj : k ≤ j := rec_torn_least hkc q3 (by rw [← HS.out]; exact hSn)
        have hSU : S ≤ (flatT fourF (cs.take j)).length := by have := HLE.out k j hkj; rw [← HS.out] at this; exact this
        rw [← HD.out] at q4 q5 q6
        have hjl : (cs.take j).length = j := by simp; omega
        have htd : ∀ i, i < j → (cs.take j).getD i noCmt = cs.getD i noCmt := fun i hi => by simp [List.getD_eq_getElem?_getD, hi]
        have R1 : Hid (∀ w' x, w.grownBy w' none → TapeIs w' x ⟨D.take n, (n : Int)⟩ → Calls Tryd.prog 14 #[x] w' fun e w'' => ∃ va vc xa xc, e = .returned (.tuple #[.slice va (cs.take j).length vc, .agg #[.slice xa (flatT fourF (cs.take j)).length xc, .int .i64 ((flatT fourF (cs.take j)).length : Int)], .int .i64 0]) ∧ CommitsIs w'' (.slice va (cs.take j).length vc) (cs.take j) ∧ SliceIs w'' (.slice xa (flatT fourF (cs.take j)).length xc) (flatT fourF (cs.take j)) ∧ w'.grownBy w'' none) := fun w' x hg hx => rec_call HR.out w' x _ ⟨flatT fourF (cs.take j), ((flatT fourF (cs.take j)).length : Int)⟩ (cs.take j) hx (by show (D.take n).length ≤ _; simp; omega) (by show (0 : Int) ≤ (n : Int) ∧ (n : Int) ≤ 200000; omega) (HT.out.grownNone hg) q4 q5 q6
        have BG : Hid (∀ w' x y, CommitsIs w' x (cs.take j) → CommitsIs w' y cs → Calls Tryd.prog 15 #[x, y] w' fun e w'' => e = .returned (.bool true) ∧ w'.grownBy w'' none) := fun w' x y h1 h2 => begins_same w' x y _ cs h1 h2 (by rw [hjl]; exact q1) (by omega) (fun i hi => htd i (by omega)) (fun i hi => by rw [htd i (by omega)]; exact HWS.out i (by omega))
        rw [hjl] at R1
        generalize flatT fourF (cs.take j) = U at *
        generalize cs.take j = gs at *
        have HTBx : Hid (wc.heap[w3.heap.size]? = some (.cells #[.slice xa n xc, .int .i64 (n : Int)] 28)) := htb
        have HTX : Hid (TapeIs wc (.agg #[.slice xa n xc, .int .i64 (n : Int)]) ⟨D.take n, (n : Int)⟩) := ⟨_, rfl, hsx⟩
        clear t0 t1 t2 t3 q1 q2 q3 q4 q5 q6 htd hjl HR HIT HD HWS CR HCN PK2 htb hsx HLE HS HDK HD1
        obtain ⟨t0, t1, _, _⟩ := two_room HTBx.out
        go_wp2_with fail
        refine (R1.out _ _ hg0x HTX.out).mono ?_
        rintro e w6 ⟨ga, gc, ua, uc, rfl, h6, h6s, hg6⟩
        obtain ⟨W6, HW6, hgA6, B6⟩ := alloc_named7 w6 (.cells #[.slice ua U.length uc, .int .i64 (U.length : Int)] 28)
        have hgx6 := grown_trans hg6 hgA6
        have HC6 : Hid (CommitsIs W6 (.slice ga j gc) gs) := h6.grown hgA6
        clear h6 h6s t0 t1
        go_upto_region 15 with fail
        rw [← HW6.out]
        have j1 : (j : Int) ≥ (k : Int) := by omega
        have j2 : (U.length : Int) ≥ (S : Int) := by omega
        have hUU : ((U.length : Int) == (U.length : Int)) = true := by simp
        rcases HKP.out with h0 | h0
        · subst h0
          go_wp2_with fail
          refine (BG.out _ _ _ HC6.out (HC1.out.grown (grown_trans hgx hgx6))).mono ?_
          rintro e w7 ⟨rfl, hg7⟩
          obtain ⟨d0, d1, _, _⟩ := pair_room hg7 B6.out
          go_wp2
          go_ret
          exact ⟨rfl, grown_trans hg0x (grown_trans hgx6 hg7)⟩
        · by_cases hk0 : k = 0
          · subst hk0
            go_wp2_with fail
            refine (BG.out _ _ _ HC6.out (HC1.out.grown (grown_trans hgx hgx6))).mono ?_
            rintro e w7 ⟨rfl, hg7⟩
            obtain ⟨d0, d1, _, _⟩ := pair_room hg7 B6.out
            go_wp2
            go_ret
            exact ⟨rfl, grown_trans hg0x (grown_trans hgx6 hg7)⟩
          · have i2 : (S : Int) > 0 := by omega
            have i3 : ¬ (k : Int) = 0 := by omega
            go_wp2_with fail
            refine (BG.out _ _ _ HC6.out (HC1.out.grown (grown_trans hgx hgx6))).mono ?_
            rintro e w7 ⟨rfl, hg7⟩
            obtain ⟨d0, d1, _, _⟩ := pair_room hg7 B6.out
            go_wp2
            go_ret
            exact ⟨rfl, grown_trans hg0x (grown_trans hgx6 hg7)⟩
end Go.Proofs.YtkheombfjgjedacDoor
