/-
  history.Changes, as it landed, keeps P7.5.
-/
import Derived.Test.YtljdconhplgipabPart9
import Derived.Test.YtljdconhplgipabPart5
import Derived.Test.YtljdconhplgipabBehP
import Derived.Test.YtljdconhplgipabSpotP
import Derived.Test.YtljdconhplgipabFGetP
import Derived.Test.YtljdconhplgipabEqB
import Derived.Deep.RegionWith
namespace Go.Proofs.Ytljdconhplgipab
open Go.RowKit
theorem ints_two (w : World) (s t : Int) (h0 : -9223372036854775808 ≤ s) (h1 : s ≤ 9223372036854775807) (h2 : -9223372036854775808 ≤ t) (h3 : t ≤ 9223372036854775807) (ty : TypeId) : IntsIs (w.alloc (.cells #[.int .i64 s, .int .i64 t] ty)) (.slice (some ⟨w.heap.size, 0, none⟩) 2 2) [s, t] := by
  refine ⟨_, 2, rfl, Nat.le_refl _, .inr ⟨_, 0, rfl, fun i hi => ?_⟩⟩
  match i, hi with
  | 0, _ => exact ⟨by simp, h0, h1⟩
  | 1, _ => exact ⟨by simp, h2, h3⟩
theorem cell_ltC {w : World} {b o : Nat} {v : Value} (h : w.cell? ⟨b, o, none⟩ = some v) : b < w.heap.size := by
  rcases Nat.lt_or_ge b w.heap.size with h' | h'
  · exact h'
  · simp [World.cell?, Array.getElem?_eq_none h'] at h
theorem cell_duoC {w : World} {b o c : Nat} {x u v : Value} (h : w.cell? ⟨b, o, none⟩ = some x) (hne : b ≠ c) : ((w.setCell ⟨c, 0, none⟩ u).setCell ⟨c, 1, none⟩ v).cell? ⟨b, o, none⟩ = some x := by
  simp only [World.setCell, World.cell?, Array.getElem?_modify] at *
  rw [if_neg (fun e => hne e.symm), if_neg (fun e => hne e.symm)]; exact h
theorem two_setC {w : World} {b : Nat} {x y : Value} {t : TypeId} (h : w.heap[b]? = some (.cells #[x, y] t)) (u v : Value) : ((w.setCell ⟨b, 0, none⟩ u).setCell ⟨b, 1, none⟩ v).heap[b]? = some (.cells #[u, v] t) := set_self (set_self h)
theorem OwnW.setBox {base : Nat} {w : World} {v : Value} {l : List Plc} (h : OwnW base w v l) {b : Nat} {cs : Array Value} {t : TypeId} {fz : Nat × Nat} (hne : v.ownBlock ≠ some b) (hb : w.heap[b]? = some (.cells cs t fz)) (ht : t ≠ 5) (hbb : base ≤ b) (i : Nat) (u : Value) : OwnW base (w.setCell ⟨b, i, none⟩ u) v l :=
  OwnV.kept (rb := base) (pb := base) h (set_grown w b i u) (.inr hne) (.inr ⟨b, cs, t, fz, rfl, hbb, hb, ht⟩)
/-- Two fields of a write in its own box are set, in either order. -/
theorem box_set1 {RB : Nat} {w2 w : World} {XB : Nat} {n k g x u v : Value} {o pn pk pv : Value} {X : List Plc} {an ak av : List UInt8} (hb : w.heap[XB]? = some (.cells #[n, k, g, x] 35)) (hRX : RB ≤ XB) (hwX : w2.heap.size ≤ XB) (hne : o.ownBlock ≠ some XB) (ho : OwnW RB w o X) (h1 : PartIs RB w pn an) (h2 : PartIs RB w pk ak) (h3 : PartIs RB w pv av) (hg : w2.grownBy w none) :
    ((w.setCell ⟨XB, 2, none⟩ u).setCell ⟨XB, 3, none⟩ v).heap[XB]? = some (.cells #[n, k, u, v] 35) ∧ OwnW RB ((w.setCell ⟨XB, 2, none⟩ u).setCell ⟨XB, 3, none⟩ v) o X ∧ PartIs RB ((w.setCell ⟨XB, 2, none⟩ u).setCell ⟨XB, 3, none⟩ v) pn an ∧ PartIs RB ((w.setCell ⟨XB, 2, none⟩ u).setCell ⟨XB, 3, none⟩ v) pk ak ∧ PartIs RB ((w.setCell ⟨XB, 2, none⟩ u).setCell ⟨XB, 3, none⟩ v) pv av ∧ w2.grownBy ((w.setCell ⟨XB, 2, none⟩ u).setCell ⟨XB, 3, none⟩ v) none := by
  have hb2 : (w.setCell ⟨XB, 2, none⟩ u).heap[XB]? = some (.cells #[n, k, u, x] 35) := set_self hb
  exact ⟨set_self hb2, (ho.setBox hne hb wrT5 hRX 2 u).setBox hne hb2 wrT5 hRX 3 v, (h1.setOther hb wrT5 hRX u).setOther hb2 wrT5 hRX v, (h2.setOther hb wrT5 hRX u).setOther hb2 wrT5 hRX v, (h3.setOther hb wrT5 hRX u).setOther hb2 wrT5 hRX v, grown_setNew (grown_setNew hg _ hwX _ _) _ hwX _ _⟩
theorem box_set2 {RB : Nat} {w2 w : World} {XB : Nat} {n k g x u v : Value} {o pn pk pv : Value} {X : List Plc} {an ak av : List UInt8} (hb : w.heap[XB]? = some (.cells #[n, k, g, x] 35)) (hRX : RB ≤ XB) (hwX : w2.heap.size ≤ XB) (hne : o.ownBlock ≠ some XB) (ho : OwnW RB w o X) (h1 : PartIs RB w pn an) (h2 : PartIs RB w pk ak) (h3 : PartIs RB w pv av) (hg : w2.grownBy w none) :
    ((w.setCell ⟨XB, 3, none⟩ v).setCell ⟨XB, 2, none⟩ u).heap[XB]? = some (.cells #[n, k, u, v] 35) ∧ OwnW RB ((w.setCell ⟨XB, 3, none⟩ v).setCell ⟨XB, 2, none⟩ u) o X ∧ PartIs RB ((w.setCell ⟨XB, 3, none⟩ v).setCell ⟨XB, 2, none⟩ u) pn an ∧ PartIs RB ((w.setCell ⟨XB, 3, none⟩ v).setCell ⟨XB, 2, none⟩ u) pk ak ∧ PartIs RB ((w.setCell ⟨XB, 3, none⟩ v).setCell ⟨XB, 2, none⟩ u) pv av ∧ w2.grownBy ((w.setCell ⟨XB, 3, none⟩ v).setCell ⟨XB, 2, none⟩ u) none := by
  have hb2 : (w.setCell ⟨XB, 3, none⟩ v).heap[XB]? = some (.cells #[n, k, g, v] 35) := set_self hb
  exact ⟨set_self hb2, (ho.setBox hne hb wrT5 hRX 3 v).setBox hne hb2 wrT5 hRX 2 u, (h1.setOther hb wrT5 hRX v).setOther hb2 wrT5 hRX u, (h2.setOther hb wrT5 hRX v).setOther hb2 wrT5 hRX u, (h3.setOther hb wrT5 hRX v).setOther hb2 wrT5 hRX u, grown_setNew (grown_setNew hg _ hwX _ _) _ hwX _ _⟩
set_option maxRecDepth 100000 in
set_option maxHeartbeats 4000000 in
theorem hschg_ok : HsChgOK := by
  intro w v l i j hv hl hi0 hi1 hj0 hj1
  obtain ⟨a, cap, rfl⟩ := hv.shape
  obtain ⟨W0, HW0, hg0, _⟩ := alloc_namedT w (.cells #[.int .i64 i, .int .i64 j] 3)
  have BE : Hid (Calls Try.prog 16 #[.slice a l.length cap, .slice (some ⟨w.heap.size, 0, none⟩) 2 2] W0 fun e w' => ∃ x, e = .returned (.tuple #[x, .int .i64 (chgE l i j)]) ∧ (chgE l i j = 0 → ∃ b u0 u1, x = .slice (some ⟨b, 0, none⟩) 2 2 ∧ w'.cell? ⟨b, 0, none⟩ = some u0 ∧ w'.cell? ⟨b, 1, none⟩ = some u1 ∧ TensIs w' u0 (foldT l i) ∧ TensIs w' u1 (foldT l j) ∧ ForsIs w' x 2 (fun k => foldT l ([i, j].getD k 0))) ∧ W0.grownBy w' none) := by
    have h := behind_any W0 _ (.slice (some ⟨w.heap.size, 0, none⟩) 2 2) l [i, j] (hv.grown hg0) hl (by rw [HW0.out]; exact ints_two w i j hi0 hi1 hj0 hj1 _) (by simp)
    rw [behE_two] at h
    refine h.mono ?_
    rintro e w' ⟨x, rfl, h2, hg⟩
    refine ⟨x, rfl, fun h0 => ?_, hg⟩
    have h3 := h2 h0
    have h9 := h3
    obtain ⟨b, rfl, h3⟩ := h3
    obtain ⟨u0, h4, h5⟩ := h3 0 (by simp)
    obtain ⟨u1, h6, h7⟩ := h3 1 (by simp)
    exact ⟨b, u0, u1, rfl, h4, h6, h5, h7, h9⟩
  obtain ⟨R, hR⟩ : ∃ R, R = chgW l i j := ⟨_, rfl⟩
  have HR1 : Hid (chgE l i j ≠ 0 → R = []) := fun h => by rw [hR, chgW, if_neg h]
  have HR2 : Hid (chgE l i j = 0 → R = changesL (foldT l i) (foldT l j)) := fun h => by rw [hR, chgW, if_pos h]
  have HFa : Hid (Forest (foldT l i)) := foldT_forest l i
  have HFb : Hid (Forest (foldT l j)) := foldT_forest l j
  obtain ⟨G, hG⟩ : ∃ G : Nat → FL, G = fun k => foldT l ([i, j].getD k 0) := ⟨_, rfl⟩
  have HGf : Hid (∀ m, Forest (G m)) := fun m => by rw [hG]; exact foldT_forest l _
  have HGs : Hid (spN G 2 = spotsF (foldT l i) ++ spotsF (foldT l j)) := by show _ = _; rw [hG]; exact spN_two _
  rw [← hG] at BE
  clear hG
  rw [← hR]
  clear hR hv hl
  generalize foldT l i = fa at *
  generalize foldT l j = fb at *
  generalize chgE l i j = z at *
  go_enter Try.func8, Try.ntmps8
  go_wp2_with fail
  rw [← HW0.out]
  refine BE.out.mono ?_
  rintro e w1 ⟨x, rfl, hx, hg1⟩
  by_cases hz : z = 0
  · obtain ⟨b, u0, u1, rfl, c0, c1, t0, t1, hfs⟩ := hx hz
    have HR : Hid (R = changesL fa fb) := HR2.out hz
    subst hz
    have SP : Hid (Calls Try.prog 17 #[.slice (some ⟨b, 0, none⟩) 2 2] w1 fun e w' => ∃ y, e = .returned y ∧ (∃ s, WritesIs w' y (compactL s) ∧ Sorted s ∧ s.Perm (spN G 2)) ∧ w1.grownBy w' none) := spots_any w1 _ 2 G hfs (by omega) HGf.out
    obtain ⟨a0, k0, rfl⟩ := t0.shape
    obtain ⟨a1, k1, rfl⟩ := t1.shape
    have HT0 : Hid (∀ w', w1.grownBy w' none → TensIs w' (.slice a0 fa.length k0) fa) := fun w' h => t0.grown h
    have HT1 : Hid (∀ w', w1.grownBy w' none → TensIs w' (.slice a1 fb.length k1) fb) := fun w' h => t1.grown h
    have HC0 : Hid (w1.cell? ⟨b, 0, none⟩ = some (.slice a0 fa.length k0)) := c0
    have HC1 : Hid (w1.cell? ⟨b, 1, none⟩ = some (.slice a1 fb.length k1)) := c1
    clear hx hfs t0 t1 c0 c1 HR1 HR2
    go_wp2_with fail
    refine SP.out.mono ?_
    rintro e w2 ⟨y, rfl, ⟨s, hy, hso, hpm⟩, hg2⟩
    have hmem : ∀ x, x ∈ s ↔ x ∈ spotsF fa ++ spotsF fb := fun x => by rw [← HGs.out]; exact hpm.mem_iff
    have hLl : (compactL s).length ≤ 1000 := by
      have h1 := compact_len s
      have h2 := hpm.length_eq
      have h3 := spN_len G HGf.out 2
      omega
    have HFIN : Hid ((compactL s).filterMap (chgO fa fb) = R) := by show _ = _; rw [HR.out]; exact chg_spots HFa.out HFb.out hmem hso
    have HNM : Hid (∀ k, k < (compactL s).length → (((1 ≤ ((compactL s).getD k noPlc).name.length ∧ ((compactL s).getD k noPlc).name.length ≤ 8) ∧ (1 ≤ ((compactL s).getD k noPlc).key.length ∧ ((compactL s).getD k noPlc).key.length ≤ 16)) ∧ Bare ((compactL s).getD k noPlc))) := fun k hk => spot_name HFa.out HFb.out hmem (by rw [show (compactL s).getD k noPlc = (compactL s)[k] by simp [hk]]; exact List.getElem_mem hk)
    clear hmem hpm hso HGs HGf SP HR
    generalize compactL s = L at *
    obtain ⟨ya, yc, rfl⟩ := hy.shape
    have HY : Hid (WritesIs w2 (.slice ya L.length yc) L) := hy
    have HEND : Hid (chgTo fa fb L L.length = R) := by show _ = _; rw [chgTo_end]; exact HFIN.out
    clear hy HFIN
    obtain ⟨RB, hRB⟩ : ∃ RB, RB = w2.heap.size := ⟨_, rfl⟩
    have HRB : Hid (RB = w2.heap.size) := hRB
    have hRB1 : w2.heap.size ≤ RB := by omega
    clear hRB
    have hg02 := grown_trans hg0 (grown_trans hg1 hg2)
    go_wp2_with fail
    go_loopw [10, 30] (fun o q wr => ∃ k : Nat, q = .int .i64 (k : Int) ∧ k ≤ L.length ∧ OwnW RB wr o (chgTo fa fb L k) ∧ w2.grownBy wr none) (fun _ q _ => L.length - (intOf q).toNat)
    case atStart => exact ⟨0, rfl, by omega, ownW_nil _ _, grown_refl _ _⟩
    case round =>
      obtain ⟨k, rfl, hk, ho, hg⟩ := hrel
      obtain ⟨oa, oc, rfl⟩ := ho.shape
      by_cases hkl : k < L.length
      · have i1 : (k : Int) < (L.length : Int) := by omega
        obtain ⟨yb, yo, rfl, hat⟩ := HY.out.at k hkl
        obtain ⟨vn, vk, vv, d1w, d2w, d3w, d4w, s1, s2, s3⟩ := hat
        obtain ⟨⟨hn8, hk16⟩, hbare⟩ := HNM.out k hkl
        have hnx := chgTo_next fa fb L k hkl
        have hcl := chgTo_len fa fb L k
        obtain ⟨P, hP⟩ : ∃ P, P = L.getD k noPlc := ⟨_, rfl⟩
        rw [← hP] at d3w s1 s2 s3 hn8 hk16 hbare hnx
        rw [hbare.2] at d3w
        rw [hbare.1] at s3
        clear hP
        have d1 := hg.cell d1w (by simp)
        have d2 := hg.cell d2w (by simp)
        have d3 := hg.cell d3w (by simp)
        have d4 := hg.cell d4w (by simp)
        obtain ⟨g1, g2, g3⟩ := fget_ok HFa.out P.name P.key hn8 hk16
        obtain ⟨q1, q2, q3⟩ := fget_ok HFb.out P.name P.key hn8 hk16
        have GA : Hid (∀ w', w2.grownBy w' none → Calls Try.prog 10 #[.slice a0 fa.length k0, vn, vk] w' fun e w'' => ∃ xa xc, e = .returned (.tuple #[.agg #[.bool (fgetB fa P.name P.key), .slice xa (fgetV fa P.name P.key).length xc], .int .i64 0]) ∧ PartIs 0 w'' (.slice xa (fgetV fa P.name P.key).length xc) (fgetV fa P.name P.key) ∧ w'.grownBy w'' none) := fun w' h => by
          have := fget_new w' _ vn vk fa P.name P.key (HT0.out w' (grown_trans hg2 h)) (s1.grown h) (s2.grown h) HFa.out.fits (by omega) (by omega)
          rw [g1] at this
          refine this.mono ?_
          rintro e w'' ⟨x, rfl, hx, hg'⟩
          obtain ⟨xa, xc, rfl⟩ := hx.slice.shape
          exact ⟨xa, xc, rfl, hx, hg'⟩
        have GB : Hid (∀ w', w2.grownBy w' none → Calls Try.prog 10 #[.slice a1 fb.length k1, vn, vk] w' fun e w'' => ∃ xa xc, e = .returned (.tuple #[.agg #[.bool (fgetB fb P.name P.key), .slice xa (fgetV fb P.name P.key).length xc], .int .i64 0]) ∧ PartIs 0 w'' (.slice xa (fgetV fb P.name P.key).length xc) (fgetV fb P.name P.key) ∧ w'.grownBy w'' none) := fun w' h => by
          have := fget_new w' _ vn vk fb P.name P.key (HT1.out w' (grown_trans hg2 h)) (s1.grown h) (s2.grown h) HFb.out.fits (by omega) (by omega)
          rw [q1] at this
          refine this.mono ?_
          rintro e w'' ⟨x, rfl, hx, hg'⟩
          obtain ⟨xa, xc, rfl⟩ := hx.slice.shape
          exact ⟨xa, xc, rfl, hx, hg'⟩
        have HYS : Hid ((fgetB fa P.name P.key ≠ fgetB fb P.name P.key ∨ fgetV fa P.name P.key ≠ fgetV fb P.name P.key) → chgTo fa fb L (k + 1) = chgTo fa fb L k ++ [⟨P.name, P.key, fgetV fb P.name P.key, !fgetB fb P.name P.key⟩]) := fun h => by rw [hnx, chgO_yes h]
        have HNO : Hid (¬ (fgetB fa P.name P.key ≠ fgetB fb P.name P.key ∨ fgetV fa P.name P.key ≠ fgetV fb P.name P.key) → chgTo fa fb L (k + 1) = chgTo fa fb L k) := fun h => by rw [hnx, chgO_no h, List.append_nil]
        have PN : Hid (∀ w', w2.grownBy w' none → PartIs RB w' vn P.name) := fun w' h => s1.part h RB hRB1
        have PK : Hid (∀ w', w2.grownBy w' none → PartIs RB w' vk P.key) := fun w' h => s2.part h RB hRB1
        obtain ⟨n1, n2, rfl⟩ := s1.shape
        obtain ⟨n3, n4, rfl⟩ := s2.shape
        obtain ⟨n5, n6, rfl⟩ := s3.shape
        clear g1 g2 g3 q1 q2 q3 hnx s1 s2 s3 hbare d1w d2w d3w d4w hn8 hk16
        generalize fgetB fa P.name P.key = B0 at *
        generalize fgetB fb P.name P.key = B1 at *
        generalize fgetV fa P.name P.key = V0 at *
        generalize fgetV fb P.name P.key = V1 at *
        have HO : Hid (OwnW RB wr (.slice oa (chgTo fa fb L k).length oc) (chgTo fa fb L k)) := ho
        generalize chgTo fa fb L k = X at *
        obtain ⟨W3, HW3, hgW3, B3⟩ := alloc_namedT wr (.cells #[.slice n1 P.name.length n2, .slice n3 P.key.length n4, .bool false, .slice n5 0 n6] 35)
        have hg3 := grown_trans hg hgW3
        have hg13 := grown_trans hg2 hg3
        obtain ⟨⟨b0, b1, b2, b3⟩, b4, b5, b6, b7, _⟩ := quad_room (grown_refl W3 none) B3.out
        have f0 := hg13.cell HC0.out (by simp)
        clear ho
        go_upto_region 8 with fail
        rw [← HW3.out]
        clear d1 d2 d3 d4
        obtain ⟨XB, hXB⟩ : ∃ XB, XB = wr.heap.size := ⟨_, rfl⟩
        have HXB : Hid (XB = wr.heap.size) := hXB
        rw [← hXB] at B3 b0 b1 b2 b3 b4 b5 b6 b7 ⊢
        clear hXB
        go_cut [13, 14] (fun s13 s14 wx => ∃ (nb : Nat) (xa : Option Addr) (xc : Nat), s13 = .pointer (some ⟨nb, 0, none⟩) ∧ s14 = .int .i64 0 ∧ wx.heap[nb]? = some (.cells #[.bool B0, .slice xa V0.length xc] 37) ∧ PartIs 0 wx (.slice xa V0.length xc) V0 ∧ W3.grownBy wx none)
        case first =>
          clear HYS HNO PN PK HO HEND HY HNM HFa HFb HT0 HT1 HC0 HC1 BE
          have hgd := grown_drew (grown_refl W3 none)
          obtain ⟨WA, hWA⟩ : ∃ WA : World, WA = W3.alloc (.cells #[.bool false, .slice none 0 0] 37) := ⟨_, rfl⟩
          have hgA : W3.grownBy WA.drew none := by rw [hWA]; exact grown_drew (World.grownBy_alloc _ _ _)
          have HPA : Hid (WA.drew.heap[W3.heap.size]? = some (.cells #[.bool false, .slice none 0 0] 37)) := by rw [hWA]; exact heap_alloc_new W3 _
          have HWA : Hid (WA = W3.alloc (.cells #[.bool false, .slice none 0 0] 37)) := hWA
          clear hWA
          have hwz : XB ≠ W3.heap.size := Nat.ne_of_lt (cell_ltC b0)
          have hbz : b ≠ W3.heap.size := Nat.ne_of_lt (cell_ltC f0)
          have e0 := hgd.cell f0 (by simp)
          have e1 := hgd.cell b0 (by simp)
          have e2 := hgd.cell b1 (by simp)
          have m0 := hgA.cell f0 (by simp)
          have m1 := hgA.cell b0 (by simp)
          have m2 := hgA.cell b1 (by simp)
          generalize V0.length = el at *
          go_region_held3 (fun w' => w'.cell? ⟨b, 0, none⟩ = some (.slice a0 fa.length k0) ∧ w'.cell? ⟨XB, 0, none⟩ = some (.slice n1 P.name.length n2) ∧ w'.cell? ⟨XB, 1, none⟩ = some (.slice n3 P.key.length n4))
            (first | with_reducible exact ⟨e0, e1, e2⟩ | (rw [← HWA.out]; with_reducible exact ⟨m0, m1, m2⟩) | with_reducible exact ⟨j0, j1, j2⟩ | with_reducible exact ⟨(World.grownBy_alloc _ _ none).cell j0 (by simp), (World.grownBy_alloc _ _ none).cell j1 (by simp), (World.grownBy_alloc _ _ none).cell j2 (by simp)⟩ | with_reducible exact ⟨cell_duoC j0 hbz, cell_duoC j1 hwz, cell_duoC j2 hwz⟩)
            (first
              | (go_at_call 10
                 first
                   | (rw [← HWA.out]; with_reducible refine (GA.out _ (grown_trans hg3 hgA)).mono ?_
                      rintro e w5 ⟨xa, xc, rfl, h5, hg5⟩
                      have hgm : W3.grownBy w5 none := grown_trans hgA hg5
                      refine pair_room_elim (b := W3.heap.size) hg5 HPA.out ?_; intro hpb0 cA cB fA fB; have HPB : Hid (w5.heap[W3.heap.size]? = some (.cells #[.bool false, .slice none 0 0] 37)) := hpb0; clear hpb0)
                   | (with_reducible refine (GA.out _ (grown_trans hg3 hgd)).mono ?_
                      rintro e w5 ⟨xa, xc, rfl, h5, hg5⟩
                      have hgm : W3.grownBy w5 none := grown_trans hgd hg5)
                 have j0 := hgm.cell f0 (by simp)
                 have j1 := hgm.cell b0 (by simp)
                 have j2 := hgm.cell b1 (by simp)
                 have H5 : Hid (PartIs 0 w5 (.slice xa el xc) V0) := h5
                 clear h5))
          all_goals (go_wp2_with fail; go_meet; case rel =>
            first
              | exact ⟨w5.heap.size, xa, xc, rfl, rfl, heap_alloc_new w5 _, H5.out.keptT (World.grownBy_alloc _ _ none) (.inl rfl), grown_alloc hgm _⟩
              | exact ⟨W3.heap.size, xa, xc, rfl, rfl, two_setC HPB.out _ _, part_findS H5.out HPB.out _ _, grown_setNew (grown_setNew hgm _ (Nat.le_refl _) _ _) _ (Nat.le_refl _) _ _⟩)
        case rest =>
          obtain ⟨nb, xa, xc, rfl, rfl, hnb, hx, hgx⟩ := hcut
          have HNB : Hid (wc.heap[nb]? = some (.cells #[.bool B0, .slice xa V0.length xc] 37)) := hnb
          have HX0 : Hid (PartIs 0 wc (.slice xa V0.length xc) V0) := hx
          have B4 := pair_old hgx B3.out
          obtain ⟨⟨d0, d1, d2, d3⟩, _⟩ := quad_room (grown_refl wc none) B4
          have hg4 := grown_trans hg3 hgx
          have f1 := (grown_trans hg2 hg4).cell HC1.out (by simp)
          have HB4 : Hid (wc.heap[XB]? = some (.cells #[.slice n1 P.name.length n2, .slice n3 P.key.length n4, .bool false, .slice n5 0 n6] 35)) := B4
          clear hnb hx b0 b1 b2 b3 b4 b5 b6 b7 f0 B4
          obtain ⟨W4, hW4⟩ : ∃ W4, W4 = wc := ⟨_, rfl⟩
          rw [← hW4] at HNB HX0 d0 d1 d2 d3 hg4 f1 HB4 hgx ⊢
          clear hW4
          go_upto_region 11 with fail
          go_cut [15, 14] (fun s13 s14 wx => ∃ (nb : Nat) (xa : Option Addr) (xc : Nat), s13 = .pointer (some ⟨nb, 0, none⟩) ∧ s14 = .int .i64 0 ∧ wx.heap[nb]? = some (.cells #[.bool B1, .slice xa V1.length xc] 37) ∧ PartIs 0 wx (.slice xa V1.length xc) V1 ∧ W4.grownBy wx none)
          case first =>
            clear HYS HNO PN PK HO HEND HY HNM HFa HFb HT0 HT1 HC0 HC1 BE HX0 HNB GA
            have hgd := grown_drew (grown_refl W4 none)
            obtain ⟨WA, hWA⟩ : ∃ WA : World, WA = W4.alloc (.cells #[.bool false, .slice none 0 0] 37) := ⟨_, rfl⟩
            have hgA : W4.grownBy WA.drew none := by rw [hWA]; exact grown_drew (World.grownBy_alloc _ _ _)
            have HPA : Hid (WA.drew.heap[W4.heap.size]? = some (.cells #[.bool false, .slice none 0 0] 37)) := by rw [hWA]; exact heap_alloc_new W4 _
            have HWA : Hid (WA = W4.alloc (.cells #[.bool false, .slice none 0 0] 37)) := hWA
            clear hWA
            have hwz : XB ≠ W4.heap.size := Nat.ne_of_lt (cell_ltC d0)
            have hbz : b ≠ W4.heap.size := Nat.ne_of_lt (cell_ltC f1)
            have e0 := hgd.cell f1 (by simp)
            have e1 := hgd.cell d0 (by simp)
            have e2 := hgd.cell d1 (by simp)
            have m0 := hgA.cell f1 (by simp)
            have m1 := hgA.cell d0 (by simp)
            have m2 := hgA.cell d1 (by simp)
            generalize V1.length = el at *
            go_region_held3 (fun w' => w'.cell? ⟨b, 1, none⟩ = some (.slice a1 fb.length k1) ∧ w'.cell? ⟨XB, 0, none⟩ = some (.slice n1 P.name.length n2) ∧ w'.cell? ⟨XB, 1, none⟩ = some (.slice n3 P.key.length n4))
              (first | with_reducible exact ⟨e0, e1, e2⟩ | (rw [← HWA.out]; with_reducible exact ⟨m0, m1, m2⟩) | with_reducible exact ⟨j0, j1, j2⟩ | with_reducible exact ⟨(World.grownBy_alloc _ _ none).cell j0 (by simp), (World.grownBy_alloc _ _ none).cell j1 (by simp), (World.grownBy_alloc _ _ none).cell j2 (by simp)⟩ | with_reducible exact ⟨cell_duoC j0 hbz, cell_duoC j1 hwz, cell_duoC j2 hwz⟩)
              (first
                | (go_at_call 10
                   first
                     | (rw [← HWA.out]; with_reducible refine (GB.out _ (grown_trans hg4 hgA)).mono ?_
                        rintro e w5 ⟨xa, xc, rfl, h5, hg5⟩
                        have hgm : W4.grownBy w5 none := grown_trans hgA hg5
                        refine pair_room_elim (b := W4.heap.size) hg5 HPA.out ?_; intro hpb0 cA cB fA fB; have HPB : Hid (w5.heap[W4.heap.size]? = some (.cells #[.bool false, .slice none 0 0] 37)) := hpb0; clear hpb0)
                     | (with_reducible refine (GB.out _ (grown_trans hg4 hgd)).mono ?_
                        rintro e w5 ⟨xa, xc, rfl, h5, hg5⟩
                        have hgm : W4.grownBy w5 none := grown_trans hgd hg5)
                   have j0 := hgm.cell f1 (by simp)
                   have j1 := hgm.cell d0 (by simp)
                   have j2 := hgm.cell d1 (by simp)
                   have H5 : Hid (PartIs 0 w5 (.slice xa el xc) V1) := h5
                   clear h5))
            all_goals (go_wp2_with fail; go_meet; case rel =>
              first
                | exact ⟨w5.heap.size, xa, xc, rfl, rfl, heap_alloc_new w5 _, H5.out.keptT (World.grownBy_alloc _ _ none) (.inl rfl), grown_alloc hgm _⟩
                | exact ⟨W4.heap.size, xa, xc, rfl, rfl, two_setC HPB.out _ _, part_findS H5.out HPB.out _ _, grown_setNew (grown_setNew hgm _ (Nat.le_refl _) _ _) _ (Nat.le_refl _) _ _⟩)
          case rest =>
            obtain ⟨mb, ya2, yc2, rfl, rfl, hmb, hx1, hgy⟩ := hcut
            obtain ⟨W5, hW5⟩ : ∃ W5, W5 = wc := ⟨_, rfl⟩
            rw [← hW5] at hmb hx1 hgy ⊢
            clear hW5
            have HX1 : Hid (PartIs 0 W5 (.slice ya2 V1.length yc2) V1) := hx1
            have HMB : Hid (W5.heap[mb]? = some (.cells #[.bool B1, .slice ya2 V1.length yc2] 37)) := hmb
            have HXB5 : Hid (W5.heap[XB]? = some (.cells #[.slice n1 P.name.length n2, .slice n3 P.key.length n4, .bool false, .slice n5 0 n6] 35)) := pair_old hgy HB4.out
            obtain ⟨x0, x1, _, _⟩ := pair_room hgy HNB.out
            obtain ⟨y0, y1, _, _⟩ := pair_room (grown_refl W5 none) HMB.out
            obtain ⟨⟨v0, v1, v2, v3⟩, v4, v5, v6, v7, _⟩ := quad_room (grown_refl W5 none) HXB5.out
            have hg5 := grown_trans hg4 hgy
            have hgr5 := grown_trans hgW3 (grown_trans hgx hgy)
            have EQ : Hid (Calls Try.prog 18 #[.slice xa V0.length xc, .slice ya2 V1.length yc2] W5 fun e w' => e = .returned (.bool (decide (V0 = V1))) ∧ w' = W5) := equal_any W5 _ _ V0 V1 (HX0.out.slice.grown hgy) HX1.out.slice
            obtain ⟨C, hC⟩ : ∃ C : Bool, C = decide (B0 ≠ B1 ∨ V0 ≠ V1) := ⟨_, rfl⟩
            have HCt : Hid (B0 ≠ B1 → C = true) := fun h => by rw [hC]; simp [h]
            have HCe : Hid (B0 = B1 → C = !decide (V0 = V1)) := fun h => by rw [hC]; simp [h]
            have HC1' : Hid (C = true → chgTo fa fb L (k + 1) = X ++ [⟨P.name, P.key, V1, !B1⟩]) := fun h => HYS.out (by rw [hC] at h; exact of_decide_eq_true h)
            have HC2' : Hid (C = false → chgTo fa fb L (k + 1) = X) := fun h => HNO.out (by rw [hC] at h; exact of_decide_eq_false h)
            clear hC HYS HNO hmb hx1 d0 d1 d2 d3 f1 GA GB HT0 HT1 HC0 HC1 HNM
            generalize decide (V0 = V1) = E at *
            generalize V0.length = el0 at *
            go_upto_region 14 with fail
            go_cut [74] (fun s74 wx => s74 = .bool C ∧ wx = W5)
            case first =>
              cases B0 <;> cases B1
              all_goals first
                | (go_wp2_with fail; go_meet; case rel => exact ⟨by rw [HCt.out (by simp)], rfl⟩)
                | (go_wp2_with (go_at_call 18; refine EQ.out.mono ?_; rintro e w6 ⟨rfl, rfl⟩); go_meet; case rel => exact ⟨by rw [HCe.out (by first | rfl | trivial)], rfl⟩)
            case rest =>
              obtain ⟨rfl, hwc⟩ := hcut
              rw [hwc]
              cases C with
              | false =>
                have HN : Hid (chgTo fa fb L (k + 1) = X) := HC2'.out rfl
                have HO5 : Hid (OwnW RB W5 (.slice oa X.length oc) X) := HO.out.grownNone hgr5
                clear HC1' HC2' HCt HCe EQ x0 x1 y0 y1 v0 v1 v2 v3 v4 v5 v6 v7
                go_wp2_with fail
                go_roundw
                case rel =>
                  first
                    | exact ⟨k + 1, by go_num, by omega, by rw [HN.out]; exact HO5.out, hg5⟩
                    | ((repeat apply Exists.intro); refine ⟨⟨k + 1, ?_, by omega, by rw [HN.out]; exact HO5.out, hg5⟩, rfl⟩; go_num)
                case measure => simp [intOf]; omega
              | true =>
                have HN : Hid (chgTo fa fb L (k + 1) = X ++ [⟨P.name, P.key, V1, !B1⟩]) := HC1'.out rfl
                have hRX : RB ≤ XB := by rw [HXB.out, HRB.out]; exact hg.size
                have hwX : w2.heap.size ≤ XB := by rw [HXB.out]; exact hg.size
                have hneX : (Value.slice oa X.length oc).ownBlock ≠ some XB := fun e => absurd (HO.out.lt XB e).2 (by rw [HXB.out]; exact Nat.lt_irrefl _)
                have HNE : Hid ((Value.slice oa X.length oc).ownBlock ≠ some XB) := hneX
                have HO5 : Hid (OwnW RB W5 (.slice oa X.length oc) X) := HO.out.grownNone hgr5
                have HV5 : Hid (PartIs RB W5 (.slice ya2 V1.length yc2) V1) := HX1.out.mono (Nat.zero_le _)
                have HP5 : Hid (PartIs RB W5 (.slice n1 P.name.length n2) P.name) := PN.out W5 hg5
                have HK5 : Hid (PartIs RB W5 (.slice n3 P.key.length n4) P.key) := PK.out W5 hg5
                have hl80 : (X.length + 1) * 80 ≤ 140737488355328 := by omega
                have hsz5 : RB ≤ W5.heap.size := by rw [HRB.out]; exact hg5.size
                clear HC1' HC2' HCt HCe EQ x0 x1 hneX
                go_upto_region 15 with fail
                go_cut [12] (fun s12 wx => s12 = .pointer (some ⟨XB, 0, none⟩) ∧ wx.heap[XB]? = some (.cells #[.slice n1 P.name.length n2, .slice n3 P.key.length n4, .bool (!B1), .slice ya2 V1.length yc2] 35) ∧ OwnW RB wx (.slice oa X.length oc) X ∧ PartIs RB wx (.slice n1 P.name.length n2) P.name ∧ PartIs RB wx (.slice n3 P.key.length n4) P.key ∧ PartIs RB wx (.slice ya2 V1.length yc2) V1 ∧ w2.grownBy wx none)
                case first =>
                  have hgdd : W5.grownBy W5.drew none := grown_drew (grown_refl _ _)
                  have XBd : Hid (W5.drew.heap[XB]? = some (.cells #[.slice n1 P.name.length n2, .slice n3 P.key.length n4, .bool false, .slice n5 0 n6] 35)) := HXB5.out
                  have HOd : Hid (OwnW RB W5.drew (.slice oa X.length oc) X) := HO5.out.grownNone hgdd
                  have HPd : Hid (PartIs RB W5.drew (.slice n1 P.name.length n2) P.name) := HP5.out.keptT hgdd (.inl rfl)
                  have HKd : Hid (PartIs RB W5.drew (.slice n3 P.key.length n4) P.key) := HK5.out.keptT hgdd (.inl rfl)
                  have HVd : Hid (PartIs RB W5.drew (.slice ya2 V1.length yc2) V1) := HV5.out.keptT hgdd (.inl rfl)
                  have hgdw := grown_trans hg5 hgdd
                  go_region
                  all_goals (go_wp2_with fail; go_meet; case rel =>
                    first
                      | exact ⟨rfl, box_set1 XBd.out hRX hwX HNE.out HOd.out HPd.out HKd.out HVd.out hgdw⟩
                      | exact ⟨rfl, box_set2 XBd.out hRX hwX HNE.out HOd.out HPd.out HKd.out HVd.out hgdw⟩)
                case rest =>
                  obtain ⟨rfl, hbx, hox, hpx, hkx, hvx, hgx2⟩ := hcut
                  obtain ⟨W6, hW6⟩ : ∃ W6, W6 = wc := ⟨_, rfl⟩
                  rw [← hW6] at hbx hox hpx hkx hvx hgx2 ⊢
                  obtain ⟨⟨s0, s1, s2, s3⟩, _⟩ := quad_room (grown_refl W6 none) hbx
                  have hgal : W6.grownBy (W6.alloc (.cells #[.slice n1 P.name.length n2, .slice n3 P.key.length n4, .bool (!B1), .slice ya2 V1.length yc2] 35)) none := World.grownBy_alloc _ _ _
                  have A1 : Hid (OwnW RB (W6.alloc (.cells #[.slice n1 P.name.length n2, .slice n3 P.key.length n4, .bool (!B1), .slice ya2 V1.length yc2] 35)) (.slice oa X.length oc) X) := hox.grownNone hgal
                  have A2 : Hid (PartIs RB (W6.alloc (.cells #[.slice n1 P.name.length n2, .slice n3 P.key.length n4, .bool (!B1), .slice ya2 V1.length yc2] 35)) (.slice n1 P.name.length n2) P.name) := hpx.keptT hgal (.inl rfl)
                  have A3 : Hid (PartIs RB (W6.alloc (.cells #[.slice n1 P.name.length n2, .slice n3 P.key.length n4, .bool (!B1), .slice ya2 V1.length yc2] 35)) (.slice n3 P.key.length n4) P.key) := hkx.keptT hgal (.inl rfl)
                  have A4 : Hid (PartIs RB (W6.alloc (.cells #[.slice n1 P.name.length n2, .slice n3 P.key.length n4, .bool (!B1), .slice ya2 V1.length yc2] 35)) (.slice ya2 V1.length yc2) V1) := hvx.keptT hgal (.inl rfl)
                  have A5 : Hid (RB ≤ (W6.alloc (.cells #[.slice n1 P.name.length n2, .slice n3 P.key.length n4, .bool (!B1), .slice ya2 V1.length yc2] 35)).heap.size) := by
                    show _ ≤ _
                    have h1 := hgx2.size
                    have h2 := hgal.size
                    have h3 := HRB.out
                    omega
                  have HG2 : Hid (w2.grownBy (W6.alloc (.cells #[.slice n1 P.name.length n2, .slice n3 P.key.length n4, .bool (!B1), .slice ya2 V1.length yc2] 35)) none) := grown_trans hgx2 hgal
                  clear hbx hox hpx hkx hvx hgx2 hgal hW6 y0 y1 v0 v1 v2 v3 v4 v5 v6 v7
                  go_wp2_with (at_builtin; refine wpList_append_wr rfl _ _ rfl RB (.slice oa X.length oc) X rfl A1.out (.slice n1 P.name.length n2) (.slice n3 P.key.length n4) (.slice ya2 V1.length yc2) ⟨P.name, P.key, V1, !B1⟩ A2.out A3.out A4.out W6.heap.size (heap_alloc_new W6 _) rfl hl80 A5.out ?_; intro v7 w7 ho7 hg7)
                  have HO7 : Hid (OwnW RB w7 v7 (chgTo fa fb L (k + 1))) := by show OwnW _ _ _ _; rw [HN.out]; exact ho7
                  have hgw7 : w2.grownBy w7 none := grown_ownW HG2.out A1.out hRB1 hg7
                  clear ho7 hg7 s0 s1 s2 s3
                  go_wp2_with fail
                  go_roundw
                  case rel =>
                    first
                      | exact ⟨k + 1, by go_num, by omega, HO7.out, hgw7⟩
                      | ((repeat apply Exists.intro); refine ⟨⟨k + 1, ?_, by omega, HO7.out, hgw7⟩, rfl⟩; go_num)
                  case measure => simp [intOf]; omega
      · obtain rfl : k = L.length := by omega
        have i1 : ¬ (L.length : Int) < (L.length : Int) := by omega
        have HW : Hid (WritesIs wr (.slice oa (chgTo fa fb L L.length).length oc) R) := by
          show WritesIs _ _ _
          rw [← HEND.out]; exact ho.list
        clear ho
        generalize (chgTo fa fb L L.length).length = ol at *
        go_wp2
        go_ret2
        exact ⟨_, rfl, HW.out, grown_trans hg02 hg⟩
  · have hz' : (z != 0) = true := by simpa using hz
    have HR : Hid (R = []) := HR1.out hz
    clear hz hx HR1 HR2
    go_wp2
    go_ret2
    exact ⟨_, rfl, by rw [HR.out]; exact writesIs_nil _, grown_trans hg0 hg1⟩
end Go.Proofs.Ytljdconhplgipab
