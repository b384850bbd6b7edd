/-
  canopylaw.requests: a copy of a request.
-/
import Derived.Test.YtghjikifflpeiaaDoorRqBox
import Derived.Test.YtghjikifflpeiaaDoorOctets
import Derived.Deep.RegionHeld3
import Derived.Deep.RegionWith
import Derived.Handy
namespace Go.Proofs.YtghjikifflpeiaaDoor
open Go.RowKit
set_option maxRecDepth 100000 in
set_option maxHeartbeats 4000000 in
theorem requests_any (w : World) (v : Value) (r : Rq) (hv : RqIs w v r) (hf : RqFits r) :
    Calls Tryd.prog 10 #[v] w fun e w' => ∃ x, e = .returned x ∧ RqIs w' x r ∧ w.grownBy w' none := by
  obtain ⟨n1, n2, k1, k2, l1, l2, v1, v2, rfl⟩ := hv.agg
  obtain ⟨_, S0, S1, S2, S3⟩ := hv.parts
  obtain ⟨W0, HW0, hg0, B0⟩ := alloc_namedR w (.cells #[.int .i64 r.kind, .slice n1 r.name.length n2, .slice k1 r.key.length k2, .slice l1 r.last.length l2, .slice v1 r.value.length v2] 24)
  obtain ⟨W1, HW1, hg1, BR0⟩ := alloc_namedR W0 (.cells #[.int .i64 0, .slice none 0 0, .slice none 0 0, .slice none 0 0, .slice none 0 0] 24)
  have hgW := grown_trans hg0 hg1
  have hs0 : W0.heap.size = w.heap.size + 1 := by rw [HW0.out]; simp
  have hs1 : W1.heap.size = w.heap.size + 2 := by rw [HW1.out]; simp [hs0]
  rw [hs0] at BR0
  have B1 : Hid (W1.heap[w.heap.size]? = some (.cells #[.int .i64 r.kind, .slice n1 r.name.length n2, .slice k1 r.key.length k2, .slice l1 r.last.length l2, .slice v1 r.value.length v2] 24)) := pair_old hg1 B0.out
  have HX : Hid (W1 = (w.alloc (.cells #[.int .i64 r.kind, .slice n1 r.name.length n2, .slice k1 r.key.length k2, .slice l1 r.last.length l2, .slice v1 r.value.length v2] 24)).alloc (.cells #[.int .i64 0, .slice none 0 0, .slice none 0 0, .slice none 0 0, .slice none 0 0] 24)) := by show _ = _; rw [HW1.out, HW0.out]
  obtain ⟨p0, p1, p2, p3, p4⟩ := hf
  have J0 : Hid (∀ w', W1.grownBy w' none → Calls Tryd.prog 16 #[.slice n1 r.name.length n2] w' fun e w'' => ∃ v', e = .returned v' ∧ Own w'.heap.size w'' v' r.name ∧ w'.grownBy w'' none) := fun w' hg' => octets_any w' _ r.name (S0.grown (grown_trans hgW hg')) (by omega)
  have J1 : Hid (∀ w', W1.grownBy w' none → Calls Tryd.prog 16 #[.slice k1 r.key.length k2] w' fun e w'' => ∃ v', e = .returned v' ∧ Own w'.heap.size w'' v' r.key ∧ w'.grownBy w'' none) := fun w' hg' => octets_any w' _ r.key (S1.grown (grown_trans hgW hg')) (by omega)
  have J2 : Hid (∀ w', W1.grownBy w' none → Calls Tryd.prog 16 #[.slice l1 r.last.length l2] w' fun e w'' => ∃ v', e = .returned v' ∧ Own w'.heap.size w'' v' r.last ∧ w'.grownBy w'' none) := fun w' hg' => octets_any w' _ r.last (S2.grown (grown_trans hgW hg')) (by omega)
  have J3 : Hid (∀ w', W1.grownBy w' none → Calls Tryd.prog 16 #[.slice v1 r.value.length v2] w' fun e w'' => ∃ v', e = .returned v' ∧ Own w'.heap.size w'' v' r.value ∧ w'.grownBy w'' none) := fun w' hg' => octets_any w' _ r.value (S3.grown (grown_trans hgW hg')) (by omega)
  obtain ⟨RB, hRB⟩ : ∃ RB, RB = w.heap.size + 1 := ⟨_, rfl⟩
  obtain ⟨IB, hIB⟩ : ∃ IB, IB = w.heap.size := ⟨_, rfl⟩
  have hIR : IB ≠ RB := by omega
  have HLT : Hid (RB < W1.heap.size) := by show _ < _; omega
  have HLE : Hid (w.heap.size ≤ RB) := by show _ ≤ _; omega
  rw [← hRB] at BR0
  rw [← hIB] at B1
  have HR0 : Hid (r = ⟨r.kind, r.name, r.key, r.last, r.value⟩) := rfl
  clear hv S0 S1 S2 S3 p0 p1 p2 p3 p4 hs0 hs1 HW0 HW1 hg0 hg1 B0
  generalize r.kind = K at *
  generalize r.name = bn at *
  generalize r.key = bk at *
  generalize r.last = bl at *
  generalize r.value = bv at *
  go_enter Tryd.func10, Tryd.ntmps10
  go_upto_region 1 with fail
  rw [← HX.out, ← hRB, ← hIB]
  clear hRB hIB HX
  have hgd := grown_drew (grown_refl W1 none)
  obtain ⟨⟨e0, e1, e2, e3, e4⟩, hfz, _⟩ := five_room hgd B1.out
  clear hfz
  go_region_held3 (fun w' => w'.cell? ⟨IB, 0, none⟩ = some (.int .i64 K) ∧ w'.cell? ⟨IB, 1, none⟩ = some (.slice n1 bn.length n2) ∧ w'.cell? ⟨IB, 2, none⟩ = some (.slice k1 bk.length k2) ∧ w'.cell? ⟨IB, 3, none⟩ = some (.slice l1 bl.length l2) ∧ w'.cell? ⟨IB, 4, none⟩ = some (.slice v1 bv.length v2))
    (first | with_reducible exact ⟨e0, e1, e2, e3, e4⟩ | with_reducible exact ⟨f0, f1, f2, f3, f4⟩ | with_reducible exact ⟨g0, g1, g2, g3, g4⟩ | with_reducible exact ⟨h0, h1, h2, h3, h4⟩ | with_reducible exact ⟨i0, i1, i2, i3, i4⟩ | (refine ⟨?_, ?_, ?_, ?_, ?_⟩ <;> (rw [World.cell?_setCell_other _ _ _ _ (by intro e; injection e with e1 e2; omega), World.cell?_setCell_other _ _ _ _ (by intro e; injection e with e1 e2; omega), World.cell?_setCell_other _ _ _ _ (by intro e; injection e with e1 e2; omega), World.cell?_setCell_other _ _ _ _ (by intro e; injection e with e1 e2; omega), World.cell?_setCell_other _ _ _ _ (by intro e; injection e with e1 e2; omega)]; assumption)))
    (first
      | (go_at_call_of 16 (Value.slice n1 bn.length n2); with_reducible refine (J0.out _ hgd).mono ?_; rintro e w3 ⟨v3, rfl, ho3, hg3⟩; obtain ⟨xa, xc, rfl⟩ := ho3.shape; have hgd3 := grown_trans hgd hg3; obtain ⟨⟨f0, f1, f2, f3, f4⟩, _⟩ := five_room hgd3 B1.out)
      | (go_at_call_of 16 (Value.slice k1 bk.length k2); with_reducible refine (J1.out _ hgd3).mono ?_; rintro e w4 ⟨v4, rfl, ho4, hg4⟩; obtain ⟨ya, yc, rfl⟩ := ho4.shape; have hgd4 := grown_trans hgd3 hg4; obtain ⟨⟨g0, g1, g2, g3, g4⟩, _⟩ := five_room hgd4 B1.out)
      | (go_at_call_of 16 (Value.slice l1 bl.length l2); with_reducible refine (J2.out _ hgd4).mono ?_; rintro e w5 ⟨v5, rfl, ho5, hg5⟩; obtain ⟨za, zc, rfl⟩ := ho5.shape; have hgd5 := grown_trans hgd4 hg5; obtain ⟨⟨h0, h1, h2, h3, h4⟩, _⟩ := five_room hgd5 B1.out)
      | (go_at_call_of 16 (Value.slice v1 bv.length v2); with_reducible refine (J3.out _ hgd5).mono ?_; rintro e w6 ⟨v6, rfl, ho6, hg6⟩; obtain ⟨ua, uc, rfl⟩ := ho6.shape; have hgd6 := grown_trans hgd5 hg6; obtain ⟨⟨i0, i1, i2, i3, i4⟩, _⟩ := five_room hgd6 B1.out
         have hR := pair_old hgd6 BR0.out
         obtain ⟨⟨m0, m1, m2, m3, m4⟩, ⟨y0, y1, y2, y3, y4⟩, _⟩ := five_room (grown_refl w6 none) hR
         have HR : Hid (w6.heap[RB]? = some (.cells #[.int .i64 0, .slice none 0 0, .slice none 0 0, .slice none 0 0, .slice none 0 0] 24)) := hR
         clear hR))
  all_goals (
    have hq := five_set HR.out (.int .i64 K) (.slice xa bn.length xc) (.slice ya bk.length yc) (.slice za bl.length zc) (.slice ua bv.length uc)
    obtain ⟨⟨r0, r1, r2, r3, r4⟩, _⟩ := five_room (grown_refl _ none) hq
    have hlt3 : RB < W1.drew.heap.size := HLT.out
    have hlt4 : RB < w3.heap.size := Nat.lt_of_lt_of_le hlt3 hg3.size
    have hlt5 : RB < w4.heap.size := Nat.lt_of_lt_of_le hlt4 hg4.size
    have hlt6 : RB < w5.heap.size := Nat.lt_of_lt_of_le hlt5 hg5.size
    have HRES : Hid (RqIs (set5 w6 RB (.int .i64 K) (.slice xa bn.length xc) (.slice ya bk.length yc) (.slice za bl.length zc) (.slice ua bv.length uc)) (.agg #[.int .i64 K, .slice xa bn.length xc, .slice ya bk.length yc, .slice za bl.length zc, .slice ua bv.length uc]) ⟨K, bn, bk, bl, bv⟩) := ⟨_, _, _, _, rfl, ((ho3.grownNone (grown_trans hg4 (grown_trans hg5 hg6))).later (five_turn w6 RB _ _ _ _ _) hlt3).slice, ((ho4.grownNone (grown_trans hg5 hg6)).later (five_turn w6 RB _ _ _ _ _) hlt4).slice, ((ho5.grownNone hg6).later (five_turn w6 RB _ _ _ _ _) hlt5).slice, (ho6.later (five_turn w6 RB _ _ _ _ _) hlt6).slice⟩
    have hgq := five_grown (grown_trans hgW hgd6) HLE.out (.int .i64 K) (.slice xa bn.length xc) (.slice ya bk.length yc) (.slice za bl.length zc) (.slice ua bv.length uc)
    clear ho3 ho4 ho5 ho6 hq
    go_wp2
    refine bodyPost_ret (v := .agg #[.int .i64 K, .slice xa bn.length xc, .slice ya bk.length yc, .slice za bl.length zc, .slice ua bv.length uc]) (by simp [results, Tryd.results10, go_sem, r0, r1, r2, r3, r4]) rfl ?_
    exact ⟨_, rfl, by rw [HR0.out]; exact HRES.out, hgq⟩)
end Go.Proofs.YtghjikifflpeiaaDoor
