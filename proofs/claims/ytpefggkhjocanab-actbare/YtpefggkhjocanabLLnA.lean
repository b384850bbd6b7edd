/-
  The walk of canopykeep.ActBare, over what the code must keep.
-/
import Derived.Test.YtpefggkhjocanabLnCk
import Derived.Test.YtpefggkhjocanabKAct
namespace Go.Proofs.Ytpefggkhjocanab
open Go.RowKit
theorem beq_dec {x p y q : Int} (h : decide (x = p) = decide (y = q)) : (x == p) = (y == q) := by
  by_cases e : x = p
  · by_cases f : y = q
    · rw [beq_iff_eq.2 e, beq_iff_eq.2 f]
    · rw [decide_eq_true e, decide_eq_false f] at h; cases h
  · by_cases f : y = q
    · rw [decide_eq_false e, decide_eq_true f] at h; cases h
    · rw [beq_eq_false_iff_ne.2 e, beq_eq_false_iff_ne.2 f]
set_option maxRecDepth 100000 in
set_option maxHeartbeats 4000000 in
theorem actBare_walk (hC : LnCheckOK) (w : World) (v : Value) (k A : Int) (d : List UInt8) (which : Int) (hv : FeatIs w v k A d) (hf : FeatFits k A d) (hw : -9223372036854775808 ≤ which ∧ which ≤ 9223372036854775807) :
    Calls Try.prog 3 #[v, .int .i64 which] w fun e w' => e = .returned (.bool true) ∧ w.grownBy w' none := by
  obtain ⟨vd, rfl, hs⟩ := hv
  obtain ⟨da, dc, rfl⟩ := hs.shape
  obtain ⟨W0, HW0, hg0, P0⟩ := alloc_namedR w (.cells #[.int .i64 k, .int .i64 A, .slice da d.length dc] 24)
  have KA : Hid (Calls Try.prog 4 #[.agg #[.int .i64 k, .int .i64 A, .slice da d.length dc]] W0 fun e w' => ∃ (a : Ac) (vd : Value), e = .returned (.agg #[.int .i64 a.kind, .int .i64 a.sess, .int .i64 a.keep, vd]) ∧ ActOK a ∧ a.data.length ≤ 80 ∧ PartIs 0 w' vd a.data ∧ W0.grownBy w' none) := kact_any W0 _ k A d ⟨_, rfl, hs.grown hg0⟩ hf
  have PW : Hid (∀ W, Calls Try.prog 6 #[.int .i64 which, .int .i64 3] W fun e w' => ∃ n : Nat, e = .returned (.int .i64 (n : Int)) ∧ (n : Int) < 3 ∧ w' = W) := fun W => picked_any which 3 W hw.1 hw.2 (by omega) (by omega)
  have HC : Hid LnCheckOK := hC
  obtain ⟨c0, c1, c2⟩ := tri_roomK (grown_refl W0 none) P0.out
  obtain ⟨P, hP⟩ : ∃ P, P = w.heap.size := ⟨_, rfl⟩
  rw [← hP] at P0 c0 c1 c2
  clear hs hf hw hC
  go_enter Try.func3, Try.ntmps3
  go_upto_region 1 with fail
  rw [← HW0.out, ← hP]
  clear hP HW0
  go_wp2_with fail
  refine KA.out.mono ?_
  rintro e w1 ⟨a, vd, rfl, hok, hd80, hp, hg1⟩
  obtain ⟨va, vc, rfl⟩ := hp.slice.shape
  have HSL : Hid (SliceIs w1 (.slice va a.data.length vc) a.data) := hp.slice
  obtain ⟨W2, HW2, hg2, B2⟩ := alloc_namedR w1 (.cells #[.int .i64 a.kind, .int .i64 a.sess, .int .i64 a.keep, .slice va a.data.length vc] 26)
  obtain ⟨W3, HW3, hg3, B3⟩ := alloc_namedR W2 (.cells #[.int .i64 a.kind, .int .i64 a.sess, .int .i64 a.keep, .slice va a.data.length vc] 26)
  have hgw3 := grown_trans hg0 (grown_trans hg1 (grown_trans hg2 hg3))
  have A3 : Hid (W3.heap[w1.heap.size]? = some (.cells #[.int .i64 a.kind, .int .i64 a.sess, .int .i64 a.keep, .slice va a.data.length vc] 26)) := pair_old hg3 B2.out
  obtain ⟨⟨x0, x1, x2, x3⟩, _⟩ := quad_room (grown_refl W2 none) B2.out
  have hsz : W2.heap.size = w1.heap.size + 1 := by rw [HW2.out]; simp
  obtain ⟨X, hX⟩ : ∃ X, X = w1.heap.size := ⟨_, rfl⟩
  obtain ⟨Y, hY⟩ : ∃ Y, Y = W2.heap.size := ⟨_, rfl⟩
  have hXY : X ≠ Y := by omega
  have HYw : Hid (w.heap.size ≤ Y) := by show _ ≤ _; have := (grown_trans hg0 hg1).size; omega
  have hSD : SliceIs W3 (.slice va a.data.length vc) a.data := HSL.out.grown (grown_trans hg2 hg3)
  have HSD : Hid (SliceIs W3 (.slice va a.data.length vc) a.data) := hSD
  have hg13 := grown_trans hg2 hg3
  have HY1 : Hid (w1.heap.size ≤ Y) := by show _ ≤ _; omega
  rw [← hX] at A3 x0 x1 x2 x3
  rw [← hY] at B3
  have HOK : Hid (ActOK a) := hok
  have HOK2 : Hid (AcFits a) := ac_fits hok
  have CK : Hid (Calls Try.prog 5 #[.agg #[.int .i64 a.kind, .int .i64 a.sess, .int .i64 a.keep, .slice va a.data.length vc]] W3 fun e w' => e = .returned (.int .i64 0) ∧ W3.grownBy w' none) := by
    have := HC.out W3 _ a ⟨_, rfl, hSD⟩ (ac_fits hok)
    rw [(act_iff a).2 hok] at this
    exact this
  go_upto_region 2 with fail
  rw [← HW2.out, ← hX]
  clear hX hsz
  go_upto_region 3 with fail
  rw [← HW3.out, ← hY]
  clear hY HW2 HW3 hg2 hg3 hp hSD hok KA B2 c0 c1 c2 x0 x1 x2 x3
  obtain ⟨⟨x0, x1, x2, x3⟩, _⟩ := quad_room (grown_refl W3 none) A3.out
  go_wp2_with fail
  refine CK.out.mono ?_
  rintro e w4 ⟨rfl, hg4⟩
  have A4 : Hid (w4.heap[X]? = some (.cells #[.int .i64 a.kind, .int .i64 a.sess, .int .i64 a.keep, .slice va a.data.length vc] 26)) := pair_old hg4 A3.out
  have B4 : Hid (w4.heap[Y]? = some (.cells #[.int .i64 a.kind, .int .i64 a.sess, .int .i64 a.keep, .slice va a.data.length vc] 26)) := pair_old hg4 B3.out
  have HS4 : Hid (SliceIs w4 (.slice va a.data.length vc) a.data) := HSD.out.grown hg4
  have hgw4 := grown_trans hgw3 hg4
  have hg14 := grown_trans hg13 hg4
  clear x0 x1 x2 x3 A3 B3 HSD CK
  go_wp2_with fail
  refine (PW.out _).mono ?_
  rintro e w' ⟨n, rfl, hn, hw'⟩
  subst w'
  obtain ⟨⟨y0, y1, y2, y3⟩, k0, k1, k2, k3, _⟩ := quad_room (grown_refl w4 none) B4.out
  by_cases h0 : n = 0
  · subst h0
    obtain ⟨W5, hW5⟩ : ∃ W5 : World, W5 = w4.setCell ⟨Y, 1, none⟩ (.int .i64 3) := ⟨_, rfl⟩
    have HW5 : Hid (W5 = w4.setCell ⟨Y, 1, none⟩ (.int .i64 3)) := hW5
    have B5 : Hid (W5.heap[Y]? = some (.cells #[.int .i64 a.kind, .int .i64 3, .int .i64 a.keep, .slice va a.data.length vc] 26)) := by show _ = _; rw [hW5]; exact (quad_oneK B4.out _).1
    have A5 : Hid (W5.heap[X]? = some (.cells #[.int .i64 a.kind, .int .i64 a.sess, .int .i64 a.keep, .slice va a.data.length vc] 26)) := by show _ = _; rw [hW5]; exact set_elseK A4.out hXY
    have hgw5 : w.grownBy W5 none := by rw [hW5]; exact grown_setNew hgw4 _ HYw.out _ _
    have hg15 : w1.grownBy W5 none := by rw [hW5]; exact grown_setNew hg14 _ HY1.out _ _
    have CK5 : Hid (∀ W, W5.grownBy W none → Calls Try.prog 5 #[.agg #[.int .i64 a.kind, .int .i64 3, .int .i64 a.keep, .slice va a.data.length vc]] W fun e w' => e = .returned (.int .i64 (actE ⟨a.kind, 3, a.keep, a.data⟩)) ∧ W.grownBy w' none) := fun W h => HC.out W _ ⟨a.kind, 3, a.keep, a.data⟩ ⟨_, rfl, HSL.out.grown (grown_trans hg15 h)⟩ ⟨HOK2.out.kind, ⟨by simp, by simp⟩, HOK2.out.keep, HOK2.out.data⟩
    have hb0 : decide (actE ⟨a.kind, 3, a.keep, a.data⟩ = 0) = decide (a.kind = 1) := bare_sess HOK.out
    have HB : Hid ((actE ⟨a.kind, 3, a.keep, a.data⟩ == 0) = (a.kind == 1)) := beq_dec hb0
    generalize actE ⟨a.kind, 3, a.keep, a.data⟩ = z at *
    clear hb0 hW5
    go_upto_region 8 with fail
    rw [← HW5.out]
    clear HW5 y0 y1 y2 y3 k0 k1 k2 k3
    have hgd := grown_drew (grown_refl W5 none)
    obtain ⟨⟨y0, y1, y2, y3⟩, _⟩ := quad_room hgd B5.out
    obtain ⟨⟨x0, x1, x2, x3⟩, _⟩ := quad_room hgd A5.out
    generalize a.kind = K at *
    generalize a.sess = ss at *
    generalize a.keep = qq at *
    generalize a.data.length = nn at *
    go_region_held3 (fun w' => w'.cell? ⟨Y, 0, none⟩ = some (.int .i64 K) ∧ w'.cell? ⟨Y, 1, none⟩ = some (.int .i64 3) ∧ w'.cell? ⟨Y, 2, none⟩ = some (.int .i64 qq) ∧ w'.cell? ⟨Y, 3, none⟩ = some (.slice va nn vc) ∧ w'.cell? ⟨X, 0, none⟩ = some (.int .i64 K))
      (first | exact ⟨y0, y1, y2, y3, x0⟩ | exact ⟨t0, t1, t2, t3, u0⟩)
      (first
        | (go_at_call 5; refine (CK5.out _ hgd).mono ?_; rintro e w6 ⟨rfl, hg6⟩; have hg56 := grown_trans hgd hg6; obtain ⟨⟨t0, t1, t2, t3⟩, _⟩ := quad_room hg56 B5.out; obtain ⟨⟨u0, u1, u2, u3⟩, _⟩ := quad_room hg56 A5.out))
    all_goals (
      go_wp2
      go_ret
      exact ⟨by simp [HB.out], grown_trans hgw5 hg56⟩)
  by_cases h1 : n = 1
  · subst h1
    obtain ⟨W5, hW5⟩ : ∃ W5 : World, W5 = w4.setCell ⟨Y, 2, none⟩ (.int .i64 9) := ⟨_, rfl⟩
    have HW5 : Hid (W5 = w4.setCell ⟨Y, 2, none⟩ (.int .i64 9)) := hW5
    have B5 : Hid (W5.heap[Y]? = some (.cells #[.int .i64 a.kind, .int .i64 a.sess, .int .i64 9, .slice va a.data.length vc] 26)) := by show _ = _; rw [hW5]; exact (quad_oneK B4.out _).2.1
    have A5 : Hid (W5.heap[X]? = some (.cells #[.int .i64 a.kind, .int .i64 a.sess, .int .i64 a.keep, .slice va a.data.length vc] 26)) := by show _ = _; rw [hW5]; exact set_elseK A4.out hXY
    have hgw5 : w.grownBy W5 none := by rw [hW5]; exact grown_setNew hgw4 _ HYw.out _ _
    have hg15 : w1.grownBy W5 none := by rw [hW5]; exact grown_setNew hg14 _ HY1.out _ _
    have CK5 : Hid (∀ W, W5.grownBy W none → Calls Try.prog 5 #[.agg #[.int .i64 a.kind, .int .i64 a.sess, .int .i64 9, .slice va a.data.length vc]] W fun e w' => e = .returned (.int .i64 (actE ⟨a.kind, a.sess, 9, a.data⟩)) ∧ W.grownBy w' none) := fun W h => HC.out W _ ⟨a.kind, a.sess, 9, a.data⟩ ⟨_, rfl, HSL.out.grown (grown_trans hg15 h)⟩ ⟨HOK2.out.kind, HOK2.out.sess, ⟨by simp, by simp⟩, HOK2.out.data⟩
    have hb0 : decide (actE ⟨a.kind, a.sess, 9, a.data⟩ = 0) = decide (a.kind = 3) := bare_keep HOK.out
    have HB : Hid ((actE ⟨a.kind, a.sess, 9, a.data⟩ == 0) = (a.kind == 3)) := beq_dec hb0
    generalize actE ⟨a.kind, a.sess, 9, a.data⟩ = z at *
    clear hb0 hW5
    go_upto_region 11 with fail
    rw [← HW5.out]
    clear HW5 y0 y1 y2 y3 k0 k1 k2 k3
    have hgd := grown_drew (grown_refl W5 none)
    obtain ⟨⟨y0, y1, y2, y3⟩, _⟩ := quad_room hgd B5.out
    obtain ⟨⟨x0, x1, x2, x3⟩, _⟩ := quad_room hgd A5.out
    generalize a.kind = K at *
    generalize a.sess = ss at *
    generalize a.keep = qq at *
    generalize a.data.length = nn at *
    go_region_held3 (fun w' => w'.cell? ⟨Y, 0, none⟩ = some (.int .i64 K) ∧ w'.cell? ⟨Y, 1, none⟩ = some (.int .i64 ss) ∧ w'.cell? ⟨Y, 2, none⟩ = some (.int .i64 9) ∧ w'.cell? ⟨Y, 3, none⟩ = some (.slice va nn vc) ∧ w'.cell? ⟨X, 0, none⟩ = some (.int .i64 K))
      (first | exact ⟨y0, y1, y2, y3, x0⟩ | exact ⟨t0, t1, t2, t3, u0⟩)
      (first
        | (go_at_call 5; refine (CK5.out _ hgd).mono ?_; rintro e w6 ⟨rfl, hg6⟩; have hg56 := grown_trans hgd hg6; obtain ⟨⟨t0, t1, t2, t3⟩, _⟩ := quad_room hg56 B5.out; obtain ⟨⟨u0, u1, u2, u3⟩, _⟩ := quad_room hg56 A5.out))
    all_goals (
      go_wp2
      go_ret
      exact ⟨by simp [HB.out], grown_trans hgw5 hg56⟩)
  · have hn2 : n = 2 := by omega
    subst hn2
    obtain ⟨WA, HWA, hgA, BA⟩ := alloc_namedR w4 (.cells #[.int .u8 5] 5)
    have B4a : Hid (WA.heap[Y]? = some (.cells #[.int .i64 a.kind, .int .i64 a.sess, .int .i64 a.keep, .slice va a.data.length vc] 26)) := pair_old hgA B4.out
    have A4a : Hid (WA.heap[X]? = some (.cells #[.int .i64 a.kind, .int .i64 a.sess, .int .i64 a.keep, .slice va a.data.length vc] 26)) := pair_old hgA A4.out
    have hgwA := grown_trans hgw4 hgA
    have HSL5 : Hid (SliceIs WA (.slice (some ⟨w4.heap.size, 0, none⟩) 1 1) [5]) := by
      show SliceIs WA _ _
      rw [HWA.out]; exact one_slice w4 5 5
    obtain ⟨Q, hQ⟩ : ∃ Q, Q = w4.heap.size := ⟨_, rfl⟩
    rw [← hQ] at HSL5 BA
    have HPT5 : Hid (PartIs 0 WA (.slice (some ⟨Q, 0, none⟩) 1 1) [5]) := ⟨HSL5.out, .inr ⟨Q, rfl, (Array.getElem?_eq_some_iff.1 BA.out).1, .inr ⟨_, _, BA.out⟩⟩⟩
    have hYQ : Y < Q := by rw [hQ]; exact (Array.getElem?_eq_some_iff.1 B4.out).1
    obtain ⟨⟨m0, m1, m2, m3⟩, l0, l1, l2, l3, _⟩ := quad_room (grown_refl WA none) B4a.out
    rw [HWA.out] at m0 m1 m2 m3 l0 l1 l2 l3
    obtain ⟨W5, hW5⟩ : ∃ W5 : World, W5 = WA.setCell ⟨Y, 3, none⟩ (.slice (some ⟨Q, 0, none⟩) 1 1) := ⟨_, rfl⟩
    have HW5 : Hid (W5 = WA.setCell ⟨Y, 3, none⟩ (.slice (some ⟨Q, 0, none⟩) 1 1)) := hW5
    have B5 : Hid (W5.heap[Y]? = some (.cells #[.int .i64 a.kind, .int .i64 a.sess, .int .i64 a.keep, .slice (some ⟨Q, 0, none⟩) 1 1] 26)) := by show _ = _; rw [hW5]; exact (quad_oneK B4a.out _).2.2
    have A5 : Hid (W5.heap[X]? = some (.cells #[.int .i64 a.kind, .int .i64 a.sess, .int .i64 a.keep, .slice va a.data.length vc] 26)) := by show _ = _; rw [hW5]; exact set_elseK A4a.out hXY
    have hgw5 : w.grownBy W5 none := by rw [hW5]; exact grown_setNew hgwA _ HYw.out _ _
    have HS5 : Hid (SliceIs W5 (.slice (some ⟨Q, 0, none⟩) 1 1) [5]) := by
      show SliceIs W5 _ _
      rw [hW5]
      exact (HPT5.out.keptT (grown_set (grown_refl WA (some Y)) 3 _) (.inr ⟨Y, _, _, _, rfl, Nat.zero_le _, B4a.out, acT5⟩)).slice
    have CK5 : Hid (∀ W, W5.grownBy W none → Calls Try.prog 5 #[.agg #[.int .i64 a.kind, .int .i64 a.sess, .int .i64 a.keep, .slice (some ⟨Q, 0, none⟩) 1 1]] W fun e w' => e = .returned (.int .i64 (actE ⟨a.kind, a.sess, a.keep, [5]⟩)) ∧ W.grownBy w' none) := fun W h => HC.out W _ ⟨a.kind, a.sess, a.keep, [5]⟩ ⟨_, rfl, HS5.out.grown h⟩ ⟨HOK2.out.kind, HOK2.out.sess, HOK2.out.keep, by simp⟩
    have hb0 : decide (actE ⟨a.kind, a.sess, a.keep, [5]⟩ = 0) = decide (a.kind = 1) := bare_data HOK.out 5
    have HB : Hid ((actE ⟨a.kind, a.sess, a.keep, [5]⟩ == 0) = (a.kind == 1)) := beq_dec hb0
    generalize actE ⟨a.kind, a.sess, a.keep, [5]⟩ = z at *
    clear hb0 hW5
    go_upto_region 13 with fail
    rw [← HWA.out, ← hQ, ← HW5.out]
    clear HW5 y0 y1 y2 y3 k0 k1 k2 k3 HWA hQ m0 m1 m2 m3 l0 l1 l2 l3
    have hgd := grown_drew (grown_refl W5 none)
    obtain ⟨⟨y0, y1, y2, y3⟩, _⟩ := quad_room hgd B5.out
    obtain ⟨⟨x0, x1, x2, x3⟩, _⟩ := quad_room hgd A5.out
    generalize a.kind = K at *
    generalize a.sess = ss at *
    generalize a.keep = qq at *
    generalize a.data.length = nn at *
    go_region_held3 (fun w' => w'.cell? ⟨Y, 0, none⟩ = some (.int .i64 K) ∧ w'.cell? ⟨Y, 1, none⟩ = some (.int .i64 ss) ∧ w'.cell? ⟨Y, 2, none⟩ = some (.int .i64 qq) ∧ w'.cell? ⟨Y, 3, none⟩ = some (.slice (some ⟨Q, 0, none⟩) 1 1) ∧ w'.cell? ⟨X, 0, none⟩ = some (.int .i64 K))
      (first | exact ⟨y0, y1, y2, y3, x0⟩ | exact ⟨t0, t1, t2, t3, u0⟩)
      (first
        | (go_at_call 5; refine (CK5.out _ hgd).mono ?_; rintro e w6 ⟨rfl, hg6⟩; have hg56 := grown_trans hgd hg6; obtain ⟨⟨t0, t1, t2, t3⟩, _⟩ := quad_room hg56 B5.out; obtain ⟨⟨u0, u1, u2, u3⟩, _⟩ := quad_room hg56 A5.out))
    all_goals (
      go_wp2
      go_ret
      exact ⟨by simp [HB.out], grown_trans hgw5 hg56⟩)
end Go.Proofs.Ytpefggkhjocanab
