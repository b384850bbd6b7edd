/-
  The walk of the document's answer to P8.7: touched.
-/
import Derived.Test.YtpmfbfflacbmjaaRTx1
import Derived.Test.YtpmfbfflacbmjaaPart2
import Derived.Test.YtpmfbfflacbmjaaPart11
namespace Go.Proofs.Ytpmfbfflacbmjaa
open Go.RowKit
set_option maxRecDepth 100000 in
set_option maxHeartbeats 2000000 in
theorem touched_any (w : World) (v u : Value) (r : Rd) (q : Plc) (hv : ReadIs w v r) (hu : WriteIs w u q) :
    Calls Try.prog 71 #[v, u] w fun e w' => e = .returned (.bool (touch r q)) ∧ w.grownBy w' none := by
  obtain ⟨na, nc, ka, kc, la, lc, rfl⟩ := hv.agg
  obtain ⟨ma, mc, ja, jc, ha, hc, rfl⟩ := hu.aggW
  obtain ⟨v1, v2, _, v3⟩ := hv.parts
  obtain ⟨y1, y2, y3, ey, u1, u2, u3⟩ := hu
  simp only [Value.agg.injEq, Array.mk.injEq, List.cons.injEq, and_true] at ey
  obtain ⟨rfl, rfl, _, rfl⟩ := ey
  obtain ⟨W1, HW1, hg1, B1⟩ := alloc_namedX w (.cells #[.slice na r.name.length nc, .slice ka r.key.length kc, .bool r.wide, .slice la r.last.length lc] 33)
  obtain ⟨W2, HW2, hg2, B2⟩ := alloc_namedX W1 (.cells #[.slice ma q.name.length mc, .slice ja q.key.length jc, .bool q.gone, .slice ha q.value.length hc] 39)
  have hg := grown_trans hg1 hg2
  obtain ⟨⟨a0, a1, a2, a3⟩, _⟩ := quad_room hg2 B1.out
  obtain ⟨⟨b0, b1, b2, b3⟩, _⟩ := quad_room (grown_refl W2 none) B2.out
  have SN : Hid (Calls Try.prog 55 #[.slice na r.name.length nc, .slice ma q.name.length mc] W2 fun e w' => e = .returned (.bool (decide (r.name = q.name))) ∧ w' = W2) := rsame_any W2 _ _ _ _ (v1.grown hg) (u1.grown hg)
  have SK : Hid (Calls Try.prog 55 #[.slice ka r.key.length kc, .slice ja q.key.length jc] W2 fun e w' => e = .returned (.bool (decide (r.key = q.key))) ∧ w' = W2) := rsame_any W2 _ _ _ _ (v2.grown hg) (u2.grown hg)
  have BF1 : Hid (Calls Try.prog 62 #[.slice ja q.key.length jc, .slice ka r.key.length kc] W2 fun e w' => e = .returned (.bool (klt q.key r.key)) ∧ w' = W2) := before_any W2 _ _ _ _ (u2.grown hg) (v2.grown hg)
  have BF2 : Hid (Calls Try.prog 62 #[.slice la r.last.length lc, .slice ja q.key.length jc] W2 fun e w' => e = .returned (.bool (klt r.last q.key)) ∧ w' = W2) := before_any W2 _ _ _ _ (v3.grown hg) (u2.grown hg)
  have HE : Hid (touch r q = (decide (r.name = q.name) && (if r.wide = true then (!klt q.key r.key && !klt r.last q.key) else decide (r.key = q.key)))) := rfl
  obtain ⟨Z, hZ⟩ : ∃ Z, Z = touch r q := ⟨_, rfl⟩
  rw [← hZ] at HE ⊢
  have HX : Hid (W2 = (w.alloc (.cells #[.slice na r.name.length nc, .slice ka r.key.length kc, .bool r.wide, .slice la r.last.length lc] 33)).alloc (.cells #[.slice ma q.name.length mc, .slice ja q.key.length jc, .bool q.gone, .slice ha q.value.length hc] 39)) := by show _ = _; rw [HW2.out, HW1.out]
  have hsz : W1.heap.size = w.heap.size + 1 := by rw [HW1.out]; simp
  rw [hsz] at b0 b1 b2 b3
  clear hZ hv v1 v2 v3 u1 u2 u3 hsz B1 B2 HW1 HW2
  generalize decide (r.name = q.name) = EN at *
  generalize decide (r.key = q.key) = EK at *
  generalize klt q.key r.key = E1 at *
  generalize klt r.last q.key = E2 at *
  generalize r.wide = wd at *
  cases EN with
  | false =>
    have HZ : Hid (Z = false) := by show _ = _; rw [HE.out]; rfl
    clear HE
    go_enter Try.func71, Try.ntmps71
    go_upto_region 1 with fail
    rw [← HX.out]
    go_wp2_with fail
    refine SN.out.mono ?_
    rintro e w1 ⟨rfl, rfl⟩
    go_wp2
    go_ret
    exact ⟨ret_boolX HZ.out, hg⟩
  | true =>
    cases wd with
    | false =>
      have HZ : Hid (Z = EK) := by show _ = _; rw [HE.out, if_neg (by decide)]; rfl
      clear HE
      go_enter Try.func71, Try.ntmps71
      go_upto_region 1 with fail
      rw [← HX.out]
      go_wp2_with fail
      refine SN.out.mono ?_
      rintro e w1 ⟨rfl, rfl⟩
      go_wp2_with fail
      refine SK.out.mono ?_
      rintro e w1 ⟨rfl, rfl⟩
      go_wp2
      go_ret
      exact ⟨ret_boolX HZ.out, hg⟩
    | true =>
      cases E1 with
      | true =>
        have HZ : Hid (Z = false) := by show _ = _; rw [HE.out, if_pos rfl]; rfl
        clear HE
        go_enter Try.func71, Try.ntmps71
        go_upto_region 1 with fail
        rw [← HX.out]
        go_wp2_with fail
        refine SN.out.mono ?_
        rintro e w1 ⟨rfl, rfl⟩
        go_wp2_with fail
        refine BF1.out.mono ?_
        rintro e w1 ⟨rfl, rfl⟩
        go_wp2
        go_ret
        exact ⟨ret_boolX HZ.out, hg⟩
      | false =>
        have HZ : Hid (Z = !E2) := by show _ = _; rw [HE.out, if_pos rfl]; rfl
        clear HE
        go_enter Try.func71, Try.ntmps71
        go_upto_region 1 with fail
        rw [← HX.out]
        go_wp2_with fail
        refine SN.out.mono ?_
        rintro e w1 ⟨rfl, rfl⟩
        go_wp2_with fail
        refine BF1.out.mono ?_
        rintro e w1 ⟨rfl, rfl⟩
        go_wp2_with fail
        refine BF2.out.mono ?_
        rintro e w1 ⟨rfl, rfl⟩
        go_wp2
        go_ret
        exact ⟨ret_boolX HZ.out, hg⟩
end Go.Proofs.Ytpmfbfflacbmjaa
