/-
  txn.meets, as it landed: is a write where something is read?
-/
import Derived.Test.YtpmfbfflacbmjacPart2
import Derived.Test.YtpmfbfflacbmjacEqB
import Derived.Test.YtpmfbfflacbmjacPart4
namespace Go.Proofs.Ytpmfbfflacbmjac
open Go.RowKit
theorem cmpF_le (a b : List UInt8) : decide (cmpF a b ≤ 0) = !klt b a := by
  by_cases h : klt a b = true
  · rw [cmpF_lt a b h]
    have : klt b a = false := by
      cases h2 : klt b a with
      | false => rfl
      | true => have := klt_trans _ _ _ h h2; rw [klt_irrefl] at this; cases this
    rw [this]; rfl
  · have hf : klt a b = false := by simpa using h
    by_cases he : a = b
    · subst he; rw [cmpF_eq, klt_irrefl]; rfl
    · rw [cmpF_gt a b hf he, klt_total a b hf he]; rfl
theorem touch_cmp (r : Rd) (w : Plc) : touch r w = (decide (r.name = w.name) && (decide (cmpF r.key w.key ≤ 0) && decide (cmpF w.key (if r.wide = true then r.last else r.key) ≤ 0))) := by
  unfold touch inR
  rw [cmpF_le, cmpF_le]
  congr 1
  by_cases hw : r.wide = true
  · rw [if_pos hw, if_pos hw]
  · rw [if_neg hw, if_neg hw]
    by_cases he : r.key = w.key
    · rw [he, klt_irrefl]; simp
    · rw [decide_eq_false he]
      cases h1 : klt w.key r.key with
      | true => rfl
      | false => rw [klt_total w.key r.key h1 (fun e => he e.symm)]; rfl
set_option maxRecDepth 100000 in
set_option maxHeartbeats 2000000 in
theorem meets_any (w : World) (v u : Value) (r : Rd) (q : Plc) (hv : ReadIs w v r) (hu : WriteIs w u q) :
    Calls Try.prog 26 #[v, u] w fun e w' => e = .returned (.bool (touch r q)) ∧ w.grownBy w' none := by
  obtain ⟨na, nc, ka, kc, la, lc, rfl⟩ := hv.agg
  obtain ⟨ma, mc, ja, jc, ha, hc, rfl⟩ := hu.aggW
  obtain ⟨s1, s2, _, s3⟩ := hv.parts
  obtain ⟨x1, x2, x3, ex, v1, v2, v3⟩ := hu
  simp only [Value.agg.injEq, Array.mk.injEq, List.cons.injEq, and_true] at ex
  obtain ⟨rfl, rfl, _, rfl⟩ := ex
  obtain ⟨W1, HW1, hg1, B1⟩ := alloc_namedX w (.cells #[.slice na r.name.length nc, .slice ka r.key.length kc, .bool r.wide, .slice la r.last.length lc] 40)
  obtain ⟨W2, HW2, hg2, B2⟩ := alloc_namedX W1 (.cells #[.slice ma q.name.length mc, .slice ja q.key.length jc, .bool q.gone, .slice ha q.value.length hc] 53)
  have hg := grown_trans hg1 hg2
  obtain ⟨⟨a0, a1, a2, a3⟩, _⟩ := quad_room hg2 B1.out
  obtain ⟨⟨b0, b1, b2, b3⟩, _⟩ := quad_room (grown_refl W2 none) B2.out
  have HX : Hid (W2 = (w.alloc (.cells #[.slice na r.name.length nc, .slice ka r.key.length kc, .bool r.wide, .slice la r.last.length lc] 40)).alloc (.cells #[.slice ma q.name.length mc, .slice ja q.key.length jc, .bool q.gone, .slice ha q.value.length hc] 53)) := by show _ = _; rw [HW2.out, HW1.out]
  have hsz : W1.heap.size = w.heap.size + 1 := by rw [HW1.out]; simp
  rw [hsz] at b0 b1 b2 b3
  have SN : Hid (Calls Try.prog 51 #[.slice na r.name.length nc, .slice ma q.name.length mc] W2 fun e w' => e = .returned (.bool (decide (r.name = q.name))) ∧ w' = W2) := equal_any W2 _ _ _ _ (s1.grown hg) (v1.grown hg)
  have C1 : Hid (Calls Try.prog 52 #[.slice ka r.key.length kc, .slice ja q.key.length jc] W2 fun e w' => e = .returned (.int .i64 (cmpF r.key q.key)) ∧ w' = W2) := compare_any W2 _ _ _ _ (s2.grown hg) (v2.grown hg)
  have C2 : Hid (Calls Try.prog 52 #[.slice ja q.key.length jc, if r.wide = true then .slice la r.last.length lc else .slice ka r.key.length kc] W2 fun e w' => e = .returned (.int .i64 (cmpF q.key (if r.wide = true then r.last else r.key))) ∧ w' = W2) := by
    by_cases hw : r.wide = true
    · rw [if_pos hw, if_pos hw]; exact compare_any W2 _ _ _ _ (v2.grown hg) (s3.grown hg)
    · rw [if_neg hw, if_neg hw]; exact compare_any W2 _ _ _ _ (v2.grown hg) (s2.grown hg)
  have HE : Hid (touch r q = (decide (r.name = q.name) && (decide (cmpF r.key q.key ≤ 0) && decide (cmpF q.key (if r.wide = true then r.last else r.key) ≤ 0)))) := touch_cmp r q
  obtain ⟨Z, hZ⟩ : ∃ Z, Z = touch r q := ⟨_, rfl⟩
  rw [← hZ] at HE ⊢
  clear hZ hv v1 v2 v3 s1 s2 s3 hsz B1 B2 HW1 HW2
  generalize decide (r.name = q.name) = EN at *
  generalize cmpF r.key q.key = z1 at *
  generalize cmpF q.key (if r.wide = true then r.last else r.key) = z2 at *
  generalize r.name.length = n1 at *
  generalize r.key.length = n2 at *
  generalize r.last.length = n3 at *
  generalize q.name.length = n4 at *
  generalize q.key.length = n5 at *
  generalize q.value.length = n6 at *
  generalize q.gone = wq at *
  generalize r.wide = wr at *
  cases wr
  all_goals
    first | rw [if_pos rfl] at C2 | rw [if_neg (by decide)] at C2
    cases EN
    · have HZ : Hid (Z = false) := by show _ = _; rw [HE.out]; rfl
      clear HE
      go_enter Try.func26, Try.ntmps26
      go_upto_region 1 with fail
      rw [← HX.out]
      go_wp2_with fail
      refine SN.out.mono ?_
      rintro e w1 ⟨rfl, rfl⟩
      go_wp2
      go_ret
      exact ⟨ret_boolX HZ.out, hg⟩
    · by_cases h1 : z1 ≤ 0
      · have HZ : Hid (Z = decide (z2 ≤ 0)) := by show _ = _; rw [HE.out, decide_eq_true h1]; rfl
        clear HE
        by_cases h2 : z2 ≤ 0
        · rw [decide_eq_true h2] at HZ
          go_enter Try.func26, Try.ntmps26
          go_upto_region 1 with fail
          rw [← HX.out]
          go_wp2_with fail
          refine SN.out.mono ?_
          rintro e w1 ⟨rfl, rfl⟩
          go_wp2_with fail
          refine C1.out.mono ?_
          rintro e w1 ⟨rfl, rfl⟩
          go_wp2_with fail
          refine C2.out.mono ?_
          rintro e w1 ⟨rfl, rfl⟩
          go_wp2
          go_ret
          exact ⟨ret_boolX HZ.out, hg⟩
        · skip
          go_enter Try.func26, Try.ntmps26
          go_upto_region 1 with fail
          rw [← HX.out]
          go_wp2_with fail
          refine SN.out.mono ?_
          rintro e w1 ⟨rfl, rfl⟩
          go_wp2_with fail
          refine C1.out.mono ?_
          rintro e w1 ⟨rfl, rfl⟩
          go_wp2_with fail
          refine C2.out.mono ?_
          rintro e w1 ⟨rfl, rfl⟩
          go_wp2
          go_ret
          exact ⟨ret_boolX HZ.out, hg⟩
      · have HZ : Hid (Z = false) := by show _ = _; rw [HE.out, decide_eq_false h1]; rfl
        clear HE
        go_enter Try.func26, Try.ntmps26
        go_upto_region 1 with fail
        rw [← HX.out]
        go_wp2_with fail
        refine SN.out.mono ?_
        rintro e w1 ⟨rfl, rfl⟩
        go_wp2_with fail
        refine C1.out.mono ?_
        rintro e w1 ⟨rfl, rfl⟩
        go_wp2
        go_ret
        exact ⟨ret_boolX HZ.out, hg⟩
end Go.Proofs.Ytpmfbfflacbmjac
