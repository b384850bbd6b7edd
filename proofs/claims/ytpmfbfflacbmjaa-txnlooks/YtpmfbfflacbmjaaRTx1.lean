/-
  The walks of the document's answer to P8.1: readFault, sameRead, samePlace.
-/
import Derived.Test.YtpmfbfflacbmjaaPart6
import Derived.Test.YtpmfbfflacbmjaaPart13
import Derived.Test.YtpmfbfflacbmjaaRKeyF
import Derived.Test.YtpmfbfflacbmjaaPart14
namespace Go.Proofs.Ytpmfbfflacbmjaa
open Go.RowKit
set_option maxRecDepth 100000 in
set_option maxHeartbeats 2000000 in
theorem readFault_any (w : World) (v : Value) (r : Rd) (hv : ReadIs w v r) :
    Calls Try.prog 34 #[v] w fun e w' => e = .returned (.int .i64 (readE r)) ∧ w.grownBy w' none := by
  obtain ⟨na, nc, ka, kc, la, lc, rfl⟩ := hv.agg
  obtain ⟨W1, HW1, hgW, B1⟩ := alloc_namedX w (.cells #[.slice na r.name.length nc, .slice ka r.key.length kc, .bool r.wide, .slice la r.last.length lc] 33)
  obtain ⟨⟨a0, a1, a2, a3⟩, _⟩ := quad_room (grown_refl W1 none) B1.out
  have HE : Hid (readE r = if nameFaultF r.name.length = 0 then (if keyFaultF r.key.length = 0 then (if r.wide = true then keyFaultF r.last.length else (if 0 < r.last.length then 4 else 0)) else keyFaultF r.key.length) else nameFaultF r.name.length) := rfl
  generalize readE r = WE at *
  have NF : Hid (∀ w', Calls Try.prog 53 #[.slice na r.name.length nc] w' fun e w'' => e = .returned (.int .i64 (nameFaultF r.name.length)) ∧ w'' = w') := fun w' => nameFault_any w' na _ nc
  have KF : Hid (∀ w', Calls Try.prog 54 #[.slice ka r.key.length kc] w' fun e w'' => e = .returned (.int .i64 (keyFaultF r.key.length)) ∧ w'' = w') := fun w' => keyFault_any w' ka _ kc
  have LF : Hid (∀ w', Calls Try.prog 54 #[.slice la r.last.length lc] w' fun e w'' => e = .returned (.int .i64 (keyFaultF r.last.length)) ∧ w'' = w') := fun w' => keyFault_any w' la _ lc
  generalize nameFaultF r.name.length = NE at *
  generalize keyFaultF r.key.length = KE at *
  generalize keyFaultF r.last.length = LE at *
  generalize r.name.length = n1 at *
  generalize r.key.length = n2 at *
  generalize r.last.length = n3 at *
  generalize r.wide = wd at *
  clear hv
  by_cases h1 : NE = 0
  · by_cases h2 : KE = 0
    · cases wd with
      | true =>
        have HW : Hid (WE = LE) := by show _ = _; rw [HE.out, if_pos h1, if_pos h2, if_pos rfl]
        subst h1; subst h2
        clear HE
        by_cases h3 : LE = 0
        · subst h3
          go_enter Try.func34, Try.ntmps34
          go_wp2_with fail
          rw [← HW1.out]
          refine (NF.out _).mono ?_
          rintro e w1 ⟨rfl, rfl⟩
          go_wp2_with fail
          refine (KF.out _).mono ?_
          rintro e w2 ⟨rfl, rfl⟩
          go_wp2_with fail
          refine (LF.out _).mono ?_
          rintro e w3 ⟨rfl, rfl⟩
          go_wp2
          go_ret
          exact ⟨ret_intX HW.out, hgW⟩
        · have h3' : (LE == 0) = false := by simpa using h3
          clear h3
          go_enter Try.func34, Try.ntmps34
          go_wp2_with fail
          rw [← HW1.out]
          refine (NF.out _).mono ?_
          rintro e w1 ⟨rfl, rfl⟩
          go_wp2_with fail
          refine (KF.out _).mono ?_
          rintro e w2 ⟨rfl, rfl⟩
          go_wp2_with fail
          refine (LF.out _).mono ?_
          rintro e w3 ⟨rfl, rfl⟩
          go_wp2
          go_ret
          exact ⟨ret_intX HW.out, hgW⟩
      | false =>
        by_cases h3 : 0 < n3
        · have HW : Hid (WE = 4) := by show _ = _; rw [HE.out, if_pos h1, if_pos h2, if_neg (by decide), if_pos h3]
          have i3 : (n3 : Int) > 0 := by omega
          subst h1; subst h2
          clear HE
          go_enter Try.func34, Try.ntmps34
          go_wp2_with fail
          rw [← HW1.out]
          refine (NF.out _).mono ?_
          rintro e w1 ⟨rfl, rfl⟩
          go_wp2_with fail
          refine (KF.out _).mono ?_
          rintro e w2 ⟨rfl, rfl⟩
          go_wp2
          go_ret
          exact ⟨ret_intX HW.out, hgW⟩
        · have HW : Hid (WE = 0) := by show _ = _; rw [HE.out, if_pos h1, if_pos h2, if_neg (by decide), if_neg h3]
          have i3 : ¬ (n3 : Int) > 0 := by omega
          subst h1; subst h2
          clear HE
          go_enter Try.func34, Try.ntmps34
          go_wp2_with fail
          rw [← HW1.out]
          refine (NF.out _).mono ?_
          rintro e w1 ⟨rfl, rfl⟩
          go_wp2_with fail
          refine (KF.out _).mono ?_
          rintro e w2 ⟨rfl, rfl⟩
          go_wp2
          go_ret
          exact ⟨ret_intX HW.out, hgW⟩
    · have HW : Hid (WE = KE) := by show _ = _; rw [HE.out, if_pos h1, if_neg h2]
      have h2' : (KE == 0) = false := by simpa using h2
      subst h1
      clear HE h2
      go_enter Try.func34, Try.ntmps34
      go_wp2_with fail
      rw [← HW1.out]
      refine (NF.out _).mono ?_
      rintro e w1 ⟨rfl, rfl⟩
      go_wp2_with fail
      refine (KF.out _).mono ?_
      rintro e w2 ⟨rfl, rfl⟩
      go_wp2
      go_ret
      exact ⟨ret_intX HW.out, hgW⟩
  · have HW : Hid (WE = NE) := by show _ = _; rw [HE.out, if_neg h1]
    have h1' : (NE == 0) = false := by simpa using h1
    clear HE h1
    go_enter Try.func34, Try.ntmps34
    go_wp2_with fail
    rw [← HW1.out]
    refine (NF.out _).mono ?_
    rintro e w1 ⟨rfl, rfl⟩
    go_wp2
    go_ret
    exact ⟨ret_intX HW.out, hgW⟩
set_option maxRecDepth 100000 in
set_option maxHeartbeats 2000000 in
theorem sameRead_any (w : World) (v u : Value) (r q : Rd) (hv : ReadIs w v r) (hu : ReadIs w u q) :
    Calls Try.prog 35 #[v, u] w fun e w' => e = .returned (.bool (rdSame r q)) ∧ w.grownBy w' none := by
  obtain ⟨na, nc, ka, kc, la, lc, rfl⟩ := hv.agg
  obtain ⟨ma, mc, ja, jc, ha, hc, rfl⟩ := hu.agg
  obtain ⟨v1, v2, _, v3⟩ := hv.parts
  obtain ⟨u1, u2, _, u3⟩ := hu.parts
  obtain ⟨W1, HW1, hg1, B1⟩ := alloc_namedX w (.cells #[.slice na r.name.length nc, .slice ka r.key.length kc, .bool r.wide, .slice la r.last.length lc] 33)
  obtain ⟨W2, HW2, hg2, B2⟩ := alloc_namedX W1 (.cells #[.slice ma q.name.length mc, .slice ja q.key.length jc, .bool q.wide, .slice ha q.last.length hc] 33)
  have hg := grown_trans hg1 hg2
  obtain ⟨⟨a0, a1, a2, a3⟩, _⟩ := quad_room hg2 B1.out
  obtain ⟨⟨b0, b1, b2, b3⟩, _⟩ := quad_room (grown_refl W2 none) B2.out
  have SN : Hid (Calls Try.prog 55 #[.slice na r.name.length nc, .slice ma q.name.length mc] W2 fun e w' => e = .returned (.bool (decide (r.name = q.name))) ∧ w' = W2) := rsame_any W2 _ _ _ _ (v1.grown hg) (u1.grown hg)
  have SK : Hid (Calls Try.prog 55 #[.slice ka r.key.length kc, .slice ja q.key.length jc] W2 fun e w' => e = .returned (.bool (decide (r.key = q.key))) ∧ w' = W2) := rsame_any W2 _ _ _ _ (v2.grown hg) (u2.grown hg)
  have SL : Hid (Calls Try.prog 55 #[.slice la r.last.length lc, .slice ha q.last.length hc] W2 fun e w' => e = .returned (.bool (decide (r.last = q.last))) ∧ w' = W2) := rsame_any W2 _ _ _ _ (v3.grown hg) (u3.grown hg)
  have HE : Hid (rdSame r q = (r.wide == q.wide && (decide (r.name = q.name) && (decide (r.key = q.key) && decide (r.last = q.last))))) := rfl
  obtain ⟨Z, hZ⟩ : ∃ Z, Z = rdSame r q := ⟨_, rfl⟩
  rw [← hZ] at HE ⊢
  have HX : Hid (W2 = (w.alloc (.cells #[.slice na r.name.length nc, .slice ka r.key.length kc, .bool r.wide, .slice la r.last.length lc] 33)).alloc (.cells #[.slice ma q.name.length mc, .slice ja q.key.length jc, .bool q.wide, .slice ha q.last.length hc] 33)) := by show _ = _; rw [HW2.out, HW1.out]
  have hsz : W1.heap.size = w.heap.size + 1 := by rw [HW1.out]; simp
  rw [hsz] at b0 b1 b2 b3
  clear hZ hv hu v1 v2 v3 u1 u2 u3 hsz B1 B2 HW1 HW2
  generalize decide (r.name = q.name) = EN at *
  generalize decide (r.key = q.key) = EK at *
  generalize decide (r.last = q.last) = EL at *
  generalize r.name.length = n1 at *
  generalize r.key.length = n2 at *
  generalize r.last.length = n3 at *
  generalize q.name.length = n4 at *
  generalize q.key.length = n5 at *
  generalize q.last.length = n6 at *
  generalize r.wide = wr at *
  generalize q.wide = wq at *
  cases wr <;> cases wq
  case false.true | true.false =>
    all_goals
      have HZ : Hid (Z = false) := by show _ = _; rw [HE.out]; rfl
      clear HE
      go_enter Try.func35, Try.ntmps35
      go_upto_region 1 with fail
      rw [← HX.out]
      go_wp2
      go_ret
      exact ⟨ret_boolX HZ.out, hg⟩
  all_goals
    cases EN
    · have HZ : Hid (Z = false) := by show _ = _; rw [HE.out]; rfl
      clear HE
      go_enter Try.func35, Try.ntmps35
      go_upto_region 1 with fail
      rw [← HX.out]
      go_wp2_with fail
      refine SN.out.mono ?_
      rintro e w1 ⟨rfl, rfl⟩
      go_wp2
      go_ret
      exact ⟨ret_boolX HZ.out, hg⟩
    · cases EK
      · have HZ : Hid (Z = false) := by show _ = _; rw [HE.out]; rfl
        clear HE
        go_enter Try.func35, Try.ntmps35
        go_upto_region 1 with fail
        rw [← HX.out]
        go_wp2_with fail
        refine SN.out.mono ?_
        rintro e w1 ⟨rfl, rfl⟩
        go_wp2_with fail
        refine SK.out.mono ?_
        rintro e w1 ⟨rfl, rfl⟩
        go_wp2
        go_ret
        exact ⟨ret_boolX HZ.out, hg⟩
      · have HZ : Hid (Z = EL) := by show _ = _; rw [HE.out]; rfl
        clear HE
        go_enter Try.func35, Try.ntmps35
        go_upto_region 1 with fail
        rw [← HX.out]
        go_wp2_with fail
        refine SN.out.mono ?_
        rintro e w1 ⟨rfl, rfl⟩
        go_wp2_with fail
        refine SK.out.mono ?_
        rintro e w1 ⟨rfl, rfl⟩
        go_wp2_with fail
        refine SL.out.mono ?_
        rintro e w1 ⟨rfl, rfl⟩
        go_wp2
        go_ret
        exact ⟨ret_boolX HZ.out, hg⟩
set_option maxRecDepth 100000 in
set_option maxHeartbeats 2000000 in
theorem samePlace_any (w : World) (v u : Value) (p q : Plc) (hv : WriteIs w v p) (hu : WriteIs w u q) :
    Calls Try.prog 37 #[v, u] w fun e w' => e = .returned (.bool (plSame p q)) ∧ w.grownBy w' none := by
  obtain ⟨na, nc, ka, kc, la, lc, rfl⟩ := hv.aggW
  obtain ⟨ma, mc, ja, jc, ha, hc, rfl⟩ := hu.aggW
  obtain ⟨x1, x2, x3, ex, v1, v2, v3⟩ := hv
  obtain ⟨y1, y2, y3, ey, u1, u2, u3⟩ := hu
  simp only [Value.agg.injEq, Array.mk.injEq, List.cons.injEq, and_true] at ex ey
  obtain ⟨rfl, rfl, _, rfl⟩ := ex
  obtain ⟨rfl, rfl, _, rfl⟩ := ey
  obtain ⟨W1, HW1, hg1, B1⟩ := alloc_namedX w (.cells #[.slice na p.name.length nc, .slice ka p.key.length kc, .bool p.gone, .slice la p.value.length lc] 39)
  obtain ⟨W2, HW2, hg2, B2⟩ := alloc_namedX W1 (.cells #[.slice ma q.name.length mc, .slice ja q.key.length jc, .bool q.gone, .slice ha q.value.length hc] 39)
  have hg := grown_trans hg1 hg2
  obtain ⟨⟨a0, a1, a2, a3⟩, _⟩ := quad_room hg2 B1.out
  obtain ⟨⟨b0, b1, b2, b3⟩, _⟩ := quad_room (grown_refl W2 none) B2.out
  have SN : Hid (Calls Try.prog 55 #[.slice na p.name.length nc, .slice ma q.name.length mc] W2 fun e w' => e = .returned (.bool (decide (p.name = q.name))) ∧ w' = W2) := rsame_any W2 _ _ _ _ (v1.grown hg) (u1.grown hg)
  have SK : Hid (Calls Try.prog 55 #[.slice ka p.key.length kc, .slice ja q.key.length jc] W2 fun e w' => e = .returned (.bool (decide (p.key = q.key))) ∧ w' = W2) := rsame_any W2 _ _ _ _ (v2.grown hg) (u2.grown hg)
  have HE : Hid (plSame p q = (decide (p.name = q.name) && decide (p.key = q.key))) := rfl
  obtain ⟨Z, hZ⟩ : ∃ Z, Z = plSame p q := ⟨_, rfl⟩
  rw [← hZ] at HE ⊢
  have HX : Hid (W2 = (w.alloc (.cells #[.slice na p.name.length nc, .slice ka p.key.length kc, .bool p.gone, .slice la p.value.length lc] 39)).alloc (.cells #[.slice ma q.name.length mc, .slice ja q.key.length jc, .bool q.gone, .slice ha q.value.length hc] 39)) := by show _ = _; rw [HW2.out, HW1.out]
  have hsz : W1.heap.size = w.heap.size + 1 := by rw [HW1.out]; simp
  rw [hsz] at b0 b1 b2 b3
  clear hZ v1 v2 v3 u1 u2 u3 hsz B1 B2 HW1 HW2
  generalize decide (p.name = q.name) = EN at *
  generalize decide (p.key = q.key) = EK at *
  cases EN with
  | false =>
    have HZ : Hid (Z = false) := by show _ = _; rw [HE.out]; rfl
    clear HE
    go_enter Try.func37, Try.ntmps37
    go_upto_region 1 with fail
    rw [← HX.out]
    go_wp2_with fail
    refine SN.out.mono ?_
    rintro e w1 ⟨rfl, rfl⟩
    go_wp2
    go_ret
    exact ⟨ret_boolX HZ.out, hg⟩
  | true =>
    have HZ : Hid (Z = EK) := by show _ = _; rw [HE.out]; rfl
    clear HE
    go_enter Try.func37, Try.ntmps37
    go_upto_region 1 with fail
    rw [← HX.out]
    go_wp2_with fail
    refine SN.out.mono ?_
    rintro e w1 ⟨rfl, rfl⟩
    go_wp2_with fail
    refine SK.out.mono ?_
    rintro e w1 ⟨rfl, rfl⟩
    go_wp2
    go_ret
    exact ⟨ret_boolX HZ.out, hg⟩
end Go.Proofs.Ytpmfbfflacbmjaa
