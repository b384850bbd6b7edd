/-
  lines.putLine, as it landed: the line of an act that may be.
-/
import Derived.Test.YtpefggkhjocanaaDoorLnPg
import Derived.Test.YtpefggkhjocanaaDoorLnIt
import Derived.Test.YtpefggkhjocanaaDoorLnHx
import Derived.Test.YtpefggkhjocanaaDoorAcM0
import Derived.Shelf.Abstract
namespace Go.Proofs.YtpefggkhjocanaaDoor
open Go.RowKit
set_option maxRecDepth 100000 in
set_option maxHeartbeats 4000000 in
theorem putLine_any (w0 w : World) (b : Nat) (v : Value) (a : Ac) (bs : List UInt8) (hT : WrdT w0) (hv : AcIs w0 v a) (ho : ActOK a) (hp : PageIs w0.heap.size b bs w) (hb : Below w0.heap.size w0 w) (hl : bs.length ≤ 70368744177664) :
    Calls Tryd.prog 21 #[.func (.func 20) #[.pointer (some ⟨b, 0, none⟩)] #[], v] w fun e w' => e = .returned (.tuple #[]) ∧ PageIs w0.heap.size b (bs ++ lineF a ++ [10]) w' ∧ Below w0.heap.size w0 w' := by
  obtain ⟨da, dc, rfl, hd⟩ := hv.agg
  have hsz := hb.size
  obtain ⟨W0, HW0, hg0, B0⟩ := alloc_namedR w (.cells #[.int .i64 a.kind, .int .i64 a.sess, .int .i64 a.keep, .slice da a.data.length dc] 36)
  obtain ⟨⟨c0, c1, c2, c3⟩, _⟩ := quad_room (grown_refl W0 none) B0.out
  have hne : w.heap.size ≠ b := by have := hp.lt; omega
  have hb0 : Below w0.heap.size w0 W0 := hb.trans (grown_belowB hg0 hsz)
  have hp0 : PageIs w0.heap.size b bs W0 := hp.grownNone hg0
  have ADD : Hid (∀ (W : World) (us cs : List UInt8), PageIs w0.heap.size b us W → Below w0.heap.size w0 W → us.length + cs.length ≤ 140737488355328 → Calls Tryd.prog 20 #[.pointer (some ⟨b, 0, none⟩), .string (textOf cs)] W fun e w' => e = .returned (.tuple #[]) ∧ PageIs w0.heap.size b (us ++ cs) w' ∧ Below w0.heap.size w0 w' ∧ Lib.OthersKept 5 (some b) W w') := fun W us cs h1 h2 h3 => (add_any _ b us cs W h1 h3 h2.size).mono fun e w' ⟨q1, q2, q3, q4⟩ => ⟨q1, q2, h2.trans q3, q4⟩
  have HP0 : Hid (PageIs w0.heap.size b bs W0) := hp0
  have WT : Hid (∀ W, Below w0.heap.size w0 W → WrdT W) := fun W h => hT.grown (belowB_grown h)
  have BX : Hid (∀ W W' cs, Lib.OthersKept 5 (some b) W W' → W.heap[w.heap.size]? = some (.cells cs 36) → W'.heap[w.heap.size]? = some (.cells cs 36)) := fun W W' cs hk h => kept_act hk hne h
  obtain ⟨K, s, q, d⟩ := a
  have hk := ho.kind
  have hS := ho.sess
  have hQ := ho.keep
  have hdl := ho.data
  simp only at B0 c0 c1 c2 c3 hk hS hQ hdl HW0 hd ⊢
  have hk4 : K = 1 ∨ K = 2 ∨ K = 3 ∨ K = 4 := by omega
  have HD : Hid (∀ W, Below w0.heap.size w0 W → SliceIs W (.slice da d.length dc) d) := fun W h => hd.grown (belowB_grown h)
  have wd := (hT.grown (belowB_grown hb0)).words
  clear hk ho hv hd hp0 hp hT
  rcases hk4 with rfl | rfl | rfl | rfl
  · replace hS := hS rfl
    obtain ⟨sn, hsn⟩ : ∃ sn : Nat, s = (sn : Int) := ⟨s.toNat, by omega⟩
    subst hsn
    have HL : Hid (bs ++ lineF ⟨1, (sn : Int), q, d⟩ ++ [10] = bs ++ wordN 1 ++ [32] ++ decD sn ++ [32] ++ hexL d ++ [10]) := by
      show bs ++ (wAsk ++ 32 :: (decD (sn : Int).toNat ++ 32 :: hexL d)) ++ [10] = bs ++ wAsk ++ [32] ++ decD sn ++ [32] ++ hexL d ++ [10]
      rw [Int.toNat_natCast]; simp [List.append_assoc]
    have IT : Hid (∀ W, Below w0.heap.size w0 W → Calls Tryd.prog 33 #[.int .i64 (sn : Int)] W fun e w' => e = .returned (.string (textOf (decD sn))) ∧ W.grownBy w' none) := fun W h => itoa_any sn (by omega) W (WT.out W h)
    have HX : Hid (∀ W, Below w0.heap.size w0 W → Calls Tryd.prog 34 #[.slice da d.length dc] W fun e w' => e = .returned (.string (textOf (hexL d))) ∧ W.grownBy w' none) := fun W h => hexOf_any W _ d (HD.out W h) (by omega)
    have hdl6 := decD_len 6 sn (by show sn < 10000000; omega)
    have hx8 : (hexL d).length ≤ 8000 := by rw [hexL_len]; omega
    clear hQ hS
    have wk := wd 1 (by omega)
    clear wd
    go_enter Tryd.func21, Tryd.ntmps21
    go_upto_region 1 with fail
    rw [← HW0.out]
    clear HW0
    go_wp2_with fail
    refine (ADD.out _ bs (wordN 1) HP0.out hb0 (by have : ((wordN 1)).length ≤ 3 := (by decide); omega)).mono ?_
    rintro e w1 ⟨rfl, hp1, hb1, hk1⟩
    have B1 : Hid (w1.heap[w.heap.size]? = _) := BX.out _ _ _ hk1 B0.out
    obtain ⟨U1, hU1⟩ : ∃ U, U = bs ++ (wordN 1) := ⟨_, rfl⟩
    rw [← hU1] at hp1
    have HU1 : Hid (U1 = bs ++ (wordN 1)) := hU1
    have lU1 : U1.length ≤ 70368744177667 := by have : ((wordN 1)).length ≤ 3 := (by decide); rw [hU1, List.length_append]; omega
    have HP1 : Hid (PageIs w0.heap.size b U1 w1) := hp1
    clear hU1 hp1 hk1 HP0 c0 c1 c2 c3 wk
    obtain ⟨⟨c0, c1, c2, c3⟩, _⟩ := quad_room (grown_refl w1 none) B1.out
    go_wp2_with fail
    refine (ADD.out _ U1 [32] HP1.out hb1 (by have : ([32]).length ≤ 1 := (by simp); omega)).mono ?_
    rintro e w2 ⟨rfl, hp2, hb2, hk2⟩
    have B2 : Hid (w2.heap[w.heap.size]? = _) := BX.out _ _ _ hk2 B1.out
    obtain ⟨U2, hU2⟩ : ∃ U, U = U1 ++ [32] := ⟨_, rfl⟩
    rw [← hU2] at hp2
    have HU2 : Hid (U2 = U1 ++ [32]) := hU2
    have lU2 : U2.length ≤ 70368744177668 := by have : ([32]).length ≤ 1 := (by simp); rw [hU2, List.length_append]; omega
    have HP2 : Hid (PageIs w0.heap.size b U2 w2) := hp2
    clear hU2 hp2 hk2 HP1 c0 c1 c2 c3
    obtain ⟨⟨c0, c1, c2, c3⟩, _⟩ := quad_room (grown_refl w2 none) B2.out
    clear lU1
    go_wp2_with fail
    refine (IT.out _ hb2).mono ?_
    rintro e w3 ⟨rfl, hg3⟩
    have hb3 := hb2.trans (grown_belowB hg3 hb2.size)
    have HP3 : Hid (PageIs w0.heap.size b U2 w3) := HP2.out.grownNone hg3
    have B3 : Hid (w3.heap[w.heap.size]? = _) := pair_old hg3 B2.out
    clear HP2 c0 c1 c2 c3
    obtain ⟨⟨c0, c1, c2, c3⟩, _⟩ := quad_room (grown_refl w3 none) B3.out
    go_wp2_with fail
    refine (ADD.out _ U2 (decD sn) HP3.out hb3 (by have : ((decD sn)).length ≤ 7 := hdl6; omega)).mono ?_
    rintro e w4 ⟨rfl, hp4, hb4, hk4⟩
    have B4 : Hid (w4.heap[w.heap.size]? = _) := BX.out _ _ _ hk4 B3.out
    obtain ⟨U4, hU4⟩ : ∃ U, U = U2 ++ (decD sn) := ⟨_, rfl⟩
    rw [← hU4] at hp4
    have HU4 : Hid (U4 = U2 ++ (decD sn)) := hU4
    have lU4 : U4.length ≤ 70368744177675 := by have : ((decD sn)).length ≤ 7 := hdl6; rw [hU4, List.length_append]; omega
    have HP4 : Hid (PageIs w0.heap.size b U4 w4) := hp4
    clear hU4 hp4 hk4 HP3 c0 c1 c2 c3
    obtain ⟨⟨c0, c1, c2, c3⟩, _⟩ := quad_room (grown_refl w4 none) B4.out
    clear lU2
    go_wp2_with fail
    refine (ADD.out _ U4 [32] HP4.out hb4 (by have : ([32]).length ≤ 1 := (by simp); omega)).mono ?_
    rintro e w5 ⟨rfl, hp5, hb5, hk5⟩
    have B5 : Hid (w5.heap[w.heap.size]? = _) := BX.out _ _ _ hk5 B4.out
    obtain ⟨U5, hU5⟩ : ∃ U, U = U4 ++ [32] := ⟨_, rfl⟩
    rw [← hU5] at hp5
    have HU5 : Hid (U5 = U4 ++ [32]) := hU5
    have lU5 : U5.length ≤ 70368744177676 := by have : ([32]).length ≤ 1 := (by simp); rw [hU5, List.length_append]; omega
    have HP5 : Hid (PageIs w0.heap.size b U5 w5) := hp5
    clear hU5 hp5 hk5 HP4 c0 c1 c2 c3
    obtain ⟨⟨c0, c1, c2, c3⟩, _⟩ := quad_room (grown_refl w5 none) B5.out
    clear lU4
    go_wp2_with fail
    refine (HX.out _ hb5).mono ?_
    rintro e w6 ⟨rfl, hg6⟩
    have hb6 := hb5.trans (grown_belowB hg6 hb5.size)
    have HP6 : Hid (PageIs w0.heap.size b U5 w6) := HP5.out.grownNone hg6
    have B6 : Hid (w6.heap[w.heap.size]? = _) := pair_old hg6 B5.out
    clear HP5 c0 c1 c2 c3
    obtain ⟨⟨c0, c1, c2, c3⟩, _⟩ := quad_room (grown_refl w6 none) B6.out
    go_wp2_with fail
    refine (ADD.out _ U5 (hexL d) HP6.out hb6 (by have : ((hexL d)).length ≤ 8000 := hx8; omega)).mono ?_
    rintro e w7 ⟨rfl, hp7, hb7, hk7⟩
    have B7 : Hid (w7.heap[w.heap.size]? = _) := BX.out _ _ _ hk7 B6.out
    obtain ⟨U7, hU7⟩ : ∃ U, U = U5 ++ (hexL d) := ⟨_, rfl⟩
    rw [← hU7] at hp7
    have HU7 : Hid (U7 = U5 ++ (hexL d)) := hU7
    have lU7 : U7.length ≤ 70368744185676 := by have : ((hexL d)).length ≤ 8000 := hx8; rw [hU7, List.length_append]; omega
    have HP7 : Hid (PageIs w0.heap.size b U7 w7) := hp7
    clear hU7 hp7 hk7 HP6 c0 c1 c2 c3
    obtain ⟨⟨c0, c1, c2, c3⟩, _⟩ := quad_room (grown_refl w7 none) B7.out
    clear lU5
    go_wp2_with fail
    refine (ADD.out _ U7 [10] HP7.out hb7 (by have : ([10]).length ≤ 1 := (by simp); omega)).mono ?_
    rintro e w8 ⟨rfl, hp8, hb8, hk8⟩
    have B8 : Hid (w8.heap[w.heap.size]? = _) := BX.out _ _ _ hk8 B7.out
    obtain ⟨U8, hU8⟩ : ∃ U, U = U7 ++ [10] := ⟨_, rfl⟩
    rw [← hU8] at hp8
    have HU8 : Hid (U8 = U7 ++ [10]) := hU8
    have lU8 : U8.length ≤ 70368744185677 := by have : ([10]).length ≤ 1 := (by simp); rw [hU8, List.length_append]; omega
    have HP8 : Hid (PageIs w0.heap.size b U8 w8) := hp8
    clear hU8 hp8 hk8 HP7 c0 c1 c2 c3
    obtain ⟨⟨c0, c1, c2, c3⟩, _⟩ := quad_room (grown_refl w8 none) B8.out
    clear lU7
    go_wp2
    go_end0
    refine ⟨rfl, ?_, hb8⟩
    have e := HP8.out
    rw [HU8.out, HU7.out, HU5.out, HU4.out, HU2.out, HU1.out] at e
    rw [HL.out]
    exact e
  · have HL : Hid (bs ++ lineF ⟨2, s, q, d⟩ ++ [10] = bs ++ wordN 2 ++ [10]) := rfl
    have wk := wd 2 (by omega)
    clear wd
    go_enter Tryd.func21, Tryd.ntmps21
    go_upto_region 1 with fail
    rw [← HW0.out]
    clear HW0
    go_wp2_with fail
    refine (ADD.out _ bs (wordN 2) HP0.out hb0 (by have : ((wordN 2)).length ≤ 4 := (by decide); omega)).mono ?_
    rintro e w1 ⟨rfl, hp1, hb1, hk1⟩
    have B1 : Hid (w1.heap[w.heap.size]? = _) := BX.out _ _ _ hk1 B0.out
    obtain ⟨U1, hU1⟩ : ∃ U, U = bs ++ (wordN 2) := ⟨_, rfl⟩
    rw [← hU1] at hp1
    have HU1 : Hid (U1 = bs ++ (wordN 2)) := hU1
    have lU1 : U1.length ≤ 70368744177668 := by have : ((wordN 2)).length ≤ 4 := (by decide); rw [hU1, List.length_append]; omega
    have HP1 : Hid (PageIs w0.heap.size b U1 w1) := hp1
    clear hU1 hp1 hk1 HP0 c0 c1 c2 c3 wk
    obtain ⟨⟨c0, c1, c2, c3⟩, _⟩ := quad_room (grown_refl w1 none) B1.out
    go_wp2_with fail
    refine (ADD.out _ U1 [10] HP1.out hb1 (by have : ([10]).length ≤ 1 := (by simp); omega)).mono ?_
    rintro e w2 ⟨rfl, hp2, hb2, hk2⟩
    have B2 : Hid (w2.heap[w.heap.size]? = _) := BX.out _ _ _ hk2 B1.out
    obtain ⟨U2, hU2⟩ : ∃ U, U = U1 ++ [10] := ⟨_, rfl⟩
    rw [← hU2] at hp2
    have HU2 : Hid (U2 = U1 ++ [10]) := hU2
    have lU2 : U2.length ≤ 70368744177669 := by have : ([10]).length ≤ 1 := (by simp); rw [hU2, List.length_append]; omega
    have HP2 : Hid (PageIs w0.heap.size b U2 w2) := hp2
    clear hU2 hp2 hk2 HP1 c0 c1 c2 c3
    obtain ⟨⟨c0, c1, c2, c3⟩, _⟩ := quad_room (grown_refl w2 none) B2.out
    clear lU1
    go_wp2
    go_end0
    refine ⟨rfl, ?_, hb2⟩
    have e := HP2.out
    rw [HU2.out, HU1.out] at e
    rw [HL.out]
    exact e
  · replace hQ := hQ rfl
    obtain ⟨sn, hsn⟩ : ∃ sn : Nat, q = (sn : Int) := ⟨q.toNat, by omega⟩
    subst hsn
    have HL : Hid (bs ++ lineF ⟨3, s, (sn : Int), d⟩ ++ [10] = bs ++ wordN 3 ++ [32] ++ decD sn ++ [10]) := by
      show bs ++ (wCrash ++ 32 :: decD (sn : Int).toNat) ++ [10] = bs ++ wCrash ++ [32] ++ decD sn ++ [10]
      rw [Int.toNat_natCast]; simp [List.append_assoc]
    have IT : Hid (∀ W, Below w0.heap.size w0 W → Calls Tryd.prog 33 #[.int .i64 (sn : Int)] W fun e w' => e = .returned (.string (textOf (decD sn))) ∧ W.grownBy w' none) := fun W h => itoa_any sn (by omega) W (WT.out W h)
    have hdl6 := decD_len 6 sn (by show sn < 10000000; omega)
    clear hQ hS
    have wk := wd 3 (by omega)
    clear wd
    go_enter Tryd.func21, Tryd.ntmps21
    go_upto_region 1 with fail
    rw [← HW0.out]
    clear HW0
    go_wp2_with fail
    refine (ADD.out _ bs (wordN 3) HP0.out hb0 (by have : ((wordN 3)).length ≤ 5 := (by decide); omega)).mono ?_
    rintro e w1 ⟨rfl, hp1, hb1, hk1⟩
    have B1 : Hid (w1.heap[w.heap.size]? = _) := BX.out _ _ _ hk1 B0.out
    obtain ⟨U1, hU1⟩ : ∃ U, U = bs ++ (wordN 3) := ⟨_, rfl⟩
    rw [← hU1] at hp1
    have HU1 : Hid (U1 = bs ++ (wordN 3)) := hU1
    have lU1 : U1.length ≤ 70368744177669 := by have : ((wordN 3)).length ≤ 5 := (by decide); rw [hU1, List.length_append]; omega
    have HP1 : Hid (PageIs w0.heap.size b U1 w1) := hp1
    clear hU1 hp1 hk1 HP0 c0 c1 c2 c3 wk
    obtain ⟨⟨c0, c1, c2, c3⟩, _⟩ := quad_room (grown_refl w1 none) B1.out
    go_wp2_with fail
    refine (ADD.out _ U1 [32] HP1.out hb1 (by have : ([32]).length ≤ 1 := (by simp); omega)).mono ?_
    rintro e w2 ⟨rfl, hp2, hb2, hk2⟩
    have B2 : Hid (w2.heap[w.heap.size]? = _) := BX.out _ _ _ hk2 B1.out
    obtain ⟨U2, hU2⟩ : ∃ U, U = U1 ++ [32] := ⟨_, rfl⟩
    rw [← hU2] at hp2
    have HU2 : Hid (U2 = U1 ++ [32]) := hU2
    have lU2 : U2.length ≤ 70368744177670 := by have : ([32]).length ≤ 1 := (by simp); rw [hU2, List.length_append]; omega
    have HP2 : Hid (PageIs w0.heap.size b U2 w2) := hp2
    clear hU2 hp2 hk2 HP1 c0 c1 c2 c3
    obtain ⟨⟨c0, c1, c2, c3⟩, _⟩ := quad_room (grown_refl w2 none) B2.out
    clear lU1
    go_wp2_with fail
    refine (IT.out _ hb2).mono ?_
    rintro e w3 ⟨rfl, hg3⟩
    have hb3 := hb2.trans (grown_belowB hg3 hb2.size)
    have HP3 : Hid (PageIs w0.heap.size b U2 w3) := HP2.out.grownNone hg3
    have B3 : Hid (w3.heap[w.heap.size]? = _) := pair_old hg3 B2.out
    clear HP2 c0 c1 c2 c3
    obtain ⟨⟨c0, c1, c2, c3⟩, _⟩ := quad_room (grown_refl w3 none) B3.out
    go_wp2_with fail
    refine (ADD.out _ U2 (decD sn) HP3.out hb3 (by have : ((decD sn)).length ≤ 7 := hdl6; omega)).mono ?_
    rintro e w4 ⟨rfl, hp4, hb4, hk4⟩
    have B4 : Hid (w4.heap[w.heap.size]? = _) := BX.out _ _ _ hk4 B3.out
    obtain ⟨U4, hU4⟩ : ∃ U, U = U2 ++ (decD sn) := ⟨_, rfl⟩
    rw [← hU4] at hp4
    have HU4 : Hid (U4 = U2 ++ (decD sn)) := hU4
    have lU4 : U4.length ≤ 70368744177677 := by have : ((decD sn)).length ≤ 7 := hdl6; rw [hU4, List.length_append]; omega
    have HP4 : Hid (PageIs w0.heap.size b U4 w4) := hp4
    clear hU4 hp4 hk4 HP3 c0 c1 c2 c3
    obtain ⟨⟨c0, c1, c2, c3⟩, _⟩ := quad_room (grown_refl w4 none) B4.out
    clear lU2
    go_wp2_with fail
    refine (ADD.out _ U4 [10] HP4.out hb4 (by have : ([10]).length ≤ 1 := (by simp); omega)).mono ?_
    rintro e w5 ⟨rfl, hp5, hb5, hk5⟩
    have B5 : Hid (w5.heap[w.heap.size]? = _) := BX.out _ _ _ hk5 B4.out
    obtain ⟨U5, hU5⟩ : ∃ U, U = U4 ++ [10] := ⟨_, rfl⟩
    rw [← hU5] at hp5
    have HU5 : Hid (U5 = U4 ++ [10]) := hU5
    have lU5 : U5.length ≤ 70368744177678 := by have : ([10]).length ≤ 1 := (by simp); rw [hU5, List.length_append]; omega
    have HP5 : Hid (PageIs w0.heap.size b U5 w5) := hp5
    clear hU5 hp5 hk5 HP4 c0 c1 c2 c3
    obtain ⟨⟨c0, c1, c2, c3⟩, _⟩ := quad_room (grown_refl w5 none) B5.out
    clear lU4
    go_wp2
    go_end0
    refine ⟨rfl, ?_, hb5⟩
    have e := HP5.out
    rw [HU5.out, HU4.out, HU2.out, HU1.out] at e
    rw [HL.out]
    exact e
  · have HL : Hid (bs ++ lineF ⟨4, s, q, d⟩ ++ [10] = bs ++ wordN 4 ++ [10]) := rfl
    have wk := wd 4 (by omega)
    clear wd
    go_enter Tryd.func21, Tryd.ntmps21
    go_upto_region 1 with fail
    rw [← HW0.out]
    clear HW0
    go_wp2_with fail
    refine (ADD.out _ bs (wordN 4) HP0.out hb0 (by have : ((wordN 4)).length ≤ 5 := (by decide); omega)).mono ?_
    rintro e w1 ⟨rfl, hp1, hb1, hk1⟩
    have B1 : Hid (w1.heap[w.heap.size]? = _) := BX.out _ _ _ hk1 B0.out
    obtain ⟨U1, hU1⟩ : ∃ U, U = bs ++ (wordN 4) := ⟨_, rfl⟩
    rw [← hU1] at hp1
    have HU1 : Hid (U1 = bs ++ (wordN 4)) := hU1
    have lU1 : U1.length ≤ 70368744177669 := by have : ((wordN 4)).length ≤ 5 := (by decide); rw [hU1, List.length_append]; omega
    have HP1 : Hid (PageIs w0.heap.size b U1 w1) := hp1
    clear hU1 hp1 hk1 HP0 c0 c1 c2 c3 wk
    obtain ⟨⟨c0, c1, c2, c3⟩, _⟩ := quad_room (grown_refl w1 none) B1.out
    go_wp2_with fail
    refine (ADD.out _ U1 [10] HP1.out hb1 (by have : ([10]).length ≤ 1 := (by simp); omega)).mono ?_
    rintro e w2 ⟨rfl, hp2, hb2, hk2⟩
    have B2 : Hid (w2.heap[w.heap.size]? = _) := BX.out _ _ _ hk2 B1.out
    obtain ⟨U2, hU2⟩ : ∃ U, U = U1 ++ [10] := ⟨_, rfl⟩
    rw [← hU2] at hp2
    have HU2 : Hid (U2 = U1 ++ [10]) := hU2
    have lU2 : U2.length ≤ 70368744177670 := by have : ([10]).length ≤ 1 := (by simp); rw [hU2, List.length_append]; omega
    have HP2 : Hid (PageIs w0.heap.size b U2 w2) := hp2
    clear hU2 hp2 hk2 HP1 c0 c1 c2 c3
    obtain ⟨⟨c0, c1, c2, c3⟩, _⟩ := quad_room (grown_refl w2 none) B2.out
    clear lU1
    go_wp2
    go_end0
    refine ⟨rfl, ?_, hb2⟩
    have e := HP2.out
    rw [HU2.out, HU1.out] at e
    rw [HL.out]
    exact e
end Go.Proofs.YtpefggkhjocanaaDoor
