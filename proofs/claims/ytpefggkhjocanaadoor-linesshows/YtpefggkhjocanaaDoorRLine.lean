/-
  The document's answer: actLine.
-/
import Derived.Test.YtpefggkhjocanaaDoorAcMem
import Derived.Test.YtpefggkhjocanaaDoorRDec
import Derived.Test.YtpefggkhjocanaaDoorRHexD
import Derived.Test.YtpefggkhjocanaaDoorStepB
import Derived.Test.YtpefggkhjocanaaDoorBSlice
namespace Go.Proofs.YtpefggkhjocanaaDoor
open Go.RowKit
theorem hexL_take (d : List UInt8) (m : Nat) (h : m < d.length) : hexL (d.take (m + 1)) = hexL (d.take m) ++ [hexC ((d.getD m 0).toNat / 16), hexC ((d.getD m 0).toNat % 16)] := by
  rw [List.take_succ_eq_append_getElem h, show d[m] = d.getD m 0 by simp [h], hexL, List.flatMap_append]
  simp [hexL]
set_option maxRecDepth 100000 in
set_option maxHeartbeats 4000000 in
theorem actLine_any (w : World) (v : Value) (a : Ac) (hv : AcIs w v a) (ho : ActOK a) :
    Calls Tryd.prog 24 #[v] w fun e w' => ∃ x, e = .returned x ∧ Own w.heap.size w' x (lineF a) ∧ w.grownBy w' none := by
  obtain ⟨da, dc, rfl, hd⟩ := hv.agg
  obtain ⟨W0, HW0, hg0, B0⟩ := alloc_namedR w (.cells #[.int .i64 a.kind, .int .i64 a.sess, .int .i64 a.keep, .slice da a.data.length dc] 36)
  obtain ⟨⟨c0, c1, c2, c3⟩, _⟩ := quad_room (grown_refl W0 none) B0.out
  have HD : Hid (SliceIs W0 (.slice da a.data.length dc) a.data) := hd.grown hg0
  have hsz0 := hg0.size
  have hk := ho.kind
  have hS := ho.sess
  have hQ := ho.keep
  have hdl := ho.data
  obtain ⟨K, s, q, d⟩ := a
  simp only at B0 c0 c1 c2 c3 HD hk hS hQ hdl HW0 ⊢
  have hk4 : K = 1 ∨ K = 2 ∨ K = 3 ∨ K = 4 := by omega
  clear hk ho hv hd
  rcases hk4 with rfl | rfl | rfl | rfl
  · replace hS := hS rfl
    obtain ⟨sn, hsn⟩ : ∃ sn : Nat, s = (sn : Int) := ⟨s.toNat, by omega⟩
    subst hsn
    have HL : Hid (lineF ⟨1, (sn : Int), q, d⟩ = wAsk ++ [32] ++ decD sn ++ [32] ++ hexL d) := by
      show wAsk ++ 32 :: (decD (sn : Int).toNat ++ 32 :: hexL d) = _
      rw [Int.toNat_natCast]; simp [List.append_assoc]
    have DC : Hid (∀ w', Calls Tryd.prog 36 #[.int .i64 (sn : Int)] w' fun e w'' => e = .returned (.string (textOf (decD sn))) ∧ w'.grownBy w'' none) := fun w' => dec_any sn w' (by omega)
    have hdl6 := decD_len 6 sn (by show sn < 10000000; omega)
    have hHL : ∀ m, (hexL (d.take m)).length ≤ 8000 := fun m => by rw [hexL_len, List.length_take]; omega
    have HHL : Hid (∀ m, (hexL (d.take m)).length ≤ 8000) := hHL
    have HT : Hid (∀ m, m < d.length → hexL (d.take (m + 1)) = hexL (d.take m) ++ [hexC ((d.getD m 0).toNat / 16), hexC ((d.getD m 0).toNat % 16)]) := fun m h => hexL_take d m h
    generalize lineF ⟨1, (sn : Int), q, d⟩ = R at *
    generalize decD sn = DQ at *
    clear hQ hS hHL
    go_enter Tryd.func24, Tryd.ntmps24
    go_upto_region 1 with fail
    rw [← HW0.out]
    obtain ⟨IB, hIB⟩ : ∃ IB, IB = w.heap.size := ⟨_, rfl⟩
    rw [← hIB] at B0 c0 c1 c2 c3 ⊢
    clear hIB
    go_wp2_with (at_builtin; refine wpList_append_text rfl _ _ rfl W0.heap.size (.slice none 0 0) [] rfl (own_nil _ _) (wAsk ++ [32]) rfl (by simp [wAsk]) (Nat.le_refl _) ?_; intro v1 w1 ho1 hg1; rw [List.nil_append] at ho1; have HO1 : Hid (Own W0.heap.size w1 v1 (wAsk ++ [32])) := ho1; have hg01 : W0.grownBy w1 none := hg1; obtain ⟨a1, k1, rfl⟩ := ho1.shape; clear ho1 hg1; obtain ⟨⟨d0, d1, d2, d3⟩, _⟩ := quad_room hg01 B0.out)
    refine (DC.out _).mono ?_
    rintro e w2 ⟨rfl, hg2⟩
    have hg02 := grown_trans hg01 hg2
    have HO2 : Hid (Own W0.heap.size w2 (.slice a1 (wAsk ++ [32]).length k1) (wAsk ++ [32])) := HO1.out.grownNone hg2
    have hs2 := hg02.size
    clear d0 d1 d2 d3 c0 c1 c2 c3
    go_upto_region 6 with (at_builtin; refine wpList_append_text rfl _ _ rfl W0.heap.size (.slice a1 (wAsk ++ [32]).length k1) (wAsk ++ [32]) rfl HO2.out DQ rfl (by simp [wAsk]; omega) hs2 ?_; intro v3 w3 ho3 hg3)
    have hg03 := grown_own hg02 HO2.out hg3
    obtain ⟨a3, k3, rfl⟩ := ho3.shape
    have hP3 : (wAsk ++ [32] ++ DQ).length ≤ 20 := by simp [wAsk]; omega
    have HO3 : Hid (Own W0.heap.size w3 (.slice a3 (wAsk ++ [32] ++ DQ).length k3) (wAsk ++ [32] ++ DQ)) := ho3
    generalize wAsk ++ [32] ++ DQ = P3 at *
    clear ho3 hg3 HO1 HO2
    have hs3 := hg03.size
    have H32 : Hid (SliceIs (w3.alloc (.cells #[.int .u8 32] 5)) (.slice (some ⟨w3.heap.size, 0, none⟩) 1 1) [32]) := one_slice w3 32 5
    go_upto_region 7 with (at_builtin; refine wpList_append_bytes rfl _ _ rfl W0.heap.size (.slice a3 P3.length k3) P3 rfl (HO3.out.alloc _) (some ⟨w3.heap.size, 0, none⟩) 1 1 [32] rfl H32.out (by omega) (by simp; omega) ?_; intro v4 w4 ho4 hg4)
    have hg04 := grown_own (grown_alloc hg03 _) (HO3.out.alloc _) hg4
    have hP4 : (P3 ++ [32]).length ≤ 30 := by rw [List.length_append]; simp; omega
    have HO4 : Hid (Own W0.heap.size w4 v4 (P3 ++ [32])) := ho4
    generalize P3 ++ [32] = P4 at *
    clear ho4 hg4 HO3 H32
    go_wp2_with fail
    go_loopw [3, 4] (fun bv iv wr => ∃ m : Nat, m ≤ d.length ∧ iv = .int .i64 (m : Int) ∧ Own W0.heap.size wr bv (P4 ++ hexL (d.take m)) ∧ W0.grownBy wr none) (fun _ iv _ => d.length - (intOf iv).toNat)
    case atStart => exact ⟨0, by omega, rfl, by rw [List.take_zero]; simpa [hexL] using HO4.out, hg04⟩
    case round =>
      obtain ⟨m, hm, rfl, hob, hg⟩ := hrel
      obtain ⟨ba, bc, rfl⟩ := hob.shape
      obtain ⟨⟨c0, c1, c2, c3⟩, _⟩ := quad_room hg B0.out
      have hsz := hg.size
      have hl8 := HHL.out m
      by_cases hlt : m < d.length
      · have i1 : (m : Int) < (d.length : Int) := by omega
        obtain ⟨pb, po, rfl, hB⟩ := HD.out.byte m hlt
        have x0 := hB.grown hg (by simp) m hlt
        have HDB : Hid (∀ w', W0.grownBy w' none → w'.cell? ⟨pb, po + m, none⟩ = some (.int .u8 ((d.getD m 0).toNat : Int))) := fun w' h => hB.grown h (by simp) m hlt
        have HTm : Hid (P4 ++ hexL (d.take (m + 1)) = P4 ++ hexL (d.take m) ++ [hexC ((d.getD m 0).toNat / 16), hexC ((d.getD m 0).toNat % 16)]) := by show _ = _; rw [HT.out m hlt, List.append_assoc]
        have hc := (d.getD m 0).toNat_lt
        generalize (d.getD m 0).toNat = c at *
        obtain ⟨u, hu⟩ : ∃ u, u = c / 16 := ⟨_, rfl⟩
        obtain ⟨l, hll⟩ : ∃ l, l = c % 16 := ⟨_, rfl⟩
        rw [← hu, ← hll] at HTm
        have u16 : u < 16 := by omega
        have l16 : l < 16 := by omega
        have e1 : (c : Int) / 16 = (u : Int) := by omega
        have e2 : (c : Int) % 16 = (l : Int) := by omega
        have e3 : (c : Int).tdiv 16 = (u : Int) := by rw [Int.tdiv_eq_ediv_of_nonneg (by omega)]; omega
        have e4 : (c : Int).tmod 16 = (l : Int) := by rw [Int.tmod_eq_emod_of_nonneg (by omega)]; omega
        have wc : IntKind.i64.wrap (c : Int) = (c : Int) := by rw [IntKind.wrap_i64]; omega
        have w1' : IntKind.i64.wrap (u : Int) = (u : Int) := by rw [IntKind.wrap_i64]; omega
        have w2' : IntKind.i64.wrap (l : Int) = (l : Int) := by rw [IntKind.wrap_i64]; omega
        have H1 : Hid (∀ w', Calls Tryd.prog 37 #[.int .i64 (u : Int)] w' fun e w'' => e = .returned (.int .u8 ((hexC u).toNat : Int)) ∧ w'' = w') := fun w' => hexDigit_any u w' u16
        have H2 : Hid (∀ w', Calls Tryd.prog 37 #[.int .i64 (l : Int)] w' fun e w'' => e = .returned (.int .u8 ((hexC l).toNat : Int)) ∧ w'' = w') := fun w' => hexDigit_any l w' l16
        have HO : Hid (Own W0.heap.size wr (.slice ba (P4 ++ hexL (d.take m)).length bc) (P4 ++ hexL (d.take m))) := hob
        have hlen : (P4 ++ hexL (d.take m)).length ≤ 9000 := by rw [List.length_append]; omega
        generalize P4 ++ hexL (d.take m) = O at *
        clear hob hu hll hB hlt HHL HT
        have hgd := grown_drew (grown_refl wr none)
        have y3 := hgd.cell c3 (by simp)
        have z0 := hgd.cell x0 (by simp)
        have HX2 : Hid (SliceIs (wr.drew.alloc (.cells #[.int .u8 ((hexC u).toNat : Int), .int .u8 ((hexC l).toNat : Int)] 5)) (.slice (some ⟨wr.heap.size, 0, none⟩) 2 2) [hexC u, hexC l]) := two_slice wr.drew (hexC u) (hexC l) 5
        have HOd : Hid (Own W0.heap.size (wr.drew.alloc (.cells #[.int .u8 ((hexC u).toNat : Int), .int .u8 ((hexC l).toNat : Int)] 5)) (.slice ba O.length bc) O) := (HO.out.grownNone hgd).alloc _
        have hgA : W0.grownBy (wr.drew.alloc (.cells #[.int .u8 ((hexC u).toNat : Int), .int .u8 ((hexC l).toNat : Int)] 5)) none := grown_alloc (grown_trans hg hgd) _
        have hszA := hgA.size
        generalize ((hexC u).toNat : Int) = hu at *
        generalize ((hexC l).toNat : Int) = hl at *
        have hgX : wr.drew.grownBy (wr.drew.alloc (.cells #[.int .u8 hu, .int .u8 hl] 5)) none := World.grownBy_alloc _ _ _
        have y4 := hgX.cell y3 (by simp)
        have z1 := hgX.cell z0 (by simp)
        go_upto_region 10 with fail
        go_region_held3 (fun w' => w'.cell? ⟨IB, 3, none⟩ = some (.slice (some ⟨pb, po, none⟩) d.length dc) ∧ w'.cell? ⟨pb, po + m, none⟩ = some (.int .u8 (c : Int)))
          (first | exact ⟨y3, z0⟩ | exact ⟨y4, z1⟩ | exact ⟨y5, z2⟩)
          (first
            | (go_at_call_of 37 (Value.int IntKind.i64 (u : Int)); refine (H1.out _).mono ?_; rintro e w5 ⟨rfl, rfl⟩)
            | (go_at_call_of 37 (Value.int IntKind.i64 (l : Int)); refine (H2.out _).mono ?_; rintro e w5 ⟨rfl, rfl⟩)
            | (refine step_append_bytes (by rfl) _ _ (by rfl) W0.heap.size (.slice ba O.length bc) O (by rfl) HOd.out (some ⟨wr.heap.size, 0, none⟩) 2 2 [hexC u, hexC l] (by rfl) HX2.out (by omega) hszA ?_; intro v6 w6 ho6 hg6; have hg06 := grown_own hgA HOd.out hg6; obtain ⟨⟨q0, q1, q2, y5⟩, _⟩ := quad_room hg06 B0.out; have z2 := HDB.out w6 hg06))
        all_goals (
          rw [← HTm.out] at ho6
          go_wp2_with fail
          go_roundw
          case rel => exact ⟨m + 1, by omega, by go_num, ho6, hg06⟩
          case measure => simp [intOf]; omega)
      · obtain rfl : m = d.length := by omega
        have HT2 : Hid (d.take d.length = d) := List.take_length
        generalize d.take d.length = dt at *
        have HOB : Hid (Own W0.heap.size wr (.slice ba (P4 ++ hexL dt).length bc) (P4 ++ hexL dt)) := hob
        have HRR : Hid (R = P4 ++ hexL dt) := by show _ = _; rw [HL.out, HT2.out]
        generalize P4 ++ hexL dt = O at *
        clear hob HL HT HHL
        go_wp2
        go_ret
        exact ⟨_, rfl, by rw [HRR.out]; exact own_mono HOB.out hsz0, grown_trans hg0 hg⟩
  · have HL : Hid (lineF ⟨2, s, q, d⟩ = wSync) := rfl
    generalize lineF ⟨2, s, q, d⟩ = R at *
    clear hS hQ hdl
    go_enter Tryd.func24, Tryd.ntmps24
    go_upto_region 1 with fail
    rw [← HW0.out]
    go_wp2_with (at_builtin; refine wpList_append_text rfl _ _ rfl W0.heap.size (.slice none 0 0) [] rfl (own_nil _ _) wSync rfl (by simp [wSync]) (Nat.le_refl _) ?_; intro v1 w1 ho1 hg1; rw [List.nil_append] at ho1)
    go_ret
    exact ⟨v1, rfl, by rw [HL.out]; exact own_mono ho1 hsz0, grown_trans hg0 hg1⟩
  · replace hQ := hQ rfl
    obtain ⟨qn, hqn⟩ : ∃ qn : Nat, q = (qn : Int) := ⟨q.toNat, by omega⟩
    subst hqn
    have HL : Hid (lineF ⟨3, s, (qn : Int), d⟩ = wCrash ++ [32] ++ decD qn) := by
      show wCrash ++ 32 :: decD (qn : Int).toNat = _
      rw [Int.toNat_natCast, List.append_assoc]; rfl
    have DC : Hid (∀ w', Calls Tryd.prog 36 #[.int .i64 (qn : Int)] w' fun e w'' => e = .returned (.string (textOf (decD qn))) ∧ w'.grownBy w'' none) := fun w' => dec_any qn w' (by omega)
    have hdl6 := decD_len 6 qn (by show qn < 10000000; omega)
    generalize lineF ⟨3, s, (qn : Int), d⟩ = R at *
    generalize decD qn = DQ at *
    clear hS hdl hQ
    go_enter Tryd.func24, Tryd.ntmps24
    go_upto_region 1 with fail
    rw [← HW0.out]
    go_wp2_with (at_builtin; refine wpList_append_text rfl _ _ rfl W0.heap.size (.slice none 0 0) [] rfl (own_nil _ _) (wCrash ++ [32]) rfl (by simp [wCrash]) (Nat.le_refl _) ?_; intro v1 w1 ho1 hg1; rw [List.nil_append] at ho1; have HO1 : Hid (Own W0.heap.size w1 v1 (wCrash ++ [32])) := ho1; have hg01 : W0.grownBy w1 none := hg1; obtain ⟨a1, k1, rfl⟩ := ho1.shape; clear ho1 hg1; obtain ⟨⟨c0, c1, c2, c3⟩, _⟩ := quad_room hg01 B0.out)
    refine (DC.out _).mono ?_
    rintro e w2 ⟨rfl, hg2⟩
    have hg02 := grown_trans hg01 hg2
    have HO2 : Hid (Own W0.heap.size w2 (.slice a1 (wCrash ++ [32]).length k1) (wCrash ++ [32])) := HO1.out.grownNone hg2
    have hs2 := hg02.size
    go_wp2_with (at_builtin; refine wpList_append_text rfl _ _ rfl W0.heap.size (.slice a1 (wCrash ++ [32]).length k1) (wCrash ++ [32]) rfl HO2.out DQ rfl (by simp [wCrash]; omega) hs2 ?_; intro v3 w3 ho3 hg3)
    have hg03 := grown_own hg02 HO2.out hg3
    go_ret
    exact ⟨v3, rfl, by rw [HL.out]; exact own_mono ho3 hsz0, grown_trans hg0 hg03⟩
  · have HL : Hid (lineF ⟨4, s, q, d⟩ = wStart) := rfl
    generalize lineF ⟨4, s, q, d⟩ = R at *
    clear hS hQ hdl
    go_enter Tryd.func24, Tryd.ntmps24
    go_upto_region 1 with fail
    rw [← HW0.out]
    go_wp2_with (at_builtin; refine wpList_append_text rfl _ _ rfl W0.heap.size (.slice none 0 0) [] rfl (own_nil _ _) wStart rfl (by simp [wStart]) (Nat.le_refl _) ?_; intro v1 w1 ho1 hg1; rw [List.nil_append] at ho1)
    go_ret
    exact ⟨v1, rfl, by rw [HL.out]; exact own_mono ho1 hsz0, grown_trans hg0 hg1⟩
end Go.Proofs.YtpefggkhjocanaaDoor
