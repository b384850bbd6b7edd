/-
  The walk of canopykeep.LinesBad, over what the code must keep.
-/
import Derived.Test.YtpefggkhjocanaaDoorLnRd
import Derived.Test.YtpefggkhjocanaaDoorLnSh
import Derived.Test.YtpefggkhjocanaaDoorKActs
import Derived.Test.YtpefggkhjocanaaDoorASlice
import Derived.Laws.Concat
namespace Go.Proofs.YtpefggkhjocanaaDoor
open Go.RowKit
/-- The lines that are none. -/
def noneW : List (List UInt8) := [[115, 121, 110, 99, 32, 49], [97, 115, 107], [97, 115, 107, 32, 56, 32], [97, 115, 107, 32, 48], [], [97, 115, 107, 32, 48, 32, 48], [97, 115, 107, 32, 48, 32, 48, 71], [97, 115, 107, 32, 48, 32, 48, 65], [99, 114, 97, 115, 104, 32, 48, 49], [99, 114, 97, 115, 104, 32, 50, 48, 48, 48, 48, 49], [83, 121, 110, 99], [115, 116, 97, 114, 116, 32]]
theorem noneW_kind : ∀ b, b < 12 → (lineA (noneW.getD b [])).kind = 0 := fun b hb => (by decide +kernel : ∀ b : Fin 12, (lineA (noneW.getD b.1 [])).kind = 0) ⟨b, hb⟩
theorem noneW_no : ∀ b, b < 12 → ∀ c ∈ noneW.getD b [], c ≠ 10 := fun b hb => (by decide +kernel : ∀ b : Fin 12, ∀ c ∈ noneW.getD b.1 [], c ≠ 10) ⟨b, hb⟩
theorem noneW_len : ∀ b, b < 12 → (noneW.getD b []).length ≤ 20 := fun b hb => (by decide +kernel : ∀ b : Fin 12, (noneW.getD b.1 []).length ≤ 20) ⟨b, hb⟩
def noneO : Array Value := #[.string ⟨#[115, 121, 110, 99, 32, 49, 10]⟩, .string ⟨#[97, 115, 107, 10]⟩, .string ⟨#[97, 115, 107, 32, 56, 32, 10]⟩, .string ⟨#[97, 115, 107, 32, 48, 10]⟩, .string ⟨#[10]⟩, .string ⟨#[97, 115, 107, 32, 48, 32, 48, 10]⟩, .string ⟨#[97, 115, 107, 32, 48, 32, 48, 71, 10]⟩, .string ⟨#[97, 115, 107, 32, 48, 32, 48, 65, 10]⟩, .string ⟨#[99, 114, 97, 115, 104, 32, 48, 49, 10]⟩, .string ⟨#[99, 114, 97, 115, 104, 32, 50, 48, 48, 48, 48, 49, 10]⟩, .string ⟨#[83, 121, 110, 99, 10]⟩, .string ⟨#[115, 116, 97, 114, 116, 32, 10]⟩]
theorem noneO_get : ∀ b, b < 12 → noneO[b]? = some (.string (textOf (noneW.getD b [] ++ [10])))
  | 0, _ => rfl | 1, _ => rfl | 2, _ => rfl | 3, _ => rfl | 4, _ => rfl | 5, _ => rfl | 6, _ => rfl | 7, _ => rfl | 8, _ => rfl | 9, _ => rfl | 10, _ => rfl | 11, _ => rfl
  | n + 12, h => by omega
theorem take_small {l : List Ac} (h : SmallA l) (k : Nat) : SmallA (l.take k) := fun a ha => h a (List.mem_of_mem_take ha)
theorem drop_small {l : List Ac} (h : SmallA l) (k : Nat) : SmallA (l.drop k) := fun a ha => h a (List.mem_of_mem_drop ha)
theorem smallX_fits {l : List Ac} (h : SmallA l) (hl : l.length ≤ 1000) : FitsA l :=
  ⟨by omega, fun i hi => ac_fits (h _ (by rw [show l.getD i noAc = l[i] by simp [hi]]; exact List.getElem_mem hi)).1⟩
set_option maxRecDepth 100000 in
set_option maxHeartbeats 4000000 in
theorem linesBad_walk (hR : LnReadOK) (hS : LnShowOK) (w : World) (hWT : LnT w) (v : Value) (l : List Ft) (at' bad : Int) (hv : FeatsIs w v l) (hf : FitsFt l) (h0 : -9223372036854775808 ≤ at' ∧ at' ≤ 9223372036854775807) (h1 : -9223372036854775808 ≤ bad ∧ bad ≤ 9223372036854775807) :
    Calls Tryd.prog 7 #[v, .int .i64 at', .int .i64 bad] w fun e w' => e = .returned (.bool true) ∧ w.grownBy w' none := by
  have KA : Hid (Calls Tryd.prog 14 #[v, .int .i64 10] w fun e w' => ∃ (cs : List Ac) (v' : Value), e = .returned v' ∧ OwnA w.heap.size w' v' cs ∧ SmallA cs ∧ cs.length ≤ 10 ∧ w.grownBy w' none) := kacts_any w v l 10 (by omega) hv hf
  have HR : Hid LnReadOK := hR
  have HS : Hid (∀ (W : World) (v : Value) (l : List Ac), w.grownBy W none → ActsIs W v l → SmallA l → l.length ≤ 10 → Calls Tryd.prog 9 #[v] W fun e w' => e = .returned (.tuple #[.string (textOf (showB l)), .int .i64 0, .int .i64 0]) ∧ W.grownBy w' none) := fun W v l hg h1 h2 h3 => by
    have := hS W v l (hWT.grown hg).toWrdT h1 (smallX_fits h2 (by omega))
    obtain ⟨s1, s2, s3⟩ := show_ok (l := l) (fun x hx => (h2 x hx).1) (by omega)
    rw [s1, s2, s3] at this
    exact this
  obtain ⟨a, cap, rfl⟩ := hv.shape
  have PB : Hid (∀ W, Calls Tryd.prog 16 #[.int .i64 bad, .int .i64 12] W fun e w' => ∃ n : Nat, e = .returned (.int .i64 (n : Int)) ∧ (n : Int) < 12 ∧ w' = W) := fun W => picked_any bad 12 W h1.1 h1.2 (by omega) (by omega)
  have PA : Hid (∀ (n : Nat) W, n ≤ 10 → Calls Tryd.prog 16 #[.int .i64 at', .int .i64 ((n : Int) + 1)] W fun e w' => ∃ k : Nat, e = .returned (.int .i64 (k : Int)) ∧ (k : Int) < (n : Int) + 1 ∧ w' = W) := fun n W hn => picked_any at' ((n : Int) + 1) W h0.1 h0.2 (by omega) (by omega)
  have HWT : Hid (∀ W, w.grownBy W none → LnT W) := fun W h => hWT.grown h
  clear hR hS hv hf h0 h1 hWT
  go_enter Tryd.func7, Tryd.ntmps7
  go_wp2_with fail
  refine KA.out.mono ?_
  rintro e w1 ⟨cs, v1, rfl, ho1, hsm, hl10, hg1⟩
  have HL1 : Hid (ActsIs w1 v1 cs) := ho1.list
  obtain ⟨a1, k1, rfl⟩ := ho1.shape
  have HSM : Hid (SmallA cs) := hsm
  have hcap := HL1.out.capA
  clear ho1 hsm KA
  go_wp2_with fail
  refine (PA.out cs.length _ hl10).mono ?_
  rintro e w' ⟨k, rfl, hk, hw'⟩
  subst w'
  have hkl : k ≤ cs.length := by omega
  obtain ⟨b1, u1, u2⟩ := aslice_hm a1 k1 cs k hkl hcap
  obtain ⟨b2, c2, u3, u4⟩ := aslice_l a1 k1 cs k hkl hcap
  have htl : (cs.take k).length = k := by simp; omega
  have S1 : Hid (Calls Tryd.prog 9 #[.slice b1 k k] w1 fun e w' => e = .returned (.tuple #[.string (textOf (showB (cs.take k))), .int .i64 0, .int .i64 0]) ∧ w1.grownBy w' none) := HS.out w1 _ (cs.take k) hg1 (u2 w1 HL1.out) (take_small HSM.out k) (by omega)
  have S2 : Hid (∀ W, w1.grownBy W none → Calls Tryd.prog 9 #[.slice b2 (cs.length - k) c2] W fun e w' => e = .returned (.tuple #[.string (textOf (showB (cs.drop k))), .int .i64 0, .int .i64 0]) ∧ W.grownBy w' none) := fun W h => HS.out W _ (cs.drop k) (grown_trans hg1 h) (u4 W (HL1.out.grown h)) (drop_small HSM.out k) (by rw [List.length_drop]; omega)
  have l1 := showB_len (cs.take k) 80 (take_small HSM.out k)
  have l2 := showB_len (cs.drop k) 80 (drop_small HSM.out k)
  rw [htl] at l1
  rw [List.length_drop] at l2
  have HRB : Hid (∀ b, b < 12 → ∀ W, w.grownBy W none → Calls Tryd.prog 12 #[.string (textOf (showB (cs.take k)) ++ textOf (noneW.getD b [] ++ [10]) ++ textOf (showB (cs.drop k)))] W fun e w' => ∃ x, e = .returned (.tuple #[x, .int .i64 (k : Int), .int .i64 4]) ∧ ActsIs w' x [] ∧ W.grownBy w' none) := fun b hb W hgW => by
    have hwl := noneW_len b hb
    have e : textOf (showB (cs.take k)) ++ textOf (noneW.getD b [] ++ [10]) ++ textOf (showB (cs.drop k)) = textOf (showB (cs.take k) ++ (noneW.getD b [] ++ 10 :: showB (cs.drop k))) := by
      rw [text_append, text_append]; congr 1; simp
    obtain ⟨r1, r2, r3⟩ := read_bad (l := cs.take k) (fun x hx => (take_small HSM.out k x hx).1) (by omega) (noneW_no b hb) (noneW_kind b hb) (showB (cs.drop k)) (by rw [List.length_append, List.length_append, List.length_cons]; omega)
    have := HR.out W (textOf (showB (cs.take k) ++ (noneW.getD b [] ++ 10 :: showB (cs.drop k)))) (HWT.out W hgW)
    rw [tl_text, r1, r2, r3, htl] at this
    rw [e]
    exact this
  have z1 : (textOf (showB (cs.take k))).size ≤ 2000 := by rw [tl_size, tl_text]; omega
  have z2 : (textOf (showB (cs.drop k))).size ≤ 2000 := by rw [tl_size, tl_text]; omega
  have Z3 : Hid (∀ b, b < 12 → (textOf (noneW.getD b [] ++ [10])).size ≤ 30) := fun b hb => by rw [tl_size, tl_text, List.length_append]; have := noneW_len b hb; rw [List.length_singleton]; omega
  generalize textOf (showB (cs.take k)) = TA at *
  generalize textOf (showB (cs.drop k)) = TC at *
  clear l1 l2 u2 u4 htl HS HR HL1 HSM
  go_wp2_with fail
  refine S1.out.mono ?_
  rintro e w2 ⟨rfl, hg2⟩
  go_wp2_with fail
  refine (S2.out _ hg2).mono ?_
  rintro e w3 ⟨rfl, hg3⟩
  have hgw3 := grown_trans hg1 (grown_trans hg2 hg3)
  obtain ⟨W4, HW4, hg4, B4⟩ := alloc_namedR w3 (.cells noneO 9)
  have HC4 : Hid (∀ b, b < 12 → W4.cell? ⟨w3.heap.size, b, none⟩ = some (.string (textOf (noneW.getD b [] ++ [10])))) := fun b hb => by
    have := noneO_get b hb
    simp [World.cell?, B4.out, this]
  obtain ⟨X, hX⟩ : ∃ X, X = w3.heap.size := ⟨_, rfl⟩
  rw [← hX] at HC4
  have HW4' : Hid (W4 = w3.alloc (.cells #[.string ⟨#[115, 121, 110, 99, 32, 49, 10]⟩, .string ⟨#[97, 115, 107, 10]⟩, .string ⟨#[97, 115, 107, 32, 56, 32, 10]⟩, .string ⟨#[97, 115, 107, 32, 48, 10]⟩, .string ⟨#[10]⟩, .string ⟨#[97, 115, 107, 32, 48, 32, 48, 10]⟩, .string ⟨#[97, 115, 107, 32, 48, 32, 48, 71, 10]⟩, .string ⟨#[97, 115, 107, 32, 48, 32, 48, 65, 10]⟩, .string ⟨#[99, 114, 97, 115, 104, 32, 48, 49, 10]⟩, .string ⟨#[99, 114, 97, 115, 104, 32, 50, 48, 48, 48, 48, 49, 10]⟩, .string ⟨#[83, 121, 110, 99, 10]⟩, .string ⟨#[115, 116, 97, 114, 116, 32, 10]⟩] 9)) := HW4.out
  have hgw4 := grown_trans hgw3 hg4
  clear HW4 B4 S1 S2
  go_upto_region 6 with fail
  rw [← HW4'.out, ← hX]
  clear hX HW4' hg4 hg3 hg2
  go_wp2_with fail
  refine (PB.out _).mono ?_
  rintro e w' ⟨b, rfl, hb, hw'⟩
  subst w'
  have hb12 : b < 12 := by omega
  have c4 := HC4.out b hb12
  have z3 := Z3.out b hb12
  have RB := HRB.out b hb12
  generalize textOf (noneW.getD b [] ++ [10]) = TB at *
  have HRB' : Hid (∀ W, w.grownBy W none → Calls Tryd.prog 12 #[.string (TA ++ TB ++ TC)] W fun e w' => ∃ x, e = .returned (.tuple #[x, .int .i64 (k : Int), .int .i64 4]) ∧ ActsIs w' x [] ∧ W.grownBy w' none) := RB
  have q1 : TA.size + TB.size ≤ 9223372036854775807 := by omega
  have q2 : (TA ++ TB).size + TC.size ≤ 9223372036854775807 := by rw [ByteArray.size_append]; omega
  have q3 : ∀ W : World, (Op.stringOp .add TA TB).run Tryd.prog W = .ok (.string (TA ++ TB)) W := fun W => run_string_add_sum W _ _ (by omega)
  have q4 : ∀ W : World, (Op.stringOp .add (TA ++ TB) TC).run Tryd.prog W = .ok (.string (TA ++ TB ++ TC)) W := fun W => run_string_add_sum W _ _ (by rw [ByteArray.size_append]; omega)
  clear RB HRB HC4 Z3
  go_wp2_with fail
  refine (HRB'.out _ hgw4).mono ?_
  rintro e w5 ⟨x5, rfl, h5, hg5⟩
  obtain ⟨a5, k5, rfl⟩ := h5.shape
  clear h5
  go_wp2
  go_ret
  exact ⟨rfl, grown_trans hgw4 hg5⟩
end Go.Proofs.YtpefggkhjocanaaDoor
