/-
  The document's answer: Dec.
-/
import Derived.Test.YtpefggkhjocanaaDoorLineF
import Derived.Test.YtpefggkhjocanaaDoorStrM
import Derived.Deep.RegionHeld3
import Derived.Deep.RegionWith
import Derived.Handy
import Derived.Laws.Concat
namespace Go.Proofs.YtpefggkhjocanaaDoor
open Go.RowKit
theorem digC_int {n : Nat} (h : n < 10) : ((digC n).toNat : Int) = 48 + (n : Int) := by rw [digC_nat h]; omega
set_option maxRecDepth 100000 in
set_option maxHeartbeats 2000000 in
theorem dec_any : ∀ (n : Nat) (w : World), n ≤ 1000000 → Calls Tryd.prog 36 #[.int .i64 (n : Int)] w fun e w' => e = .returned (.string (textOf (decD n))) ∧ w.grownBy w' none := by
  intro n
  induction n using Nat.strongRecOn with
  | _ n ih =>
    intro w hn
    by_cases h : n < 10
    · have i1 : (n : Int) < 10 := by omega
      have hw : IntKind.u8.wrap (48 + (n : Int)) = 48 + (n : Int) := by rw [IntKind.wrap_u8]; omega
      have hD := decD_small h
      have cv : (convert 34 9 (.slice (some ⟨w.heap.size, 0, none⟩) 1 1)).run Tryd.prog (w.alloc (.cells #[.int .u8 (48 + (n : Int))] 5)) = .ok (.string (textOf [digC n])) (w.alloc (.cells #[.int .u8 (48 + (n : Int))] 5)) := by
        have h1 := one_slice w (digC n) 5
        rw [digC_int h] at h1
        exact conv_bytes _ _ [digC n] h1
      rw [hD]
      generalize textOf [digC n] = S at *
      clear hD ih h
      go_enter Tryd.func36, Tryd.ntmps36
      go_wp2
      go_ret
      exact ⟨rfl, World.grownBy_alloc _ _ _⟩
    · have i1 : ¬ (n : Int) < 10 := by omega
      obtain ⟨m, hm⟩ : ∃ m, m = n / 10 := ⟨_, rfl⟩
      obtain ⟨r, hr⟩ : ∃ r, r = n % 10 := ⟨_, rfl⟩
      have DC : Hid (∀ w', Calls Tryd.prog 36 #[.int .i64 (m : Int)] w' fun e w'' => e = .returned (.string (textOf (decD m))) ∧ w'.grownBy w'' none) := fun w' => ih m (by omega) w' (by omega)
      have hD : textOf (decD n) = textOf (decD m) ++ textOf [digC r] := by rw [decD_big h, text_append, hm, hr]
      have hr10 : r < 10 := by omega
      have hq : (n : Int) / 10 = (m : Int) := by omega
      have hq2 : (n : Int) % 10 = (r : Int) := by omega
      have hqt : (n : Int).tdiv 10 = (m : Int) := by rw [Int.tdiv_eq_ediv_of_nonneg (by omega)]; omega
      have hqm : (n : Int).tmod 10 = (r : Int) := by rw [Int.tmod_eq_emod_of_nonneg (by omega)]; omega
      have hw1 : IntKind.i64.wrap (m : Int) = (m : Int) := by rw [IntKind.wrap_i64]; omega
      have hw2 : IntKind.i64.wrap (48 + (r : Int)) = 48 + (r : Int) := by rw [IntKind.wrap_i64]; omega
      have hw3 : IntKind.i64.wrap (r : Int) = (r : Int) := by rw [IntKind.wrap_i64]; omega
      have hw : IntKind.u8.wrap (48 + (r : Int)) = 48 + (r : Int) := by rw [IntKind.wrap_u8]; omega
      have hsl : ∀ W : World, SliceIs (W.alloc (.cells #[.int .u8 (48 + (r : Int))] 5)) (.slice (some ⟨W.heap.size, 0, none⟩) 1 1) [digC r] := fun W => by
        have h1 := one_slice W (digC r) 5
        rw [digC_int hr10] at h1
        exact h1
      have cvA : ∀ W : World, (convert 34 9 (.slice (some ⟨W.heap.size, 0, none⟩) 1 1)).run Tryd.prog (W.alloc (.cells #[.int .u8 (48 + (r : Int))] 5)) = .ok (.string (textOf [digC r])) (W.alloc (.cells #[.int .u8 (48 + (r : Int))] 5)) := fun W => conv_bytes _ _ [digC r] (hsl W)
      have HSL : Hid (∀ W W' : World, (W.alloc (.cells #[.int .u8 (48 + (r : Int))] 5)).grownBy W' none → (convert 34 9 (.slice (some ⟨W.heap.size, 0, none⟩) 1 1)).run Tryd.prog W' = .ok (.string (textOf [digC r])) W') := fun W W' hg => conv_bytes _ _ [digC r] ((hsl W).grown hg)
      have hl1 : (textOf (decD m)).size = (decD m).length := tl_size _
      have hl2 : (textOf [digC r]).size = 1 := tl_size _
      have hl3 := decD_len 6 m (by show m < 10000000; omega)
      have hadd : ∀ W : World, (Op.stringOp .add (textOf (decD m)) (textOf [digC r])).run Tryd.prog W = .ok (.string (textOf (decD m) ++ textOf [digC r])) W := fun W => run_string_add_sum W _ _ (by omega)
      have hsum : ¬ 9223372036854775807 < (textOf (decD m)).size + (textOf [digC r]).size := by omega
      have hsum2 : (textOf (decD m)).size + (textOf [digC r]).size ≤ 9223372036854775807 := by omega
      clear hl1 hl2 hl3
      rw [hD]
      generalize textOf [digC r] = S2 at *
      generalize textOf (decD m) = S1 at *
      clear ih hD hm hr h hsl
      go_enter Tryd.func36, Tryd.ntmps36
      go_upto_region 3 with fail
      have cvC : (convert 34 9 (.slice (some ⟨w.heap.size, 0, none⟩) 1 1)).run Tryd.prog (w.alloc (.cells #[.int .u8 (48 + (r : Int))] 5)).drew = .ok (.string S2) (w.alloc (.cells #[.int .u8 (48 + (r : Int))] 5)).drew := HSL.out w _ (grown_drew (grown_refl _ none))
      go_region_with (first
        | (go_at_call 36; refine (DC.out (w.alloc (.cells #[.int .u8 (48 + (r : Int))] 5)).drew).mono ?_; rintro e w1 ⟨rfl, hg1⟩; have hg2 := grown_trans (grown_drew (grown_refl (w.alloc (.cells #[.int .u8 (48 + (r : Int))] 5)) none)) hg1; have cvB : (convert 34 9 (.slice (some ⟨w.heap.size, 0, none⟩) 1 1)).run Tryd.prog w1 = .ok (.string S2) w1 := HSL.out w w1 hg2; have hgw : w.grownBy w1 none := grown_trans (World.grownBy_alloc _ _ _) hg2)
        | (go_at_call 36; refine (DC.out w.drew).mono ?_; rintro e w1 ⟨rfl, hg1⟩; have hgw : w.grownBy w1 none := grown_trans (grown_drew (grown_refl w none)) hg1))
      all_goals (go_wp2; go_ret; first | exact ⟨rfl, hgw⟩ | exact ⟨rfl, grown_alloc hgw _⟩)
end Go.Proofs.YtpefggkhjocanaaDoor
