/-
  lines.numberOf and lines.kindOf, as they landed.
-/
import Derived.Test.YtpefggkhjocanaaDoorLnGF
import Derived.Test.YtpefggkhjocanaaDoorLibA
import Derived.Lib.AtoiErrMem
namespace Go.Proofs.YtpefggkhjocanaaDoor
open Go.RowKit Go.Shelf
theorem grown_of_below {w w' : World} (h : Below w.heap.size w w') : w.grownBy w' none := ⟨h.os, h.tape, h.output, h.size, fun k hk _ => h.block k hk⟩
theorem atoi_any (w : World) (x : List UInt8) (hl : x.length ≤ 2000000) (hT : LnT w) :
    Calls Tryd.prog 58 #[.string (textOf x)] w fun e w' => w.grownBy w' none ∧ ((e = .returned (.tuple #[.int .i64 (numF x), .nilIface])) ∨ ∃ z t N, numF x = -1 ∧ e = .returned (.tuple #[.int .i64 z, .iface t (.pointer (some ⟨N, 0, none⟩))])) := by
  have hs : (textOf x).size = x.length := tl_size _
  have ht : (textOf x).data.toList = x := rfl
  cases h : Lib.atoiAll x with
  | ok v =>
    refine (Any.strconv_Atoi_ok layAtoi (textOf x) (by omega) v (by rw [ht]; exact h) w).mono ?_
    rintro e w' ⟨rfl, hw⟩
    refine ⟨?_, .inl (by rw [numF, h])⟩
    rcases hw with rfl | ⟨t, rfl⟩
    · exact grown_refl _ _
    · exact grown_of_below (Lib.bytesWorld_below _ _ _)
  | «syntax» =>
    obtain ⟨t, p, hv⟩ := hT.syn
    refine (Any.strconv_Atoi_syntax_var layAtoi (textOf x) (by omega) (by rw [ht]; exact h) t p w hv).mono ?_
    rintro e w' ⟨N, rfl, _, _, hb⟩
    exact ⟨grown_of_below hb, .inr ⟨_, _, _, by rw [numF, h], rfl⟩⟩
  | range =>
    obtain ⟨t, p, hv⟩ := hT.rng
    refine (Any.strconv_Atoi_range_var layAtoi (textOf x) (by omega) (by rw [ht]; exact h) t p w hv).mono ?_
    rintro e w' ⟨N, rfl, _, _, hb⟩
    exact ⟨grown_of_below hb, .inr ⟨_, _, _, by rw [numF, h], rfl⟩⟩
set_option maxRecDepth 100000 in
set_option maxHeartbeats 1000000 in
theorem numberOf_any (w : World) (x : List UInt8) (hl : x.length ≤ 2000000) (hT : LnT w) :
    Calls Tryd.prog 52 #[.string (textOf x)] w fun e w' => e = .returned (.int .i64 (numF x)) ∧ w.grownBy w' none := by
  have AT := atoi_any w x hl hT
  have HA : Hid (Calls Tryd.prog 58 #[.string (textOf x)] w fun e w' => w.grownBy w' none ∧ ((e = .returned (.tuple #[.int .i64 (numF x), .nilIface])) ∨ ∃ z t N, numF x = -1 ∧ e = .returned (.tuple #[.int .i64 z, .iface t (.pointer (some ⟨N, 0, none⟩))]))) := AT
  clear AT hT hl
  generalize numF x = n at *
  go_enter Tryd.func52, Tryd.ntmps52
  go_wp2_with fail
  refine HA.out.mono ?_
  rintro e w1 ⟨hg, rfl | ⟨z, t, N, hn, rfl⟩⟩
  · go_wp2
    go_ret
    exact ⟨rfl, hg⟩
  · subst hn
    go_wp2
    go_ret
    exact ⟨rfl, hg⟩
theorem words_cells : Tryd.prog.cellsOf 9 = 1 := by kernel_rfl
theorem index_words (a b c d e : ByteArray) (W : World) :
    (Instr.index 68 (.agg #[.string a, .string b, .string c, .string d, .string e]) (.int .i64 0)).run Tryd.prog W = .ok (.string a) W ∧
    (Instr.index 68 (.agg #[.string a, .string b, .string c, .string d, .string e]) (.int .i64 1)).run Tryd.prog W = .ok (.string b) W ∧
    (Instr.index 68 (.agg #[.string a, .string b, .string c, .string d, .string e]) (.int .i64 2)).run Tryd.prog W = .ok (.string c) W ∧
    (Instr.index 68 (.agg #[.string a, .string b, .string c, .string d, .string e]) (.int .i64 3)).run Tryd.prog W = .ok (.string d) W ∧
    (Instr.index 68 (.agg #[.string a, .string b, .string c, .string d, .string e]) (.int .i64 4)).run Tryd.prog W = .ok (.string e) W := by
  refine ⟨?_, ?_, ?_, ?_, ?_⟩
  all_goals first | kernel_rfl | simp [Instr.index, run_underlying Tryd.underlying68, asIntOf, words_cells, go_sem]
theorem kind_at {x : List UInt8} {m : Nat} (hm : m < 5) (h : wordN m = x) : kindF x = m := by
  subst h
  exact (by decide : ∀ m : Fin 5, kindF (wordN m.1) = m.1) ⟨m, hm⟩
theorem kind_none {x : List UInt8} (h : ∀ j, j < 5 → wordN j ≠ x) : kindF x = 0 := by
  have h1 := h 1 (by omega)
  have h2 := h 2 (by omega)
  have h3 := h 3 (by omega)
  have h4 := h 4 (by omega)
  rw [kindF, if_neg (fun e => h1 e.symm), if_neg (fun e => h2 e.symm), if_neg (fun e => h3 e.symm), if_neg (fun e => h4 e.symm)]
theorem text_is (b c : List UInt8) (h : b = c) : ((textOf b).toList == (textOf c).toList) = true := by rw [h]; simp
theorem text_not (b c : List UInt8) (h : b ≠ c) : ((textOf b).toList == (textOf c).toList) = false := by
  rw [textOf_list, textOf_list]; simp [h]
set_option maxRecDepth 100000 in
set_option maxHeartbeats 2000000 in
theorem kindOf_any (w : World) (x : List UInt8) (hT : WrdT w) :
    Calls Tryd.prog 51 #[.string (textOf x)] w fun e w' => e = .returned (.int .i64 (kindF x : Int)) ∧ w.grownBy w' none := by
  have c0 := hT.words 0 (by omega)
  have c1 := hT.words 1 (by omega)
  have c2 := hT.words 2 (by omega)
  have c3 := hT.words 3 (by omega)
  have c4 := hT.words 4 (by omega)
  have HA : Hid (∀ m, m < 5 → wordN m = x → kindF x = m) := fun m h1 h2 => kind_at h1 h2
  have HN : Hid ((∀ j, j < 5 → wordN j ≠ x) → kindF x = 0) := kind_none
  have HY : Hid (∀ m, wordN m = x → ((textOf (wordN m)).toList == (textOf x).toList) = true) := fun m h => text_is _ _ h
  have HZ : Hid (∀ m, wordN m ≠ x → ((textOf (wordN m)).toList == (textOf x).toList) = false) := fun m h => text_not _ _ h
  generalize textOf x = X at *
  generalize kindF x = k at *
  clear hT
  have ix := fun W => index_words (textOf (wordN 0)) (textOf (wordN 1)) (textOf (wordN 2)) (textOf (wordN 3)) (textOf (wordN 4)) W
  have HIX := ix
  clear ix
  go_enter Tryd.func51, Tryd.ntmps51
  go_wp2_with fail
  go_loopw [6] (fun iv wr => ∃ m : Nat, (m = 0 ∨ m = 1 ∨ m = 2 ∨ m = 3 ∨ m = 4 ∨ m = 5) ∧ iv = .int .i64 (m : Int) ∧ (∀ j, j < m → wordN j ≠ x) ∧ wr = w) (fun iv _ => 5 - (intOf iv).toNat)
  case atStart => exact ⟨0, .inl rfl, rfl, fun j hj => absurd hj (by omega), rfl⟩
  case round =>
    obtain ⟨m, hm, rfl, hno, rfl⟩ := hrel
    obtain ⟨x0, x1, x2, x3, x4⟩ := HIX wr
    clear HIX
    rcases hm with rfl | rfl | rfl | rfl | rfl | rfl
    · by_cases hx : wordN 0 = x
      · have hy := HY.out 0 hx
        have HK : Hid (k = 0) := HA.out 0 (by omega) hx
        clear hno hx HN HA HY HZ
        go_wp2
        go_ret
        exact ⟨by rw [HK.out]; rfl, grown_refl _ _⟩
      · have hy := HZ.out 0 hx
        have hno' : Hid (∀ j, j < 0 + 1 → wordN j ≠ x) := fun j hj => by
          rcases Nat.lt_or_ge j 0 with h | h
          · exact hno j h
          · obtain rfl : j = 0 := by omega
            exact hx
        clear hno hx HN HA HY HZ
        go_wp2
        go_roundw
        case rel => exact ⟨0 + 1, by omega, by rfl, hno'.out, by first | trivial | rfl⟩
        case measure => simp [intOf]
    · by_cases hx : wordN 1 = x
      · have hy := HY.out 1 hx
        have HK : Hid (k = 1) := HA.out 1 (by omega) hx
        clear hno hx HN HA HY HZ
        go_wp2
        go_ret
        exact ⟨by rw [HK.out]; rfl, grown_refl _ _⟩
      · have hy := HZ.out 1 hx
        have hno' : Hid (∀ j, j < 1 + 1 → wordN j ≠ x) := fun j hj => by
          rcases Nat.lt_or_ge j 1 with h | h
          · exact hno j h
          · obtain rfl : j = 1 := by omega
            exact hx
        clear hno hx HN HA HY HZ
        go_wp2
        go_roundw
        case rel => exact ⟨1 + 1, by omega, by rfl, hno'.out, by first | trivial | rfl⟩
        case measure => simp [intOf]
    · by_cases hx : wordN 2 = x
      · have hy := HY.out 2 hx
        have HK : Hid (k = 2) := HA.out 2 (by omega) hx
        clear hno hx HN HA HY HZ
        go_wp2
        go_ret
        exact ⟨by rw [HK.out]; rfl, grown_refl _ _⟩
      · have hy := HZ.out 2 hx
        have hno' : Hid (∀ j, j < 2 + 1 → wordN j ≠ x) := fun j hj => by
          rcases Nat.lt_or_ge j 2 with h | h
          · exact hno j h
          · obtain rfl : j = 2 := by omega
            exact hx
        clear hno hx HN HA HY HZ
        go_wp2
        go_roundw
        case rel => exact ⟨2 + 1, by omega, by rfl, hno'.out, by first | trivial | rfl⟩
        case measure => simp [intOf]
    · by_cases hx : wordN 3 = x
      · have hy := HY.out 3 hx
        have HK : Hid (k = 3) := HA.out 3 (by omega) hx
        clear hno hx HN HA HY HZ
        go_wp2
        go_ret
        exact ⟨by rw [HK.out]; rfl, grown_refl _ _⟩
      · have hy := HZ.out 3 hx
        have hno' : Hid (∀ j, j < 3 + 1 → wordN j ≠ x) := fun j hj => by
          rcases Nat.lt_or_ge j 3 with h | h
          · exact hno j h
          · obtain rfl : j = 3 := by omega
            exact hx
        clear hno hx HN HA HY HZ
        go_wp2
        go_roundw
        case rel => exact ⟨3 + 1, by omega, by rfl, hno'.out, by first | trivial | rfl⟩
        case measure => simp [intOf]
    · by_cases hx : wordN 4 = x
      · have hy := HY.out 4 hx
        have HK : Hid (k = 4) := HA.out 4 (by omega) hx
        clear hno hx HN HA HY HZ
        go_wp2
        go_ret
        exact ⟨by rw [HK.out]; rfl, grown_refl _ _⟩
      · have hy := HZ.out 4 hx
        have hno' : Hid (∀ j, j < 4 + 1 → wordN j ≠ x) := fun j hj => by
          rcases Nat.lt_or_ge j 4 with h | h
          · exact hno j h
          · obtain rfl : j = 4 := by omega
            exact hx
        clear hno hx HN HA HY HZ
        go_wp2
        go_roundw
        case rel => exact ⟨4 + 1, by omega, by rfl, hno'.out, by first | trivial | rfl⟩
        case measure => simp [intOf]
    · have HK : Hid (k = 0) := HN.out hno
      clear hno HN HA
      go_wp2
      go_ret
      exact ⟨by rw [HK.out]; rfl, grown_refl _ _⟩
end Go.Proofs.YtpefggkhjocanaaDoor
