/-
  The document's answer: whole.
-/
import Derived.Test.YtpefggkhjocanaaDoorPart1
import Derived.Test.YtpefggkhjocanaaDoorStrM
namespace Go.Proofs.YtpefggkhjocanaaDoor
open Go.RowKit
theorem val_lt : ∀ (n : Nat) (l : List UInt8), l.length = n → l.all isDig = true → valD l < 10 ^ n := by
  intro n
  induction n with
  | zero => intro l hl _; rw [List.eq_nil_of_length_eq_zero hl]; simp [valD]
  | succ n ih =>
    intro l hl hd
    rcases snoc_or l with rfl | ⟨t, c, rfl⟩
    · simp at hl
    · rw [List.all_append] at hd
      simp only [List.all_cons, List.all_nil, Bool.and_true, Bool.and_eq_true] at hd
      have h1 := ih t (by simpa using hl) hd.1
      have h2 := (digC_digV hd.2).2
      rw [valD_snoc, Nat.pow_succ]
      omega
theorem all_take {l : List UInt8} {m : Nat} (hm : m < l.length) : (l.take (m + 1)).all isDig = ((l.take m).all isDig && isDig (l.getD m 0)) := by
  rw [List.take_succ_eq_append_getElem hm, List.all_append, show l[m] = l.getD m 0 by simp [hm]]
  simp
theorem all_not {l : List UInt8} {m : Nat} (hm : m < l.length) (h : isDig (l.getD m 0) = false) : l.all isDig = false := by
  rw [Bool.eq_false_iff]
  intro e
  have := List.all_eq_true.1 e (l.getD m 0) (by rw [show l.getD m 0 = l[m] by simp [hm]]; exact List.getElem_mem hm)
  rw [h] at this; cases this
theorem whole_step (S : ByteArray) (m : Nat) (h : m < S.size) : ((tl S).take (m + 1)).all isDig = (((tl S).take m).all isDig && isDig (S[m]'h)) ∧ valD ((tl S).take (m + 1)) = 10 * valD ((tl S).take m) + digV (S[m]'h) ∧ (isDig (S[m]'h) = false → (tl S).all isDig = false) := by
  have hg := tl_get S m h
  have hml : m < (tl S).length := by rw [← tl_size]; exact h
  rw [← hg]
  refine ⟨all_take hml, ?_, fun e => all_not hml e⟩
  rw [List.take_succ_eq_append_getElem hml, valD_snoc, show (tl S)[m] = (tl S).getD m 0 by simp [hml]]
set_option maxRecDepth 100000 in
set_option maxHeartbeats 2000000 in
theorem whole_any (S : ByteArray) (w : World) (hl : S.size ≤ 2000000) : Calls Tryd.prog 42 #[.string S] w fun e w' => e = .returned (.int .i64 (wholeF (tl S))) ∧ w' = w := by
  have HS : Hid (S.size = (tl S).length) := tl_size S
  have HE : Hid (wholeF (tl S) = if (tl S).length = 0 ∨ 6 < (tl S).length ∨ ((tl S).getD 0 0 = 48 ∧ 1 < (tl S).length) then -1 else if (tl S).all isDig = true then (valD (tl S) : Int) else -1) := rfl
  have HG : Hid (∀ i (h : i < S.size), (tl S).getD i 0 = S[i]) := fun i h => tl_get S i h
  generalize wholeF (tl S) = z at *
  by_cases h0 : S.size = 0
  · have HZ : Hid (z = -1) := by show _ = _; rw [HE.out, if_pos (.inl (by rw [← HS.out]; exact h0))]
    have i0 : ((S.size : Int) == 0) = true := beq_iff_eq.2 (by omega)
    clear h0 HE HG HS
    go_enter Tryd.func42, Tryd.ntmps42
    go_wp2
    go_ret
    exact ⟨by rw [HZ.out]; rfl, rfl⟩
  · have i0 : ((S.size : Int) == 0) = false := beq_eq_false_iff_ne.2 (by omega)
    have hpos : 0 < S.size := by omega
    by_cases h6 : 6 < S.size
    · have HZ : Hid (z = -1) := by show _ = _; rw [HE.out, if_pos (.inr (.inl (by rw [← HS.out]; exact h6)))]
      have i6 : decide ((S.size : Int) > 6) = true := decide_eq_true (by omega)
      have i6b : (S.size : Int) > 6 := by omega
      clear h0 HE HG HS
      go_enter Tryd.func42, Tryd.ntmps42
      go_wp2
      go_ret
      exact ⟨by rw [HZ.out]; rfl, rfl⟩
    · have i6 : decide ((S.size : Int) > 6) = false := decide_eq_false (by omega)
      have i6b : ¬ (S.size : Int) > 6 := by omega
      have hg0 := HG.out 0 hpos
      by_cases h48 : S[0].toNat = 48 ∧ 1 < S.size
      · have HZ : Hid (z = -1) := by
          have e48 : (tl S).getD 0 0 = 48 := by rw [hg0]; exact UInt8.toNat_inj.1 h48.1
          show _ = _; rw [HE.out, if_pos (.inr (.inr ⟨e48, by rw [← HS.out]; exact h48.2⟩))]
        have b1 : ((S[0].toNat : Int) == 48) = true := beq_iff_eq.2 (by omega)
        have b2 : decide ((S.size : Int) > 1) = true := decide_eq_true (by omega)
        have b3 : (S.size : Int) > 1 := by omega
        clear h0 HE HG HS hg0 h48
        go_enter Tryd.func42, Tryd.ntmps42
        go_wp2
        go_ret
        exact ⟨by rw [HZ.out]; rfl, rfl⟩
      · have HZ : Hid (z = if (tl S).all isDig = true then (valD (tl S) : Int) else -1) := by
          show _ = _
          rw [HE.out, if_neg]
          rintro (e | e | ⟨e, e2⟩)
          · rw [← HS.out] at e; exact h0 e
          · rw [← HS.out] at e; exact h6 e
          · rw [hg0] at e
            exact h48 ⟨by rw [e]; rfl, by rw [HS.out]; exact e2⟩
        have HN : Hid (¬ (S[0].toNat = 48 ∧ 1 < S.size)) := h48
        clear HE hg0 h48 h0
        go_enter Tryd.func42, Tryd.ntmps42
        go_upto_region 1 with fail
        go_cut [22] (fun s wx => s = .bool false ∧ wx = w)
        case first =>
          by_cases e : S[0].toNat = 48
          · have b1 : ((S[0].toNat : Int) == 48) = true := beq_iff_eq.2 (by omega)
            have b0 : (S[0].toNat : Int) = 48 := by omega
            have b2 : decide ((S.size : Int) > 1) = false := decide_eq_false (fun e2 => HN.out ⟨e, by omega⟩)
            have b3 : ¬ (S.size : Int) > 1 := fun e2 => HN.out ⟨e, by omega⟩
            clear e HN
            go_wp2_with fail
            go_meet
            case rel => exact ⟨rfl, rfl⟩
          · have b1 : ((S[0].toNat : Int) == 48) = false := beq_eq_false_iff_ne.2 (fun e2 => e (by omega))
            have b0 : ¬ (S[0].toNat : Int) = 48 := by omega
            clear e HN
            go_wp2_with fail
            go_meet
            case rel => exact ⟨rfl, rfl⟩
        case rest =>
        obtain ⟨rfl, rfl⟩ := hcut
        clear HN
        have hn6 : S.size ≤ 6 := by omega
        go_wp2_with fail
        go_loopw [3, 4] (fun nv iv wr => ∃ m : Nat, m ≤ S.size ∧ iv = .int .i64 (m : Int) ∧ nv = .int .i64 ((valD ((tl S).take m) : Nat) : Int) ∧ ((tl S).take m).all isDig = true ∧ wr = wc) (fun _ iv _ => S.size - (intOf iv).toNat)
        case atStart => exact ⟨0, by omega, rfl, rfl, rfl, rfl⟩
        case round =>
          obtain ⟨m, hm, rfl, rfl, hd, rfl⟩ := hrel
          have HD : Hid (((tl S).take m).all isDig = true) := hd
          clear hd
          by_cases hlt : m < S.size
          · have i1 : (m : Int) < (S.size : Int) := by omega
            obtain ⟨t1, t2, t3⟩ := whole_step S m hlt
            have HA : Hid (((tl S).take (m + 1)).all isDig = isDig S[m]) := by show _ = _; rw [t1, HD.out]; rfl
            have HV : Hid (valD ((tl S).take (m + 1)) = 10 * valD ((tl S).take m) + digV S[m]) := t2
            have HNA : Hid (isDig S[m] = false → (tl S).all isDig = false) := t3
            clear t1 t2 t3
            have hvb := val_lt m ((tl S).take m) (by rw [List.length_take, ← HS.out]; omega) HD.out
            have hv6 : valD ((tl S).take m) < 1000000 := Nat.lt_of_lt_of_le hvb (by rw [show 1000000 = 10 ^ 6 by rfl]; exact Nat.pow_le_pow_right (by omega) (by omega))
            have HID : Hid (isDig S[m] = (decide (48 ≤ S[m].toNat) && decide (S[m].toNat ≤ 57))) := rfl
            have HDV : Hid (digV S[m] = S[m].toNat - 48) := rfl
            have hc := S[m].toNat_lt
            generalize valD ((tl S).take m) = V at *
            clear hvb
            by_cases h1 : 48 ≤ S[m].toNat
            · have j1 : ¬ (S[m].toNat : Int) < 48 := by omega
              have j1b : decide ((S[m].toNat : Int) < 48) = false := decide_eq_false j1
              by_cases h2 : S[m].toNat ≤ 57
              · have j2 : ¬ (S[m].toNat : Int) > 57 := by omega
                have j2b : decide ((S[m].toNat : Int) > 57) = false := decide_eq_false j2
                have HT : Hid (isDig S[m] = true) := by show _ = _; rw [HID.out, decide_eq_true h1, decide_eq_true h2]; rfl
                have hw : IntKind.u8.wrap ((S[m].toNat : Int) - 48) = (S[m].toNat : Int) - 48 := by rw [IntKind.wrap_u8]; omega
                have HR : Hid (10 * (V : Int) + ((S[m].toNat : Int) - 48) = ((valD ((tl S).take (m + 1)) : Nat) : Int)) := by show _ = _; rw [HV.out, HDV.out]; omega
                clear h1 h2
                go_wp2_with fail
                go_roundw
                case rel => exact ⟨m + 1, by omega, by go_num, by rw [← HR.out], by rw [HA.out]; exact HT.out, trivial⟩
                case measure => simp [intOf]; omega
              · have j2 : (S[m].toNat : Int) > 57 := by omega
                have j2b : decide ((S[m].toNat : Int) > 57) = true := decide_eq_true j2
                have HR : Hid (z = -1) := by show _ = _; rw [HZ.out, HNA.out (by rw [HID.out, decide_eq_false h2, Bool.and_false]), if_neg (by decide)]
                clear h1 h2
                go_wp2
                go_ret
                exact ⟨by rw [HR.out]; rfl, rfl⟩
            · have j1 : (S[m].toNat : Int) < 48 := by omega
              have j1b : decide ((S[m].toNat : Int) < 48) = true := decide_eq_true j1
              have HR : Hid (z = -1) := by show _ = _; rw [HZ.out, HNA.out (by rw [HID.out, decide_eq_false h1, Bool.false_and]), if_neg (by decide)]
              clear h1
              go_wp2
              go_ret
              exact ⟨by rw [HR.out]; rfl, rfl⟩
          · obtain rfl : m = S.size := by omega
            have HT : Hid ((tl S).take S.size = tl S) := by show _ = _; rw [HS.out]; exact List.take_length
            have HR : Hid (z = ((valD ((tl S).take S.size) : Nat) : Int)) := by
              have := HD.out
              show _ = _
              rw [HT.out] at this ⊢
              rw [HZ.out, if_pos this]
            generalize valD ((tl S).take S.size) = V at *
            clear HT HD
            go_wp2
            go_ret
            exact ⟨by rw [HR.out]; rfl, rfl⟩
end Go.Proofs.YtpefggkhjocanaaDoor
