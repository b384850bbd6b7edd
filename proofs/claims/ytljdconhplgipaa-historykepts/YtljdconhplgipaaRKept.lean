/-
  The document's answer: KeptAt.
-/
import Derived.Test.YtljdconhplgipaaHistO
import Derived.Test.YtljdconhplgipaaRCmtF
namespace Go.Proofs.Ytljdconhplgipaa
open Go.RowKit
set_option maxRecDepth 100000 in
theorem keptAt_any (w : World) (n t : Int) (hn : n ≤ 9223372036854775807) :
    Calls Try.prog 15 #[.int .i64 n, .int .i64 t] w fun e w' => e = .returned (.bool (keptF n t)) ∧ w.grownBy w' none := by
  have hk := kept_iff n t
  obtain ⟨Z, hZ⟩ : ∃ Z, Z = keptF n t := ⟨_, rfl⟩
  rw [← hZ] at hk ⊢
  have HK : Hid (Z = true ↔ 0 ≤ t ∧ t ≤ n ∧ n - t < 6) := hk
  clear hZ hk
  have no : (¬ (0 ≤ t ∧ t ≤ n ∧ n - t < 6)) → Z = false := fun h => by
    cases hz : Z with
    | false => rfl
    | true => exact absurd (HK.out.1 hz) h
  have HNO : Hid ((¬ (0 ≤ t ∧ t ≤ n ∧ n - t < 6)) → Z = false) := no
  clear no
  by_cases h1 : t < 0
  · have HZ : Hid (Z = false) := HNO.out (by omega)
    go_enter Try.func15, Try.ntmps15
    go_wp2
    go_ret
    exact ⟨ret_bool HZ.out, grown_refl _ _⟩
  · by_cases h2 : t > n
    · have HZ : Hid (Z = false) := HNO.out (by omega)
      go_enter Try.func15, Try.ntmps15
      go_wp2
      go_ret
      exact ⟨ret_bool HZ.out, grown_refl _ _⟩
    · go_enter Try.func15, Try.ntmps15
      go_wp2_with fail
      go_loopw [5] (fun iv wr => ∃ m : Nat, m ≤ 6 ∧ iv = .int .i64 (m : Int) ∧ (m : Int) ≤ n - t ∧ wr = w) (fun i _ => 6 - (intOf i).toNat)
      case atStart => exact ⟨0, by omega, rfl, by omega, rfl⟩
      case round =>
        obtain ⟨m, hm, rfl, hmt, hw⟩ := hrel
        have hw := hw.symm
        subst hw
        by_cases hlt : m < 6
        · have i1 : (m : Int) < 6 := by omega
          have i2 : IntKind.i64.wrap (n - (m : Int)) = n - (m : Int) := by rw [IntKind.wrap_i64]; omega
          by_cases he : n - (m : Int) = t
          · have e1 : ((n - (m : Int)) == t) = true := by simp [he]
            have HZ : Hid (Z = true) := HK.out.2 (by omega)
            clear he
            go_wp2
            go_ret
            exact ⟨ret_bool HZ.out, grown_refl _ _⟩
          · have e1 : ((n - (m : Int)) == t) = false := by simp only [beq_eq_false_iff_ne, ne_eq]; exact he
            go_wp2_with fail
            go_roundw
            case rel => exact ⟨m + 1, by omega, by go_num, by omega, by first | rfl | trivial⟩
            case measure => simp [intOf]; omega
        · obtain rfl : m = 6 := by omega
          have HZ : Hid (Z = false) := HNO.out (by omega)
          go_wp2
          go_ret
          exact ⟨ret_bool HZ.out, grown_refl _ _⟩
end Go.Proofs.Ytljdconhplgipaa
