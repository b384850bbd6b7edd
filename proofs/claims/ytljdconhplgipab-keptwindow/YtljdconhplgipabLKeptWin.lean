/-
  The walk of canopykeep.KeptWindow, over what the code must keep.
-/
import Derived.Test.YtljdconhplgipabHistO
import Derived.Test.YtljdconhplgipabHsKept
import Derived.Test.YtljdconhplgipabPicked
namespace Go.Proofs.Ytljdconhplgipab
open Go.RowKit
theorem cnt_small (n t : Int) (h0 : 0 ≤ n) (h1 : n ≤ 1000) : 0 ≤ cntK n t ∧ cntK n t ≤ 1010 := by unfold cntK; omega
set_option maxRecDepth 100000 in
set_option maxHeartbeats 1000000 in
theorem keptWindow_walk (hK : HsKeptOK) (w : World) (x : Int) (hx0 : -9223372036854775808 ≤ x) (hx1 : x ≤ 9223372036854775807) :
    Calls Try.prog 5 #[.int .i64 x] w fun e w' => e = .returned (.bool true) ∧ w.grownBy w' none := by
  have PK : Hid (Calls Try.prog 7 #[.int .i64 x, .int .i64 1000] w fun e w'' => ∃ k : Nat, e = .returned (.int .i64 (k : Int)) ∧ (k : Int) < 1000 ∧ w'' = w) := picked_any x 1000 w hx0 hx1 (by omega) (by omega)
  have HK : Hid HsKeptOK := hK
  clear hK
  go_enter Try.func5, Try.ntmps5
  go_wp2_with fail
  refine PK.out.mono ?_
  rintro e w1 ⟨n, rfl, hn, rfl⟩
  have KE : Hid (∀ w' (t : Int), -100 ≤ t → t ≤ 2000 → Calls Try.prog 14 #[.int .i64 (n : Int), .int .i64 t] w' fun e w'' => e = .returned (.bool (keptF (n : Int) t)) ∧ w'.grownBy w'' none) := fun w' t h1 h2 => HK.out w' (n : Int) t (by omega) (by omega) (by omega) (by omega)
  go_wp2_with fail
  go_loopw [4, 5] (fun mv tv wr => ∃ t : Int, -2 ≤ t ∧ t ≤ (n : Int) + 3 ∧ tv = .int .i64 t ∧ mv = .int .i64 (cntK (n : Int) t) ∧ w1.grownBy wr none) (fun _ t _ => ((n : Int) + 3 - intOf t).toNat)
  case atStart => exact ⟨-2, by omega, by omega, rfl, by rw [cnt_start _ (by omega)], grown_refl _ _⟩
  case round =>
    obtain ⟨t, ht0, ht1, rfl, rfl, hg⟩ := hrel
    by_cases hlt : t ≤ (n : Int) + 2
    · have K1 : Hid (Calls Try.prog 14 #[.int .i64 (n : Int), .int .i64 t] wr fun e w'' => e = .returned (.bool (keptF (n : Int) t)) ∧ wr.grownBy w'' none) := KE.out wr t (by omega) (by omega)
      have hcs := cnt_small (n : Int) t (by omega) (by omega)
      cases hk : keptF (n : Int) t with
      | true =>
        have HC : Hid (cntK (n : Int) (t + 1) = cntK (n : Int) t + 1) := cnt_yes hk
        obtain ⟨k1, k2, _⟩ := (kept_iff _ _).1 hk
        rw [hk] at K1
        have i1 : ¬ t < 0 := by omega
        have i2 : ¬ t > (n : Int) := by omega
        generalize cntK (n : Int) t = C at *
        clear hk
        go_wp2_with fail
        refine K1.out.mono ?_
        rintro e w2 ⟨rfl, hg2⟩
        go_wp2_with fail
        go_roundw
        case rel => exact ⟨t + 1, by omega, by omega, rfl, by rw [HC.out], grown_trans hg hg2⟩
        case measure => simp [intOf]; omega
      | false =>
        have HC : Hid (cntK (n : Int) (t + 1) = cntK (n : Int) t) := cnt_no hk
        rw [hk] at K1
        generalize cntK (n : Int) t = C at *
        clear hk
        go_wp2_with fail
        refine K1.out.mono ?_
        rintro e w2 ⟨rfl, hg2⟩
        go_wp2_with fail
        go_roundw
        case rel => exact ⟨t + 1, by omega, by omega, rfl, by rw [HC.out], grown_trans hg hg2⟩
        case measure => simp [intOf]; omega
    · obtain rfl : t = (n : Int) + 3 := by omega
      have K2 : Hid (Calls Try.prog 14 #[.int .i64 (n : Int), .int .i64 (n : Int)] wr fun e w'' => e = .returned (.bool true) ∧ wr.grownBy w'' none) := by
        have := KE.out wr (n : Int) (by omega) (by omega)
        rw [kept_self _ (by omega)] at this
        exact this
      have hce := cnt_end (n : Int) (by omega)
      by_cases h6 : (6 : Int) < (n : Int) + 1
      · have he : cntK (n : Int) ((n : Int) + 3) = 6 := by omega
        rw [he]
        clear hce he
        go_wp2_with fail
        refine K2.out.mono ?_
        rintro e w2 ⟨rfl, hg2⟩
        go_wp2
        go_ret
        exact ⟨rfl, grown_trans hg hg2⟩
      · have he : cntK (n : Int) ((n : Int) + 3) = (n : Int) + 1 := by omega
        have HIF : (if (6 : Int) < (n : Int) + 1 then (6 : Int) else (n : Int) + 1) = (n : Int) + 1 := if_neg h6
        have hee : (((n : Int) + 1) == ((n : Int) + 1)) = true := by simp
        rw [he]
        clear hce he
        go_wp2_with fail
        refine K2.out.mono ?_
        rintro e w2 ⟨rfl, hg2⟩
        go_wp2
        go_ret
        exact ⟨rfl, grown_trans hg hg2⟩
end Go.Proofs.Ytljdconhplgipab
