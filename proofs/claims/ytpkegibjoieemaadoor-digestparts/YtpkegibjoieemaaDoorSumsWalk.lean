/-
  The walk of canopylaw.DigestSums.
-/
import Derived.Test.YtpkegibjoieemaaDoorRDig
import Derived.Test.YtpkegibjoieemaaDoorSame
namespace Go.Proofs.YtpkegibjoieemaaDoor
open Go.RowKit
theorem sameBytes_any (w : World) (v1 v2 : Value) (b1 b2 : List UInt8) (h1 : SliceIs w v1 b1) (h2 : SliceIs w v2 b2) :
    Calls Tryd.prog 12 #[v1, v2] w fun e w' => e = .returned (.bool (decide (b1 = b2))) ∧ w' = w := by
  have c1 := conv_bytes w v1 b1 h1
  have c2 := conv_bytes w v2 b2 h2
  go_enter Tryd.func12, Tryd.ntmps12
  go_wp2
  go_ret
  refine ⟨?_, rfl⟩
  have e : ((textOf b1).toList == (textOf b2).toList) = decide (b1 = b2) := by rw [textOf_list, textOf_list]; by_cases h : b1 = b2 <;> simp [h]
  rw [← e]
  rfl
theorem octets_any (w : World) (v : Value) (bs : List UInt8) (hv : SliceIs w v bs) (hl : bs.length ≤ 140737488355328) :
    Calls Tryd.prog 9 #[v] w fun e w' => ∃ v', e = .returned v' ∧ Own w.heap.size w' v' bs ∧ w.grownBy w' none := by
  obtain ⟨a, cap, rfl, hc, hrest⟩ := hv
  have hs : SliceIs w (.slice a bs.length cap) bs := ⟨a, cap, rfl, hc, hrest⟩
  clear hrest
  go_enter Tryd.func9, Tryd.ntmps9
  go_wp2_with (at_builtin; refine wpList_append_bytes rfl _ _ rfl w.heap.size (.slice none 0 0) [] rfl (own_nil _ _) a bs.length cap bs rfl (by exact hs) (by simp; omega) (Nat.le_refl _) ?_; intro v' w' ho hg)
  go_ret
  exact ⟨v', rfl, ho, hg⟩
theorem digestOf_long (w : World) (a : Option Addr) (n cap : Nat) (hn : 4000 < n) :
    Calls Tryd.prog 11 #[.slice a n cap] w fun e w' => e = .returned (.tuple #[.slice none 0 0, .int .i64 1]) ∧ w' = w := by
  have h1 : (4000 : Int) < (n : Int) := by omega
  go_enter Tryd.func11, Tryd.ntmps11
  go_wp2
  go_ret2
  exact ⟨rfl, rfl⟩
theorem digestOf_any (w : World) (v : Value) (bs : List UInt8) (hv : SliceIs w v bs) (hl : bs.length ≤ 4000) :
    Calls Tryd.prog 11 #[v] w fun e w' => ∃ v', e = .returned (.tuple #[v', .int .i64 0]) ∧ SliceIs w' v' (sumF bs) ∧ w.grownBy w' none := by
  have hD := digested_any w v bs hv hl
  obtain ⟨a, cap, rfl, hc, hrest⟩ := hv
  clear hrest
  have h1 : ¬ (4000 : Int) < (bs.length : Int) := by omega
  go_enter Tryd.func11, Tryd.ntmps11
  go_wp2_with fail
  refine hD.mono ?_
  rintro e w1 ⟨v', rfl, hs, hg⟩
  clear hD
  go_wp2
  go_ret2
  exact ⟨v', rfl, hs, hg⟩
set_option maxRecDepth 100000 in
set_option maxHeartbeats 1000000 in
theorem digestSums_walk (w : World) (v : Value) (bs : List UInt8) (hv : SliceIs w v bs) (hl : bs.length ≤ 140737488351232) (ht : Tabs w) :
    Calls Tryd.prog 3 #[v] w fun e w' => e = .returned (.bool true) ∧ w.grownBy w' none := by
  have ho := octets_any w v bs hv (by omega)
  go_enter Tryd.func3, Tryd.ntmps3
  go_wp2_with fail
  refine ho.mono ?_
  rintro e w1 ⟨vc, rfl, ho1, hg1⟩
  clear ho
  by_cases hlong : bs.length ≤ 4000
  · go_wp2_with fail
    refine (sum_any w1 vc bs ho1.slice hlong (ht.grownNone hg1)).mono ?_
    rintro e w2 ⟨na, _, rfl, hb2, hg2⟩
    have g2 := grown_trans hg1 hg2
    go_wp2_with fail
    refine (digestOf_any w2 v bs (hv.grown g2) hlong).mono ?_
    rintro e w3 ⟨v3, rfl, hs3, hg3⟩
    have ha := (hb2.grown hg3 (by simp)).slice32 (sumF_len bs)
    have hcs := (ho1.slice.grown hg2).grown hg3
    have hvs := (hv.grown g2).grown hg3
    have g3 := grown_trans g2 hg3
    clear hb2 ho1 hg1 hg2 hg3 g2 hv ht
    generalize sumF bs = D at *
    go_wp2_with fail
    refine (sameBytes_any _ _ _ D D ha hs3).mono ?_
    rintro e w4 ⟨rfl, rfl⟩
    rw [decide_eq_true (rfl : D = D)]
    go_wp2_with fail
    refine (sameBytes_any _ _ _ bs bs hcs hvs).mono ?_
    rintro e w5 ⟨rfl, rfl⟩
    rw [decide_eq_true (rfl : bs = bs)]
    go_wp2
    go_ret
    exact ⟨rfl, g3⟩
  · obtain ⟨ca, ccap, rfl⟩ := ho1.shape
    obtain ⟨va, vcap, rfl, hvc, hvr⟩ := hv
    have hv : SliceIs w (.slice va bs.length vcap) bs := ⟨va, vcap, rfl, hvc, hvr⟩
    clear hvr
    go_wp2_with fail
    refine (sum_long _ _ _ _ (by omega)).mono ?_
    rintro e w2 ⟨rfl, rfl⟩
    go_wp2_with fail
    refine (digestOf_long _ _ _ _ (by omega)).mono ?_
    rintro e w3 ⟨rfl, rfl⟩
    go_wp2_with fail
    refine (sameBytes_any _ _ _ [] [] (sliceIs_nil _) (sliceIs_nil _)).mono ?_
    rintro e w4 ⟨rfl, rfl⟩
    rw [decide_eq_true (rfl : ([] : List UInt8) = [])]
    go_wp2_with fail
    refine (sameBytes_any _ _ _ bs bs ho1.slice (hv.grown hg1)).mono ?_
    rintro e w5 ⟨rfl, rfl⟩
    rw [decide_eq_true (rfl : bs = bs)]
    go_wp2
    go_ret
    exact ⟨rfl, hg1⟩
end Go.Proofs.YtpkegibjoieemaaDoor
