/-
  The walk of canopykeep.PartThree.
-/
import Derived.Test.YtdpmfekkieblmabPartC
import Derived.Test.YtdpmfekkieblmabKey
import Derived.Test.YtdpmfekkieblmabKSame
namespace Go.Proofs.Ytdpmfekkieblmab
open Go.RowKit

set_option maxRecDepth 100000 in
set_option maxHeartbeats 1000000 in
theorem partThree_walk (hP : PartOK) (w : World) (v u x : Value) (k l m : List UInt8) (hv : SliceIs w v k) (hu : SliceIs w u l) (hx : SliceIs w x m) (hl : k.length ≤ maxLen) (hl2 : l.length ≤ maxLen) (hl3 : m.length ≤ maxLen) :
    Calls Try.prog 3 #[v, u, x] w fun e w' => e = .returned (.bool true) ∧ w.grownBy w' none := by
  have hk := key_any w v k hv hl
  go_enter Try.func3, Try.ntmps3
  go_wp2_with fail
  refine hk.mono ?_
  rintro e w1 ⟨v1, rfl, ho1, hg1⟩
  clear hk
  go_wp2_with fail
  refine (key_any w1 u l (hu.grown hg1) hl2).mono ?_
  rintro e w2 ⟨v2, rfl, ho2, hg2⟩
  have g2 := grown_trans hg1 hg2
  replace ho1 := ho1.grown hg2
  clear hg1 hg2
  go_wp2_with fail
  refine (key_any w2 x m (hx.grown g2) hl3).mono ?_
  rintro e w3 ⟨v3, rfl, ho3, hg3⟩
  have g3 := grown_trans g2 hg3
  replace ho1 := ho1.grown hg3
  replace ho2 := ho2.grown hg3
  clear hg3 g2 hv hu hx
  have ha := keyF_len k
  have hb := keyF_len l
  have hc := keyF_len m
  generalize keyF k = a at *
  generalize keyF l = b at *
  generalize keyF m = c at *
  go_wp2_with fail
  refine (hP.of w3 v1 v2 a b ho1 ho2 ha hb).mono ?_
  rintro e w4 ⟨rfl, hg4⟩
  have g4 := grown_trans g3 hg4
  replace ho1 := ho1.grown hg4
  replace ho2 := ho2.grown hg4
  replace ho3 := ho3.grown hg4
  clear hg4 g3
  go_wp2_with fail
  refine (hP.of w4 v2 v3 b c ho2 ho3 hb hc).mono ?_
  rintro e w5 ⟨rfl, hg5⟩
  have g5 := grown_trans g4 hg5
  replace ho1 := ho1.grown hg5
  replace ho2 := ho2.grown hg5
  replace ho3 := ho3.grown hg5
  clear hg5 g4
  go_wp2_with fail
  refine (hP.of w5 v1 v3 a c ho1 ho3 ha hc).mono ?_
  rintro e w6 ⟨rfl, hg6⟩
  have g6 := grown_trans g5 hg6
  replace ho1 := ho1.grown hg6
  replace ho2 := ho2.grown hg6
  replace ho3 := ho3.grown hg6
  clear hg6 g5
  go_wp2_with fail
  have hq1 : SliceIs ((w6.alloc (.cells #[.int .u8 0] 5)).alloc (.cells #[.int .u8 1] 5)) (.slice (some ⟨w6.heap.size, 0, none⟩) 1 1) [0] := (one_slice w6 0 5).alloc _
  have hq2 : SliceIs ((w6.alloc (.cells #[.int .u8 0] 5)).alloc (.cells #[.int .u8 1] 5)) (.slice (some ⟨w6.heap.size + 1, 0, none⟩) 1 1) [1] := by
    have := one_slice (w6.alloc (.cells #[.int .u8 0] 5)) 1 5
    simpa using this
  refine (hP.of _ _ _ [0] [1] hq1 hq2 (by simp) (by simp)).mono ?_
  rintro e w7 ⟨rfl, hg7⟩
  have hga : w6.grownBy w7 none := grown_trans (grown_alloc (grown_alloc (grown_refl w6 none) _) _) hg7
  have g7 := grown_trans g6 hga
  replace ho1 := ho1.grown hga
  replace ho2 := ho2.grown hga
  replace ho3 := ho3.grown hga
  clear hg7 g6 hga hq1 hq2
  rw [show partK [0] [1] = 8 from partK_of [0] [1] 8 (by omega) (by decide) (by decide)]
  have hab := partK_same a b ha.2 hb.2
  have hbc := partK_same b c hb.2 hc.2
  have hac := partK_same a c ha.2 hc.2
  have hthree := part_three a b c
  have b1 := partK_range a b
  have b2 := partK_range b c
  have b3 := partK_range a c
  have hs1 := same_any w7 v1 v2 a b ho1 ho2
  have hs2 := same_any w7 v2 v3 b c ho2 ho3
  have HX : Hid (partK a b < 0 ∨ partK b c < 0 ∨ partK a c < 0 → 0 ≤ partK a b ∨ partK b c = partK a c) := by
    intro _
    by_cases h : partK a b < 0
    · rw [hab.1 h]; exact .inr rfl
    · exact .inl (by omega)
  generalize partK a b = X at *
  generalize partK b c = Y at *
  generalize partK a c = Z at *
  have e1 : decide (a = b) = decide (X < 0) := decide_eq_decide.2 hab.symm
  have e2 : decide (b = c) = decide (Y < 0) := decide_eq_decide.2 hbc.symm
  rw [e1] at hs1
  rw [e2] at hs2
  have HX4 : Hid (∀ x y z : Nat, X = (x : Int) → Y = (y : Int) → Z = (z : Int) → min x y ≤ z ∧ (x = y ∨ z = min x y)) := hthree
  clear e1 e2 hab hbc hac ho1 ho2 ho3 hthree
  obtain ⟨b11, b12⟩ := b1
  obtain ⟨b21, b22⟩ := b2
  obtain ⟨b31, b32⟩ := b3
  by_cases hX : X < 0
  · obtain rfl : X = -1 := by omega
    rw [decide_eq_true hX] at hs1
    obtain rfl : Y = Z := (HX.out (.inl hX)).resolve_left (by omega)
    clear HX HX4 hX b11 b12 b31 b32
    by_cases hY : Y < 0
    · obtain rfl : Y = -1 := by omega
      rw [decide_eq_true hY] at hs2
      clear hY b21 b22
      go_wp2_with fail
      refine hs1.mono ?_
      rintro e w8 ⟨rfl, rfl⟩
      go_wp2_with fail
      refine hs2.mono ?_
      rintro e w9 ⟨rfl, rfl⟩
      go_wp2
      go_ret
      exact ⟨rfl, g7⟩
    · rw [decide_eq_false hY] at hs2
      obtain ⟨y, rfl⟩ : ∃ y : Nat, Y = (y : Int) := ⟨Y.toNat, by omega⟩
      clear hY b21 b22
      go_wp2_with fail
      refine hs1.mono ?_
      rintro e w8 ⟨rfl, rfl⟩
      go_wp2_with fail
      refine hs2.mono ?_
      rintro e w9 ⟨rfl, rfl⟩
      go_wp2
      go_ret
      exact ⟨rfl, g7⟩
  · obtain ⟨x', rfl⟩ : ∃ y : Nat, X = (y : Int) := ⟨X.toNat, by omega⟩
    rw [decide_eq_false hX] at hs1
    clear HX hX b11
    by_cases hY : Y < 0
    · obtain rfl : Y = -1 := by omega
      rw [decide_eq_true hY] at hs2
      clear hY b21 b22 HX4
      go_wp2_with fail
      refine hs1.mono ?_
      rintro e w8 ⟨rfl, rfl⟩
      go_wp2_with fail
      refine hs2.mono ?_
      rintro e w9 ⟨rfl, rfl⟩
      go_wp2
      go_ret
      exact ⟨rfl, g7⟩
    · rw [decide_eq_false hY] at hs2
      obtain ⟨y, rfl⟩ : ∃ y : Nat, Y = (y : Int) := ⟨Y.toNat, by omega⟩
      clear hY b21
      by_cases hZ : Z < 0
      · obtain rfl : Z = -1 := by omega
        clear hZ b31 b32 HX4
        go_wp2_with fail
        refine hs1.mono ?_
        rintro e w8 ⟨rfl, rfl⟩
        go_wp2_with fail
        refine hs2.mono ?_
        rintro e w9 ⟨rfl, rfl⟩
        go_wp2
        go_ret
        exact ⟨rfl, g7⟩
      · obtain ⟨z, rfl⟩ : ∃ y : Nat, Z = (y : Int) := ⟨Z.toNat, by omega⟩
        have hh := HX4.out x' y z rfl rfl rfl
        clear HX4 hZ b31
        by_cases hxy : x' < y
        · obtain rfl : z = x' := by omega
          have t1 : (z : Int) < (y : Int) := by omega
          clear hh
          go_wp2_with fail
          refine hs1.mono ?_
          rintro e w8 ⟨rfl, rfl⟩
          go_wp2_with fail
          refine hs2.mono ?_
          rintro e w9 ⟨rfl, rfl⟩
          go_wp2
          go_ret
          exact ⟨rfl, g7⟩
        · by_cases hyx : y < x'
          · obtain rfl : z = y := by omega
            have t1 : (z : Int) < (x' : Int) := by omega
            clear hh
            go_wp2_with fail
            refine hs1.mono ?_
            rintro e w8 ⟨rfl, rfl⟩
            go_wp2_with fail
            refine hs2.mono ?_
            rintro e w9 ⟨rfl, rfl⟩
            go_wp2
            go_ret
            exact ⟨rfl, g7⟩
          · obtain rfl : x' = y := by omega
            have t1 : (x' : Int) ≤ (z : Int) := by omega
            clear hh
            go_wp2_with fail
            refine hs1.mono ?_
            rintro e w8 ⟨rfl, rfl⟩
            go_wp2_with fail
            refine hs2.mono ?_
            rintro e w9 ⟨rfl, rfl⟩
            go_wp2
            go_ret
            exact ⟨rfl, g7⟩
end Go.Proofs.Ytdpmfekkieblmab
