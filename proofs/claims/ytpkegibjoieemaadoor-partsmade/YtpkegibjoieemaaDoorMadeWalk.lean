/-
  The walk of canopykeep.PartsMade.
-/
import Derived.Test.YtpkegibjoieemaaDoorLongWalk
import Derived.Test.YtpkegibjoieemaaDoorSame
namespace Go.Proofs.YtpkegibjoieemaaDoor
open Go.RowKit
theorem hi_byte (n : Nat) (h : n ≤ 4000) : ((n : Int) / 256) = ((UInt8.ofNat (n / 256)).toNat : Int) := by simp; omega
theorem lo_byte (n : Nat) : ((n : Int) % 256) = ((UInt8.ofNat n).toNat : Int) := by simp
theorem list0 (w : World) : ListIs w (.slice none 0 0) [] := ⟨none, 0, rfl, Nat.le_refl _, .inl rfl⟩
/-- Parts, where they fit. -/
theorem parts_fit (W : World) (kd : UInt8) (v : Value) (ps : List (List UInt8)) (hv : ListIs W v ps) (hm : ps.length ≤ maxLen) (hms : ∀ i, i < ps.length → (ps.getD i []).length ≤ maxLen) (ht : Tabs W) (hl : (joinF kd ps).length ≤ 4000) :
    Calls Tryd.prog 13 #[.int .u8 (kd.toNat : Int), v] W fun e w' => ∃ nb, W.heap.size ≤ nb ∧ e = .returned (.tuple #[.slice (some ⟨nb, 0, none⟩) 32 32, .int .i64 0]) ∧ Bytes w' nb (sumF (joinF kd ps)) ∧ W.grownBy w' none := by
  refine (parts_any W kd v _ hv hm hms ht).mono ?_
  rintro e w' ⟨hg, ⟨_, nb, h1, rfl, h2⟩ | ⟨h, _⟩⟩
  · exact ⟨nb, h1, rfl, h2, hg⟩
  · omega
theorem small2 (X Y : List UInt8) (hX : X.length ≤ 300) (hY : Y.length ≤ 300) : ∀ i, i < [X, Y].length → ([X, Y].getD i []).length ≤ maxLen := by
  intro i hi
  unfold maxLen
  match i, hi with
  | 0, _ => simp; omega
  | 1, _ => simp; omega
set_option maxRecDepth 100000 in
set_option maxHeartbeats 1000000 in
theorem partsMade_walk (w : World) (kd : UInt8) (va vb : Value) (A B : List UInt8) (ha : SliceIs w va A) (hA : A.length ≤ maxLen) (hb : SliceIs w vb B) (hB : B.length ≤ maxLen) (ht : Tabs w) :
    Calls Tryd.prog 7 #[.int .u8 (kd.toNat : Int), va, vb] w fun e w' => e = .returned (.bool true) ∧ w.grownBy w' none := by
  have hs1 := some_any w va A 300 (by omega) ha hA
  go_enter Tryd.func7, Tryd.ntmps7
  go_wp2_with fail
  refine hs1.mono ?_
  rintro e w1 ⟨vx, rfl, ho1, hg1⟩
  have hs2 := some_any w1 vb B 300 (by omega) (hb.grown hg1) hB
  clear hs1
  go_wp2_with fail
  refine hs2.mono ?_
  rintro e w2 ⟨vy, rfl, ho2, hg2⟩
  clear hs2 hb ha
  have g2 := grown_trans hg1 hg2
  have hT := ht.grownNone g2
  have hx := ho1.slice.grown hg2
  have hy := ho2.slice
  have hXl : (A.take 300).length ≤ 300 := by simp; omega
  have hYl : (B.take 300).length ≤ 300 := by simp; omega
  generalize A.take 300 = X at *
  generalize B.take 300 = Y at *
  clear ho1 ho2 hg1 hg2 ht
  obtain ⟨xa, xcap, rfl, hxc, hxr⟩ := hx
  have HX : Hid (SliceIs w2 (.slice xa X.length xcap) X) := ⟨xa, xcap, rfl, hxc, hxr⟩
  obtain ⟨ya, ycap, rfl, hyc, hyr⟩ := hy
  have HY : Hid (SliceIs w2 (.slice ya Y.length ycap) Y) := ⟨ya, ycap, rfl, hyc, hyr⟩
  clear hxr hyr
  have HO3 : Hid (Own w2.heap.size (w2.alloc (.cells #[.int .u8 (kd.toNat : Int), .int .u8 ((X.length : Int) / 256), .int .u8 ((X.length : Int) % 256)] 5)) (.slice (some ⟨w2.heap.size, 0, none⟩) 3 3) [kd, UInt8.ofNat (X.length / 256), UInt8.ofNat X.length]) := by
    show Own _ _ _ _
    rw [hi_byte _ (by omega), lo_byte]
    exact own_new w2.heap.size w2 [kd, UInt8.ofNat (X.length / 256), UInt8.ofNat X.length] (Nat.le_refl _) (by unfold maxLen; simp)
  have g3 : w2.grownBy (w2.alloc (.cells #[.int .u8 (kd.toNat : Int), .int .u8 ((X.length : Int) / 256), .int .u8 ((X.length : Int) % 256)] 5)) none := World.grownBy_alloc _ _ _
  go_upto_region 4 with fail
  generalize w2.alloc (.cells #[.int .u8 (kd.toNat : Int), .int .u8 ((X.length : Int) / 256), .int .u8 ((X.length : Int) % 256)] 5) = W3 at *
  have HX3 : Hid (SliceIs W3 (.slice xa X.length xcap) X) := HX.out.grown g3
  have hz3 := g3.size
  go_upto_region 5 with (at_builtin; refine wpList_append_bytes rfl (.tmp 31) (.tmp 32) rfl w2.heap.size _ _ rfl HO3.out xa X.length xcap X rfl HX3.out (by simp; omega) hz3 ?_; intro v4 W4 ho4 hg4)
  have g4 := grown_own g3 HO3.out hg4
  clear HO3 HX3 hz3 g3 hg4
  obtain ⟨a4, cap4, rfl⟩ := ho4.shape
  have hz4 := g4.size
  have HB4 : Hid (SliceIs (W4.alloc (.cells #[.int .u8 ((Y.length : Int) / 256), .int .u8 ((Y.length : Int) % 256)] 5)) (.slice (some ⟨W4.heap.size, 0, none⟩) 2 2) [UInt8.ofNat (Y.length / 256), UInt8.ofNat Y.length]) := by
    show SliceIs _ _ _
    rw [hi_byte _ (by omega), lo_byte]
    exact two_slice _ _ _ _
  go_upto_region 6 with (at_builtin; refine wpList_append_bytes rfl (.tmp 34) (.tmp 42) rfl w2.heap.size _ _ rfl (ho4.alloc _) (some ⟨W4.heap.size, 0, none⟩) 2 2 _ rfl HB4.out (by simp; omega) (by simp; omega) ?_; intro v5 W5 ho5 hg5)
  have g5 := grown_own (grown_alloc g4 _) (ho4.alloc _) hg5
  clear HB4 hz4 g4 hg5 ho4
  obtain ⟨a5, cap5, rfl⟩ := ho5.shape
  have hz5 := g5.size
  have HY5 : Hid (SliceIs W5 (.slice ya Y.length ycap) Y) := HY.out.grown g5
  go_upto_region 7 with (at_builtin; refine wpList_append_bytes rfl (.tmp 44) (.tmp 45) rfl w2.heap.size _ _ rfl ho5 ya Y.length ycap Y rfl HY5.out (by simp; omega) hz5 ?_; intro v6 W6 ho6 hg6)
  have g6 := grown_own g5 ho5 hg6
  clear HY5 hz5 g5 hg6 ho5
  have eJ : [kd, UInt8.ofNat (X.length / 256), UInt8.ofNat X.length] ++ X ++ [UInt8.ofNat (Y.length / 256), UInt8.ofNat Y.length] ++ Y = joinF kd [X, Y] := by simp [joinF, partF]
  rw [eJ] at ho6
  have hJl : (joinF kd [X, Y]).length ≤ 4000 := by rw [joinF2_len]; omega
  have hj0 : joinF kd [] = [kd] := rfl
  clear eJ
  have hl7 := list2 W6 22 _ _ _ _ (HX.out.grown g6) (HY.out.grown g6)
  have g7 := grown_alloc g6 (.cells #[.slice xa X.length xcap, .slice ya Y.length ycap] 22)
  go_wp2_with fail
  refine (parts_fit _ kd _ _ hl7 (by unfold maxLen; simp) (small2 X Y hXl hYl) (hT.grownNone g7) hJl).mono ?_
  rintro e W8 ⟨n8, _, rfl, hb8, hg8⟩
  have g8 := grown_trans g7 hg8
  have ho8 := (ho6.alloc _).grownNone hg8
  clear hl7 g7 hg8 ho6 g6
  go_wp2_with fail
  refine (sum_any _ _ _ ho8.slice hJl (hT.grownNone g8)).mono ?_
  rintro e W9 ⟨n9, _, rfl, hb9, hg9⟩
  have hb8' := hb8.grown hg9 (by simp)
  have g9 := grown_trans g8 hg9
  clear hb8 g8 hg9 ho8
  go_wp2_with fail
  refine (parts_fit _ kd _ [] (list0 _) (by unfold maxLen; simp) (by simp) (hT.grownNone g9) (by simp [joinF])).mono ?_
  rintro e W10 ⟨n10, _, rfl, hb10, hg10⟩
  have hb8'' := hb8'.grown hg10 (by simp)
  have hb9' := hb9.grown hg10 (by simp)
  have g10 := grown_trans g9 hg10
  clear hb8' hb9 g9 hg10
  have hs11 : SliceIs (W10.alloc (.cells #[.int .u8 (kd.toNat : Int)] 5)) (.slice (some ⟨W10.heap.size, 0, none⟩) 1 1) [kd] := (Bytes.new W10 5 [kd]).slice 1 (by simp)
  have g11 := grown_alloc g10 (.cells #[.int .u8 (kd.toNat : Int)] 5)
  go_wp2_with fail
  refine (sum_any _ _ _ hs11 (by simp) (hT.grownNone g11)).mono ?_
  rintro e W12 ⟨n12, _, rfl, hb12, hg12⟩
  have c8 := (hb8''.alloc _).grown hg12 (by simp)
  have c9 := (hb9'.alloc _).grown hg12 (by simp)
  have c10 := (hb10.alloc _).grown hg12 (by simp)
  have g12 := grown_trans g11 hg12
  rw [hj0] at c10
  clear hb8'' hb9' hb10 g10 g11 hg12 hs11 hj0 hT
  have q1 := sumF_len (joinF kd [X, Y])
  have q2 := sumF_len [kd]
  generalize sumF (joinF kd [X, Y]) = S1 at *
  generalize sumF [kd] = S2 at *
  go_wp2_with fail
  refine (same_any _ _ _ _ _ (c8.slice32 q1) (c9.slice32 q1)).mono ?_
  rintro e W13 ⟨rfl, rfl⟩
  rw [decide_eq_true (rfl : S1 = S1)]
  go_wp2_with fail
  refine (same_any _ _ _ _ _ (c10.slice32 q2) (hb12.slice32 q2)).mono ?_
  rintro e W14 ⟨rfl, rfl⟩
  rw [decide_eq_true (rfl : S2 = S2)]
  go_wp2
  go_ret
  exact ⟨rfl, grown_trans g2 g12⟩
end Go.Proofs.YtpkegibjoieemaaDoor
