/-
  The walks of the document's answer to P3.6: noneDigest, leafDigest, forkDigest, rootOf, RootOf.
-/
import Derived.Test.YtkkcjnhfbblgiabDoorPart2
import Derived.Test.YtkkcjnhfbblgiabDoorRSides
import Derived.Test.YtkkcjnhfbblgiabDoorPart12
namespace Go.Proofs.YtkkcjnhfbblgiabDoor
open Go.RowKit
theorem noneDigest_own (w : World) :
    Calls Tryd.prog 39 #[] w fun e w' => ∃ x, e = .returned x ∧ OwnE w' x (sumF [0]) ∧ w.grownBy w' none := by
  go_enter Tryd.func39, Tryd.ntmps39
  go_wp2_with fail
  refine (digested_own _ _ [0] (one_slice w 0 _) (by simp)).mono ?_
  rintro e w1 ⟨v1, rfl, h1, hg1⟩
  go_wp2
  go_ret
  exact ⟨v1, rfl, h1, grown_trans (World.grownBy_alloc _ _ _) hg1⟩
theorem listIs_two (w : World) (t : TypeId) (v1 v2 : Value) (x y : List UInt8) (h1 : SliceIs w v1 x) (h2 : SliceIs w v2 y) (nb : Nat) (hnb : nb = w.heap.size) :
    ListIs (w.alloc (.cells #[v1, v2] t)) (.slice (some ⟨nb, 0, none⟩) 2 2) [x, y] := by
  subst hnb
  refine ⟨_, 2, rfl, by simp, .inr ⟨w.heap.size, 0, rfl, fun i hi => ?_⟩⟩
  match i, hi with
  | 0, _ => exact ⟨v1, by simp, h1.alloc _⟩
  | 1, _ => exact ⟨v2, by simp, h2.alloc _⟩
theorem listIs_three (w : World) (t : TypeId) (v1 v2 v3 : Value) (x y z : List UInt8) (h1 : SliceIs w v1 x) (h2 : SliceIs w v2 y) (h3 : SliceIs w v3 z) (nb : Nat) (hnb : nb = w.heap.size) :
    ListIs (w.alloc (.cells #[v1, v2, v3] t)) (.slice (some ⟨nb, 0, none⟩) 3 3) [x, y, z] := by
  subst hnb
  refine ⟨_, 3, rfl, by simp, .inr ⟨w.heap.size, 0, rfl, fun i hi => ?_⟩⟩
  match i, hi with
  | 0, _ => exact ⟨v1, by simp, h1.alloc _⟩
  | 1, _ => exact ⟨v2, by simp, h2.alloc _⟩
  | 2, _ => exact ⟨v3, by simp, h3.alloc _⟩
set_option maxRecDepth 100000 in
set_option maxHeartbeats 1000000 in
theorem leafDigest_own (w : World) (v : Value) (p : Pr) (hv : PairIs w v p) (hp : (1 ≤ p.1.length ∧ p.1.length ≤ 16) ∧ p.2.length ≤ 32) :
    Calls Tryd.prog 84 #[v] w fun e w' => ∃ x, e = .returned x ∧ OwnE w' x (sumF (joinF 1 [p.1, p.2])) ∧ w.grownBy w' none := by
  obtain ⟨vk, vv, rfl, s1, s2⟩ := hv
  obtain ⟨ak, ck, rfl⟩ := s1.shape
  obtain ⟨av, cv, rfl⟩ := s2.shape
  have S1 : Hid (SliceIs w (.slice ak p.1.length ck) p.1) := s1
  have S2 : Hid (SliceIs w (.slice av p.2.length cv) p.2) := s2
  clear s1 s2
  go_enter Tryd.func84, Tryd.ntmps84
  go_wp2_with fail
  refine (partsOf_own _ 1 _ [p.1, p.2] (listIs_two _ _ _ _ p.1 p.2 (S1.out.alloc _) (S2.out.alloc _) _ (by simp)) (by unfold maxLen; simp) ?_).mono ?_
  · intro i hi
    match i, hi with
    | 0, _ => simp; omega
    | 1, _ => simp; omega
  rintro e w1 ⟨hg1, ⟨_, x, rfl, hx⟩ | ⟨hbad, _⟩⟩
  · go_wp2
    go_ret
    exact ⟨x, rfl, hx, grown_trans (grown_alloc (grown_alloc (grown_refl _ _) _) _) hg1⟩
  · rw [joinF_two] at hbad; omega
set_option maxRecDepth 100000 in
set_option maxHeartbeats 1000000 in
theorem forkDigest_own (w : World) (b : Nat) (hb : b < 145) (v u : Value) (x y : List UInt8) (hv : SliceIs w v x) (hu : SliceIs w u y) (hx : x.length = 32) (hy : y.length = 32) :
    Calls Tryd.prog 85 #[.int .i64 (b : Int), v, u] w fun e w' => ∃ z, e = .returned z ∧ OwnE w' z (sumF (joinF 2 [[UInt8.ofNat b], x, y])) ∧ w.grownBy w' none := by
  obtain ⟨a1, c1, rfl⟩ := hv.shape
  obtain ⟨a2, c2, rfl⟩ := hu.shape
  have S1 : Hid (SliceIs w (.slice a1 x.length c1) x) := hv
  have S2 : Hid (SliceIs w (.slice a2 y.length c2) y) := hu
  have HX : Hid (x.length = 32) := hx
  have HY : Hid (y.length = 32) := hy
  clear hv hu hx hy
  go_enter Tryd.func85, Tryd.ntmps85
  go_wp2_with fail
  have hone : SliceIs (w.alloc (.cells #[.int .u8 (b : Int)] 5)) (.slice (some ⟨w.heap.size, 0, none⟩) 1 1) [UInt8.ofNat b] := by
    have := one_slice w (UInt8.ofNat b) 5
    rw [show (((UInt8.ofNat b).toNat : Nat) : Int) = (b : Int) by simp; omega] at this
    exact this
  refine (partsOf_own _ 2 _ [[UInt8.ofNat b], x, y] (listIs_three _ _ _ _ _ [UInt8.ofNat b] x y hone (S1.out.alloc _) (S2.out.alloc _) _ (by simp)) (by unfold maxLen; simp) ?_).mono ?_
  · intro i hi
    have h1 := HX.out
    have h2 := HY.out
    match i, hi with
    | 0, _ => simp
    | 1, _ => simp [h1]
    | 2, _ => simp [h2]
  rintro e w1 ⟨hg1, ⟨_, z, rfl, hz⟩ | ⟨hbad, _⟩⟩
  · go_wp2
    go_ret
    exact ⟨z, rfl, hz, grown_trans (grown_alloc (grown_alloc (grown_refl _ _) _) _) hg1⟩
  · rw [joinF_three, HX.out, HY.out] at hbad; simp at hbad
set_option maxRecDepth 100000 in
set_option maxHeartbeats 1000000 in
theorem rootOf_own : ∀ (n : Nat) (w : World) (v : Value) (l : PL), l.length ≤ n → PairsIs w v l → Tree l →
    Calls Tryd.prog 56 #[v] w fun e w' => ∃ x, e = .returned x ∧ OwnE w' x (rootL l) ∧ w.grownBy w' none := by
  intro n
  induction n with
  | zero =>
    intro w v l hn hv hT
    obtain ⟨a, cap, rfl⟩ := hv.shape
    have h0 : l.length = 0 := by omega
    rw [rootL_none l h0]
    have t1 : (l.length : Int) = 0 := by omega
    go_enter Tryd.func56, Tryd.ntmps56
    go_wp2_with fail
    refine (noneDigest_own _).mono ?_
    rintro e w1 ⟨x, rfl, hx, hg1⟩
    go_wp2
    go_ret
    exact ⟨x, rfl, hx, hg1⟩
  | succ n ih =>
    intro w v l hn hv hT
    have IH : Hid (∀ (w : World) (v : Value) (l : PL), l.length ≤ n → PairsIs w v l → Tree l → Calls Tryd.prog 56 #[v] w fun e w' => ∃ x, e = .returned x ∧ OwnE w' x (rootL l) ∧ w.grownBy w' none) := ih
    clear ih
    obtain ⟨a, cap, rfl⟩ := hv.shape
    by_cases h0 : l.length = 0
    · rw [rootL_none l h0]
      have t1 : (l.length : Int) = 0 := by omega
      go_enter Tryd.func56, Tryd.ntmps56
      go_wp2_with fail
      refine (noneDigest_own _).mono ?_
      rintro e w1 ⟨x, rfl, hx, hg1⟩
      go_wp2
      go_ret
      exact ⟨x, rfl, hx, hg1⟩
    · have t1 : ¬ (l.length : Int) = 0 := by omega
      by_cases h1 : l.length = 1
      · rw [rootL_one l h1]
        have t2 : (l.length : Int) = 1 := by omega
        obtain ⟨b, o, rfl, hat⟩ := hv.at 0 (by omega)
        obtain ⟨vk, vv, c1, c2, s1, s2⟩ := hat
        rw [Nat.zero_mul, Nat.add_zero] at c1 c2
        have hp := hT.pairs l[0] (List.getElem_mem (by omega))
        rw [show l[0] = l.getD 0 ([], []) by simp [show 0 < l.length by omega]] at hp
        generalize l.getD 0 ([], []) = P at *
        have LD : Hid (Calls Tryd.prog 84 #[.agg #[vk, vv]] w fun e w' => ∃ x, e = .returned x ∧ OwnE w' x (sumF (joinF 1 [P.1, P.2])) ∧ w.grownBy w' none) := leafDigest_own w _ P ⟨vk, vv, rfl, s1, s2⟩ hp
        obtain ⟨ak, ck, rfl⟩ := s1.shape
        obtain ⟨av, cv, rfl⟩ := s2.shape
        clear s1 s2 hT hv
        go_enter Tryd.func56, Tryd.ntmps56
        go_wp2_with fail
        refine LD.out.mono ?_
        rintro e w1 ⟨x, rfl, hx, hg1⟩
        go_wp2
        go_ret
        exact ⟨x, rfl, hx, hg1⟩
      · have t2 : ¬ (l.length : Int) = 1 := by omega
        have h2 : 2 ≤ l.length := by omega
        rw [rootL_fork l hT h2]
        have SD : Hid (Calls Tryd.prog 59 #[.slice a l.length cap] w fun e w' => ∃ x y, e = .returned (.tuple #[.int .i64 (forkBit l), x, y]) ∧ PairsIs w' x (sideL l (forkBit l).toNat false) ∧ PairsIs w' y (sideL l (forkBit l).toNat true) ∧ w.grownBy w' none) := sides_any w _ l hv hT h2
        have hrange := forkBit_range hT h2
        have hsl := sides_less hT h2
        have tF := side_tree hT (forkBit l).toNat false
        have tT := side_tree hT (forkBit l).toNat true
        have hF := hsl false
        have hTr := hsl true
        obtain ⟨B, hB⟩ : ∃ B : Nat, forkBit l = (B : Int) := ⟨(forkBit l).toNat, by omega⟩
        have eB : (forkBit l).toNat = B := by omega
        have hB2 : B < 145 := by omega
        rw [eB] at tF tT hF hTr SD ⊢
        rw [hB] at SD
        generalize sideL l B false = L at *
        generalize sideL l B true = R at *
        have rL := rootL_len L
        have rR := rootL_len R
        have HRL : Hid ((rootL L).length = 32) := rL
        have HRR : Hid ((rootL R).length = 32) := rR
        generalize hXL : rootL L = XL at *
        generalize hXR : rootL R = XR at *
        have HXL : Hid (rootL L = XL) := hXL
        have HXR : Hid (rootL R = XR) := hXR
        clear rL rR hXL hXR hsl hB hv hrange eB
        go_enter Tryd.func56, Tryd.ntmps56
        go_wp2_with fail
        refine SD.out.mono ?_
        rintro e w1 ⟨x, y, rfl, hx, hy, hg1⟩
        go_wp2_with fail
        refine (IH.out w1 x L (by omega) hx tF).mono ?_
        rintro e w2 ⟨u, rfl, hu, hg2⟩
        go_wp2_with fail
        refine (IH.out w2 y R (by omega) (hy.grown hg2) tT).mono ?_
        rintro e w3 ⟨z, rfl, hz, hg3⟩
        rw [HXL.out] at hu
        rw [HXR.out] at hz
        go_wp2_with fail
        refine (forkDigest_own w3 B hB2 u z XL XR (hu.slice.grown hg3) hz.slice HRL.out HRR.out).mono ?_
        rintro e w4 ⟨d, rfl, hd, hg4⟩
        go_wp2
        go_ret
        exact ⟨d, rfl, hd, grown_trans hg1 (grown_trans hg2 (grown_trans hg3 hg4))⟩
theorem noneDigest_any (w : World) :
    Calls Tryd.prog 39 #[] w fun e w' => ∃ x, e = .returned x ∧ SliceIs w' x (sumF [0]) ∧ w.grownBy w' none :=
  (noneDigest_own w).mono fun _ _ ⟨x, h1, h2, h3⟩ => ⟨x, h1, h2.slice, h3⟩
theorem leafDigest_any (w : World) (v : Value) (p : Pr) (hv : PairIs w v p) (hp : (1 ≤ p.1.length ∧ p.1.length ≤ 16) ∧ p.2.length ≤ 32) :
    Calls Tryd.prog 84 #[v] w fun e w' => ∃ x, e = .returned x ∧ SliceIs w' x (sumF (joinF 1 [p.1, p.2])) ∧ w.grownBy w' none :=
  (leafDigest_own w v p hv hp).mono fun _ _ ⟨x, h1, h2, h3⟩ => ⟨x, h1, h2.slice, h3⟩
theorem forkDigest_any (w : World) (b : Nat) (hb : b < 145) (v u : Value) (x y : List UInt8) (hv : SliceIs w v x) (hu : SliceIs w u y) (hx : x.length = 32) (hy : y.length = 32) :
    Calls Tryd.prog 85 #[.int .i64 (b : Int), v, u] w fun e w' => ∃ z, e = .returned z ∧ SliceIs w' z (sumF (joinF 2 [[UInt8.ofNat b], x, y])) ∧ w.grownBy w' none :=
  (forkDigest_own w b hb v u x y hv hu hx hy).mono fun _ _ ⟨x, h1, h2, h3⟩ => ⟨x, h1, h2.slice, h3⟩
theorem rootOf_any (n : Nat) (w : World) (v : Value) (l : PL) (hn : l.length ≤ n) (hv : PairsIs w v l) (hT : Tree l) :
    Calls Tryd.prog 56 #[v] w fun e w' => ∃ x, e = .returned x ∧ SliceIs w' x (rootL l) ∧ w.grownBy w' none :=
  (rootOf_own n w v l hn hv hT).mono fun _ _ ⟨x, h1, h2, h3⟩ => ⟨x, h1, h2.slice, h3⟩
end Go.Proofs.YtkkcjnhfbblgiabDoor
