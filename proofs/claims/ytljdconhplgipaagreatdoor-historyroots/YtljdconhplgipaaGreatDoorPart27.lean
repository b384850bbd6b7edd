/-
  Texts of this proof, joined: RRoot, RRoots, RHsRoot.
-/
import Derived.Test.YtljdconhplgipaaGreatDoorPart2
import Derived.Test.YtljdconhplgipaaGreatDoorRSides
import Derived.Test.YtljdconhplgipaaGreatDoorPart26
import Derived.Test.YtljdconhplgipaaGreatDoorRJoined
import Derived.Test.YtljdconhplgipaaGreatDoorPart11
import Derived.Test.YtljdconhplgipaaGreatDoorPart7
import Derived.Test.YtljdconhplgipaaGreatDoorPart25
import Derived.Test.YtljdconhplgipaaGreatDoorPart6
/-
  The walks of the document's answer to P3.6: noneDigest, leafDigest, forkDigest, rootOf, RootOf.
-/
namespace Go.Proofs.YtljdconhplgipaaGreatDoor
open Go.RowKit
theorem noneDigest_own (w : World) :
    Calls Tryz.prog 23 #[] w fun e w' => ∃ x, e = .returned x ∧ OwnE w' x (sumF [0]) ∧ w.grownBy w' none := by
  go_enter Tryz.func23, Tryz.ntmps23
  go_wp2_with fail
  refine (digested_own _ _ [0] (one_slice w 0 _) (by simp)).mono ?_
  rintro e w1 ⟨v1, rfl, h1, hg1⟩
  go_wp2
  go_ret
  exact ⟨v1, rfl, h1, grown_trans (World.grownBy_alloc _ _ _) hg1⟩
theorem listIs_two (w : World) (t : TypeId) (v1 v2 : Value) (x y : List UInt8) (h1 : SliceIs w v1 x) (h2 : SliceIs w v2 y) (nb : Nat) (hnb : nb = w.heap.size) :
    ListIs (w.alloc (.cells #[v1, v2] t)) (.slice (some ⟨nb, 0, none⟩) 2 2) [x, y] := by
  subst hnb
  refine ⟨_, 2, rfl, by simp, .inr ⟨w.heap.size, 0, rfl, fun i hi => ?_⟩⟩
  match i, hi with
  | 0, _ => exact ⟨v1, by simp, h1.alloc _⟩
  | 1, _ => exact ⟨v2, by simp, h2.alloc _⟩
theorem listIs_three (w : World) (t : TypeId) (v1 v2 v3 : Value) (x y z : List UInt8) (h1 : SliceIs w v1 x) (h2 : SliceIs w v2 y) (h3 : SliceIs w v3 z) (nb : Nat) (hnb : nb = w.heap.size) :
    ListIs (w.alloc (.cells #[v1, v2, v3] t)) (.slice (some ⟨nb, 0, none⟩) 3 3) [x, y, z] := by
  subst hnb
  refine ⟨_, 3, rfl, by simp, .inr ⟨w.heap.size, 0, rfl, fun i hi => ?_⟩⟩
  match i, hi with
  | 0, _ => exact ⟨v1, by simp, h1.alloc _⟩
  | 1, _ => exact ⟨v2, by simp, h2.alloc _⟩
  | 2, _ => exact ⟨v3, by simp, h3.alloc _⟩
set_option maxRecDepth 100000 in
set_option maxHeartbeats 1000000 in
theorem leafDigest_own (w : World) (v : Value) (p : Pr) (hv : PairIs w v p) (hp : (1 ≤ p.1.length ∧ p.1.length ≤ 16) ∧ p.2.length ≤ 32) :
    Calls Tryz.prog 24 #[v] w fun e w' => ∃ x, e = .returned x ∧ OwnE w' x (sumF (joinF 1 [p.1, p.2])) ∧ w.grownBy w' none := by
  obtain ⟨vk, vv, rfl, s1, s2⟩ := hv
  obtain ⟨ak, ck, rfl⟩ := s1.shape
  obtain ⟨av, cv, rfl⟩ := s2.shape
  have S1 : Hid (SliceIs w (.slice ak p.1.length ck) p.1) := s1
  have S2 : Hid (SliceIs w (.slice av p.2.length cv) p.2) := s2
  clear s1 s2
  go_enter Tryz.func24, Tryz.ntmps24
  go_wp2_with fail
  refine (partsOf_own _ 1 _ [p.1, p.2] (listIs_two _ _ _ _ p.1 p.2 (S1.out.alloc _) (S2.out.alloc _) _ (by simp)) (by unfold maxLen; simp) ?_).mono ?_
  · intro i hi
    match i, hi with
    | 0, _ => simp; omega
    | 1, _ => simp; omega
  rintro e w1 ⟨hg1, ⟨_, x, rfl, hx⟩ | ⟨hbad, _⟩⟩
  · go_wp2
    go_ret
    exact ⟨x, rfl, hx, grown_trans (grown_alloc (grown_alloc (grown_refl _ _) _) _) hg1⟩
  · rw [joinF_two] at hbad; omega
set_option maxRecDepth 100000 in
set_option maxHeartbeats 1000000 in
theorem forkDigest_own (w : World) (b : Nat) (hb : b < 145) (v u : Value) (x y : List UInt8) (hv : SliceIs w v x) (hu : SliceIs w u y) (hx : x.length = 32) (hy : y.length = 32) :
    Calls Tryz.prog 26 #[.int .i64 (b : Int), v, u] w fun e w' => ∃ z, e = .returned z ∧ OwnE w' z (sumF (joinF 2 [[UInt8.ofNat b], x, y])) ∧ w.grownBy w' none := by
  obtain ⟨a1, c1, rfl⟩ := hv.shape
  obtain ⟨a2, c2, rfl⟩ := hu.shape
  have S1 : Hid (SliceIs w (.slice a1 x.length c1) x) := hv
  have S2 : Hid (SliceIs w (.slice a2 y.length c2) y) := hu
  have HX : Hid (x.length = 32) := hx
  have HY : Hid (y.length = 32) := hy
  clear hv hu hx hy
  go_enter Tryz.func26, Tryz.ntmps26
  go_wp2_with fail
  have hone : SliceIs (w.alloc (.cells #[.int .u8 (b : Int)] 5)) (.slice (some ⟨w.heap.size, 0, none⟩) 1 1) [UInt8.ofNat b] := by
    have := one_slice w (UInt8.ofNat b) 5
    rw [show (((UInt8.ofNat b).toNat : Nat) : Int) = (b : Int) by simp; omega] at this
    exact this
  refine (partsOf_own _ 2 _ [[UInt8.ofNat b], x, y] (listIs_three _ _ _ _ _ [UInt8.ofNat b] x y hone (S1.out.alloc _) (S2.out.alloc _) _ (by simp)) (by unfold maxLen; simp) ?_).mono ?_
  · intro i hi
    have h1 := HX.out
    have h2 := HY.out
    match i, hi with
    | 0, _ => simp
    | 1, _ => simp [h1]
    | 2, _ => simp [h2]
  rintro e w1 ⟨hg1, ⟨_, z, rfl, hz⟩ | ⟨hbad, _⟩⟩
  · go_wp2
    go_ret
    exact ⟨z, rfl, hz, grown_trans (grown_alloc (grown_alloc (grown_refl _ _) _) _) hg1⟩
  · rw [joinF_three, HX.out, HY.out] at hbad; simp at hbad
set_option maxRecDepth 100000 in
set_option maxHeartbeats 1000000 in
theorem rootOf_own : ∀ (n : Nat) (w : World) (v : Value) (l : PL), l.length ≤ n → PairsIs w v l → Tree l →
    Calls Tryz.prog 13 #[v] w fun e w' => ∃ x, e = .returned x ∧ OwnE w' x (rootL l) ∧ w.grownBy w' none := by
  intro n
  induction n with
  | zero =>
    intro w v l hn hv hT
    obtain ⟨a, cap, rfl⟩ := hv.shape
    have h0 : l.length = 0 := by omega
    rw [rootL_none l h0]
    have t1 : (l.length : Int) = 0 := by omega
    go_enter Tryz.func13, Tryz.ntmps13
    go_wp2_with fail
    refine (noneDigest_own _).mono ?_
    rintro e w1 ⟨x, rfl, hx, hg1⟩
    go_wp2
    go_ret
    exact ⟨x, rfl, hx, hg1⟩
  | succ n ih =>
    intro w v l hn hv hT
    have IH : Hid (∀ (w : World) (v : Value) (l : PL), l.length ≤ n → PairsIs w v l → Tree l → Calls Tryz.prog 13 #[v] w fun e w' => ∃ x, e = .returned x ∧ OwnE w' x (rootL l) ∧ w.grownBy w' none) := ih
    clear ih
    obtain ⟨a, cap, rfl⟩ := hv.shape
    by_cases h0 : l.length = 0
    · rw [rootL_none l h0]
      have t1 : (l.length : Int) = 0 := by omega
      go_enter Tryz.func13, Tryz.ntmps13
      go_wp2_with fail
      refine (noneDigest_own _).mono ?_
      rintro e w1 ⟨x, rfl, hx, hg1⟩
      go_wp2
      go_ret
      exact ⟨x, rfl, hx, hg1⟩
    · have t1 : ¬ (l.length : Int) = 0 := by omega
      by_cases h1 : l.length = 1
      · rw [rootL_one l h1]
        have t2 : (l.length : Int) = 1 := by omega
        obtain ⟨b, o, rfl, hat⟩ := hv.at 0 (by omega)
        obtain ⟨vk, vv, c1, c2, s1, s2⟩ := hat
        rw [Nat.zero_mul, Nat.add_zero] at c1 c2
        have hp := hT.pairs l[0] (List.getElem_mem (by omega))
        rw [show l[0] = l.getD 0 ([], []) by simp [show 0 < l.length by omega]] at hp
        generalize l.getD 0 ([], []) = P at *
        have LD : Hid (Calls Tryz.prog 24 #[.agg #[vk, vv]] w fun e w' => ∃ x, e = .returned x ∧ OwnE w' x (sumF (joinF 1 [P.1, P.2])) ∧ w.grownBy w' none) := leafDigest_own w _ P ⟨vk, vv, rfl, s1, s2⟩ hp
        obtain ⟨ak, ck, rfl⟩ := s1.shape
        obtain ⟨av, cv, rfl⟩ := s2.shape
        clear s1 s2 hT hv
        go_enter Tryz.func13, Tryz.ntmps13
        go_wp2_with fail
        refine LD.out.mono ?_
        rintro e w1 ⟨x, rfl, hx, hg1⟩
        go_wp2
        go_ret
        exact ⟨x, rfl, hx, hg1⟩
      · have t2 : ¬ (l.length : Int) = 1 := by omega
        have h2 : 2 ≤ l.length := by omega
        rw [rootL_fork l hT h2]
        have SD : Hid (Calls Tryz.prog 25 #[.slice a l.length cap] w fun e w' => ∃ x y, e = .returned (.tuple #[.int .i64 (forkBit l), x, y]) ∧ PairsIs w' x (sideL l (forkBit l).toNat false) ∧ PairsIs w' y (sideL l (forkBit l).toNat true) ∧ w.grownBy w' none) := sides_any w _ l hv hT h2
        have hrange := forkBit_range hT h2
        have hsl := sides_less hT h2
        have tF := side_tree hT (forkBit l).toNat false
        have tT := side_tree hT (forkBit l).toNat true
        have hF := hsl false
        have hTr := hsl true
        obtain ⟨B, hB⟩ : ∃ B : Nat, forkBit l = (B : Int) := ⟨(forkBit l).toNat, by omega⟩
        have eB : (forkBit l).toNat = B := by omega
        have hB2 : B < 145 := by omega
        rw [eB] at tF tT hF hTr SD ⊢
        rw [hB] at SD
        generalize sideL l B false = L at *
        generalize sideL l B true = R at *
        have rL := rootL_len L
        have rR := rootL_len R
        have HRL : Hid ((rootL L).length = 32) := rL
        have HRR : Hid ((rootL R).length = 32) := rR
        generalize hXL : rootL L = XL at *
        generalize hXR : rootL R = XR at *
        have HXL : Hid (rootL L = XL) := hXL
        have HXR : Hid (rootL R = XR) := hXR
        clear rL rR hXL hXR hsl hB hv hrange eB
        go_enter Tryz.func13, Tryz.ntmps13
        go_wp2_with fail
        refine SD.out.mono ?_
        rintro e w1 ⟨x, y, rfl, hx, hy, hg1⟩
        go_wp2_with fail
        refine (IH.out w1 x L (by omega) hx tF).mono ?_
        rintro e w2 ⟨u, rfl, hu, hg2⟩
        go_wp2_with fail
        refine (IH.out w2 y R (by omega) (hy.grown hg2) tT).mono ?_
        rintro e w3 ⟨z, rfl, hz, hg3⟩
        rw [HXL.out] at hu
        rw [HXR.out] at hz
        go_wp2_with fail
        refine (forkDigest_own w3 B hB2 u z XL XR (hu.slice.grown hg3) hz.slice HRL.out HRR.out).mono ?_
        rintro e w4 ⟨d, rfl, hd, hg4⟩
        go_wp2
        go_ret
        exact ⟨d, rfl, hd, grown_trans hg1 (grown_trans hg2 (grown_trans hg3 hg4))⟩
theorem noneDigest_any (w : World) :
    Calls Tryz.prog 23 #[] w fun e w' => ∃ x, e = .returned x ∧ SliceIs w' x (sumF [0]) ∧ w.grownBy w' none :=
  (noneDigest_own w).mono fun _ _ ⟨x, h1, h2, h3⟩ => ⟨x, h1, h2.slice, h3⟩
theorem leafDigest_any (w : World) (v : Value) (p : Pr) (hv : PairIs w v p) (hp : (1 ≤ p.1.length ∧ p.1.length ≤ 16) ∧ p.2.length ≤ 32) :
    Calls Tryz.prog 24 #[v] w fun e w' => ∃ x, e = .returned x ∧ SliceIs w' x (sumF (joinF 1 [p.1, p.2])) ∧ w.grownBy w' none :=
  (leafDigest_own w v p hv hp).mono fun _ _ ⟨x, h1, h2, h3⟩ => ⟨x, h1, h2.slice, h3⟩
theorem forkDigest_any (w : World) (b : Nat) (hb : b < 145) (v u : Value) (x y : List UInt8) (hv : SliceIs w v x) (hu : SliceIs w u y) (hx : x.length = 32) (hy : y.length = 32) :
    Calls Tryz.prog 26 #[.int .i64 (b : Int), v, u] w fun e w' => ∃ z, e = .returned z ∧ SliceIs w' z (sumF (joinF 2 [[UInt8.ofNat b], x, y])) ∧ w.grownBy w' none :=
  (forkDigest_own w b hb v u x y hv hu hx hy).mono fun _ _ ⟨x, h1, h2, h3⟩ => ⟨x, h1, h2.slice, h3⟩
theorem rootOf_any (n : Nat) (w : World) (v : Value) (l : PL) (hn : l.length ≤ n) (hv : PairsIs w v l) (hT : Tree l) :
    Calls Tryz.prog 13 #[v] w fun e w' => ∃ x, e = .returned x ∧ SliceIs w' x (rootL l) ∧ w.grownBy w' none :=
  (rootOf_own n w v l hn hv hT).mono fun _ _ ⟨x, h1, h2, h3⟩ => ⟨x, h1, h2.slice, h3⟩
end Go.Proofs.YtljdconhplgipaaGreatDoor

/-
  The walk of the document's answer to P5.5: rootsOf.
-/
namespace Go.Proofs.YtljdconhplgipaaGreatDoor
open Go.RowKit
set_option maxRecDepth 100000 in
set_option maxHeartbeats 1000000 in
theorem rootsOf_any (w : World) (v : Value) (l : FL) (hv : TensIs w v l) (hF : Forest l) :
    Calls Tryz.prog 12 #[v] w fun e w' => ∃ v', e = .returned v' ∧ PairsIs w' v' (rootsF l) ∧ w.grownBy w' none := by
  obtain ⟨a, cap, rfl⟩ := hv.shape
  have HF : Hid (Forest l) := hF
  have hroom := hF.room
  clear hF
  go_enter Tryz.func12, Tryz.ntmps12
  go_wp2_with fail
  go_loopw [3, 4] (fun cv i wr => ∃ m : Nat, m ≤ l.length ∧ i = .int .i64 (m : Int) ∧ OwnQ w.heap.size 0 wr cv (rootsF (l.take m)) ∧ w.grownBy wr none) (fun _ i _ => l.length - (intOf i).toNat)
  case atStart => exact ⟨0, by omega, rfl, ownQ_nil _ _ _, grown_refl _ _⟩
  case round =>
    obtain ⟨m, hm, rfl, hown, hg⟩ := hrel
    by_cases hlt : m < l.length
    · obtain ⟨b, o, rfl, hat⟩ := hv.at m hlt
      obtain ⟨vn, vp, c1, c2, s1, s2⟩ := hat.grown hg
      have HT : Hid (rootsF (l.take (m + 1)) = rootsF (l.take m) ++ [((l.getD m ([], [])).1, rootL (l.getD m ([], [])).2)]) := roots_take l m hlt
      have hten := HF.out.tens l[m] (List.getElem_mem hlt)
      rw [show l[m] = l.getD m ([], []) by simp [hlt]] at hten
      have hTl : (rootsF (l.take m)).length = m := by rw [roots_len]; simp; omega
      generalize l.getD m ([], []) = P at *
      generalize rootsF (l.take m) = T at *
      have RO : Hid (Calls Tryz.prog 13 #[vp] wr fun e w' => ∃ x, e = .returned x ∧ OwnE w' x (rootL P.2) ∧ wr.grownBy w' none) := rootOf_own P.2.length wr vp P.2 (Nat.le_refl _) s2 hten.2.2
      have JN : Hid (∀ w', wr.grownBy w' none → Calls Tryz.prog 22 #[vn, .slice none 0 0] w' fun e w'' => ∃ v', e = .returned v' ∧ Own w'.heap.size w'' v' P.1 ∧ w'.grownBy w'' none) := fun w' hg' => by
        have := joined_gen w' vn (.slice none 0 0) P.1 [] (s1.grown hg') (sliceIs_nil _) (by have := hten.1.2; simp; omega)
        rw [List.append_nil] at this
        exact this
      obtain ⟨na, nc, rfl⟩ := s1.shape
      obtain ⟨pa, pc, rfl⟩ := s2.shape
      obtain ⟨ca, ccap, rfl⟩ := hown.shape
      rw [hTl] at hown ⊢
      generalize rootL P.2 = D at *
      have i1 : (m : Int) < (l.length : Int) := by omega
      have HO : Hid (OwnQ w.heap.size 0 wr (.slice ca m ccap) T) := hown
      clear hat s1 s2 hten hown
      go_wp2_with fail
      refine RO.out.mono ?_
      rintro e w1 ⟨x1, rfl, hx1, hg1⟩
      have HX1 : Hid (OwnE w1 x1 D) := hx1
      obtain ⟨ob, hox⟩ := hx1
      obtain ⟨xa, xc, rfl⟩ := hox.shape
      have d1 := hg1.cell c1 (by simp)
      have hgw1 := grown_trans hg hg1
      clear hox c1 c2
      go_wp2_with fail
      refine (JN.out _ hg1).mono ?_
      rintro e w2 ⟨x2, rfl, ho2, hg2⟩
      obtain ⟨ya, yc, rfl⟩ := ho2.shape
      have hgw2 := grown_trans hgw1 hg2
      have hown2 : OwnQ w.heap.size 0 w2 (.slice ca m ccap) T := (HO.out.grownNone hg1).grownNone hg2
      have HK : Hid (PartIs 0 w2 (.slice ya P.1.length yc) P.1) := ho2.part
      have HV : Hid (PartIs 0 w2 (.slice xa D.length xc) D) := by
        obtain ⟨ob, h⟩ := HX1.out
        exact (h.grownNone hg2).part
      have HO2 : Hid (OwnQ w.heap.size 0 w2 (.slice ca m ccap) T) := hown2
      have hsz := hgw2.size
      have hl48 : (T.length + 1) * 48 ≤ 140737488355328 := by omega
      clear ho2 hown2 d1
      go_wp2_with (at_builtin; refine wpList_append_pairQ (w0 := w2) rfl _ _ rfl w.heap.size 0 (Nat.zero_le _) (.slice ca m ccap) T rfl HO2.out (.slice ya P.1.length yc) (.slice xa D.length xc) (P.1, D) HK.out HV.out rfl w2.heap.size rfl rfl hl48 hsz ?_; intro v4 w4 ho4 hg4)
      have hgw4 := grown_ownQ (grown_alloc hgw2 _) (HO2.out.alloc _) (Nat.le_refl _) hg4
      go_roundw
      case rel => exact ⟨m + 1, by omega, by go_num, by rw [HT.out]; exact ho4, hgw4⟩
      case measure => simp [intOf]; omega
    · obtain rfl : m = l.length := by omega
      rw [List.take_length] at hown
      obtain ⟨pa, pcap, rfl⟩ := hown.shape
      have HO : Hid (PairsIs wr (.slice pa (rootsF l).length pcap) (rootsF l)) := hown.list
      generalize (rootsF l).length = n at *
      clear hown
      go_wp2
      go_ret
      exact ⟨_, rfl, HO.out, hg⟩
end Go.Proofs.YtljdconhplgipaaGreatDoor

/-
  The walk of the document's answer to P7.3: HistoryRoot.
-/
namespace Go.Proofs.YtljdconhplgipaaGreatDoor
open Go.RowKit
set_option maxRecDepth 100000 in
theorem historyRoot_any (w : World) (v : Value) (l : List Cmt) (turn : Int) (hv : CommitsIs w v l) (hl : FitsCs l) :
    Calls Tryz.prog 6 #[v, .int .i64 turn] w fun e w' => ∃ x, e = .returned (.tuple #[x, .int .i64 (foldE l turn)]) ∧ SliceIs w' x (hrootF l turn) ∧ w.grownBy w' none := by
  obtain ⟨a, cap, rfl⟩ := hv.shape
  have FO : Hid (Calls Tryz.prog 11 #[.slice a l.length cap, .int .i64 turn] w fun e w' => ∃ x, e = .returned (.tuple #[x, .int .i64 (foldE l turn)]) ∧ TensIs w' x (foldT l turn) ∧ w.grownBy w' none) := foldOf_any w _ l turn hv hl
  have hFF := foldT_forest l turn
  have RS : Hid (∀ w' x, TensIs w' x (foldT l turn) → Calls Tryz.prog 12 #[x] w' fun e w'' => ∃ v', e = .returned v' ∧ PairsIs w'' v' (rootsF (foldT l turn)) ∧ w'.grownBy w'' none) := fun w' x h => rootsOf_any w' x _ h hFF
  have RO : Hid (∀ w' x, PairsIs w' x (rootsF (foldT l turn)) → Calls Tryz.prog 13 #[x] w' fun e w'' => ∃ y, e = .returned y ∧ SliceIs w'' y (rootL (rootsF (foldT l turn))) ∧ w'.grownBy w'' none) := fun w' x h => rootOf_any _ w' x _ (Nat.le_refl _) h (roots_tree hFF)
  have HR0 : Hid (foldE l turn ≠ 0 → hrootF l turn = []) := fun h => by rw [hrootF, if_neg h]
  have HR1 : Hid (foldE l turn = 0 → hrootF l turn = rootL (rootsF (foldT l turn))) := fun h => by rw [hrootF, if_pos h]
  generalize hrootF l turn = R at *
  generalize foldE l turn = E at *
  generalize rootL (rootsF (foldT l turn)) = RL at *
  generalize rootsF (foldT l turn) = PS at *
  generalize foldT l turn = T at *
  clear hv hl hFF
  go_enter Tryz.func6, Tryz.ntmps6
  go_wp2_with fail
  refine FO.out.mono ?_
  rintro e w1 ⟨x1, rfl, h1, hg1⟩
  obtain ⟨xa, xc, rfl⟩ := h1.shape
  have H1 : Hid (TensIs w1 (.slice xa T.length xc) T) := h1
  clear h1
  by_cases z : E = 0
  · subst z
    have HR2 : Hid (R = RL) := HR1.out rfl
    go_wp2_with fail
    refine (RS.out _ _ H1.out).mono ?_
    rintro e w2 ⟨x2, rfl, h2, hg2⟩
    obtain ⟨pa, pc, rfl⟩ := h2.shape
    have H2 : Hid (PairsIs w2 (.slice pa PS.length pc) PS) := h2
    clear h2
    go_wp2_with fail
    refine (RO.out _ _ H2.out).mono ?_
    rintro e w3 ⟨x3, rfl, h3, hg3⟩
    obtain ⟨ra, rc, rfl⟩ := h3.shape
    have H3 : Hid (SliceIs w3 (.slice ra RL.length rc) RL) := h3
    clear h3
    go_wp2
    go_ret2
    exact ⟨_, rfl, by rw [HR2.out]; exact H3.out, grown_trans hg1 (grown_trans hg2 hg3)⟩
  · have z2 : (E != 0) = true := by simp [z]
    have HR2 : Hid (R = []) := HR0.out z
    go_wp2
    go_ret2
    exact ⟨_, rfl, by rw [HR2.out]; exact sliceIs_nil _, hg1⟩
end Go.Proofs.YtljdconhplgipaaGreatDoor
