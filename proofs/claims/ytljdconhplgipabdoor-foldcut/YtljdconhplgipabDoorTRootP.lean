/-
  tree.Root, as it landed, keeps P3.6.
-/
import Derived.Test.YtljdconhplgipabDoorPart14
import Derived.Test.YtljdconhplgipabDoorPart6
import Derived.Test.YtljdconhplgipabDoorPart5
namespace Go.Proofs.YtljdconhplgipabDoor
open Go.RowKit
theorem plist_two (w : World) (t : TypeId) (v1 v2 : Value) (x y : List UInt8) (h1 : SliceIs w v1 x) (h2 : SliceIs w v2 y) (nb : Nat) (hnb : nb = w.heap.size) :
    ListIs (w.alloc (.cells #[v1, v2] t)) (.slice (some ⟨nb, 0, none⟩) 2 2) [x, y] := by
  subst hnb
  refine ⟨_, 2, rfl, by simp, .inr ⟨w.heap.size, 0, rfl, fun i hi => ?_⟩⟩
  match i, hi with
  | 0, _ => exact ⟨v1, by simp, h1.alloc _⟩
  | 1, _ => exact ⟨v2, by simp, h2.alloc _⟩
theorem plist_three (w : World) (t : TypeId) (v1 v2 v3 : Value) (x y z : List UInt8) (h1 : SliceIs w v1 x) (h2 : SliceIs w v2 y) (h3 : SliceIs w v3 z) (nb : Nat) (hnb : nb = w.heap.size) :
    ListIs (w.alloc (.cells #[v1, v2, v3] t)) (.slice (some ⟨nb, 0, none⟩) 3 3) [x, y, z] := by
  subst hnb
  refine ⟨_, 3, rfl, by simp, .inr ⟨w.heap.size, 0, rfl, fun i hi => ?_⟩⟩
  match i, hi with
  | 0, _ => exact ⟨v1, by simp, h1.alloc _⟩
  | 1, _ => exact ⟨v2, by simp, h2.alloc _⟩
  | 2, _ => exact ⟨v3, by simp, h3.alloc _⟩
/-- A digest in a block of its own, made by the call. -/
def NewD (w w' : World) (v : Value) (bs : List UInt8) : Prop := ∃ nb, w.heap.size ≤ nb ∧ v = .slice (some ⟨nb, 0, none⟩) 32 32 ∧ Bytes w' nb bs
theorem NewD.slice {w w' : World} {v : Value} {bs : List UInt8} (h : NewD w w' v bs) (hl : bs.length = 32) : SliceIs w' v bs := by
  obtain ⟨nb, _, rfl, hb⟩ := h
  exact hb.slice32 hl
theorem NewD.older {w0 w w' : World} {v : Value} {bs : List UInt8} (h : NewD w w' v bs) (hs : w0.heap.size ≤ w.heap.size) : NewD w0 w' v bs := by
  obtain ⟨nb, h1, h2, h3⟩ := h
  exact ⟨nb, Nat.le_trans hs h1, h2, h3⟩
/-- digest.Parts of parts that are short: where the digest lies. -/
theorem parts_new (w : World) (k : UInt8) (v : Value) (ps : List (List UInt8)) (hv : ListIs w v ps) (hn : ps.length ≤ 10) (hs : ∀ i, i < ps.length → (ps.getD i []).length ≤ 40) (hj : (joinF k ps).length ≤ 4000) (ht : Tabs w) :
    Calls Tryd.prog 54 #[.int .u8 (k.toNat : Int), v] w fun e w' => ∃ x, e = .returned (.tuple #[x, .int .i64 0]) ∧ NewD w w' x (sumF (joinF k ps)) ∧ w.grownBy w' none := by
  refine (parts_any w k v ps hv (by unfold maxLen; omega) (fun i hi => by have := hs i hi; unfold maxLen; omega) ht).mono ?_
  rintro e w1 ⟨hg, ⟨_, nb, hnb, rfl, hb⟩ | ⟨hbad, _⟩⟩
  · exact ⟨_, rfl, ⟨nb, hnb, rfl, hb⟩, hg⟩
  · omega
/-- digest.Parts of parts that are short. -/
theorem parts_short (w : World) (k : UInt8) (v : Value) (ps : List (List UInt8)) (hv : ListIs w v ps) (hn : ps.length ≤ 10) (hs : ∀ i, i < ps.length → (ps.getD i []).length ≤ 40) (hj : (joinF k ps).length ≤ 4000) (ht : Tabs w) :
    Calls Tryd.prog 54 #[.int .u8 (k.toNat : Int), v] w fun e w' => ∃ x, e = .returned (.tuple #[x, .int .i64 0]) ∧ SliceIs w' x (sumF (joinF k ps)) ∧ w.grownBy w' none :=
  (parts_new w k v ps hv hn hs hj ht).mono fun _ _ ⟨x, h1, h2, h3⟩ => ⟨x, h1, h2.slice (sumF_len _), h3⟩
set_option maxRecDepth 100000 in
set_option maxHeartbeats 1000000 in
theorem root_new : ∀ (n : Nat) (w : World) (v : Value) (l : PL), l.length ≤ n → PairsIs w v l → Tree l → Tabs w →
    Calls Tryd.prog 31 #[v] w fun e w' => ∃ x, e = .returned (.tuple #[x, .int .i64 0]) ∧ NewD w w' x (rootL l) ∧ w.grownBy w' none := by
  have none_case : ∀ (w : World) (a : Option Addr) (cap : Nat) (l : PL), l.length = 0 → Tabs w → Calls Tryd.prog 31 #[.slice a l.length cap] w fun e w' => ∃ x, e = .returned (.tuple #[x, .int .i64 0]) ∧ NewD w w' x (rootL l) ∧ w.grownBy w' none := by
    intro w a cap l h0 ht
    rw [rootL_none l h0, h0]
    have PS : Hid (Calls Tryd.prog 54 #[.int .u8 0, .slice none 0 0] w fun e w' => ∃ x, e = .returned (.tuple #[x, .int .i64 0]) ∧ NewD w w' x (sumF [0]) ∧ w.grownBy w' none) := by
      have := parts_new w 0 (.slice none 0 0) [] ⟨none, 0, rfl, by simp, .inl rfl⟩ (by simp) (by simp) (by simp [joinF]) ht
      show Calls _ _ _ _ _
      simpa [joinF] using this
    generalize sumF [0] = S at *
    go_enter Tryd.func31, Tryd.ntmps31
    go_wp2_with fail
    refine PS.out.mono ?_
    rintro e w1 ⟨x, rfl, hx, hg1⟩
    go_wp2
    go_ret2
    exact ⟨x, rfl, hx, hg1⟩
  intro n
  induction n with
  | zero =>
    intro w v l hn hv hT ht
    obtain ⟨a, cap, rfl⟩ := hv.shape
    exact none_case w a cap l (by omega) ht
  | succ n ih =>
    intro w v l hn hv hT ht
    have IH : Hid (∀ (w : World) (v : Value) (l : PL), l.length ≤ n → PairsIs w v l → Tree l → Tabs w → Calls Tryd.prog 31 #[v] w fun e w' => ∃ x, e = .returned (.tuple #[x, .int .i64 0]) ∧ NewD w w' x (rootL l) ∧ w.grownBy w' none) := ih
    clear ih
    obtain ⟨a, cap, rfl⟩ := hv.shape
    by_cases h0 : l.length = 0
    · exact none_case w a cap l h0 ht
    · clear none_case
      by_cases h1 : l.length = 1
      · rw [rootL_one l h1]
        obtain ⟨b, o, rfl, hat⟩ := hv.at 0 (by omega)
        obtain ⟨vk, vv, c1, c2, s1, s2⟩ := hat
        rw [Nat.zero_mul, Nat.add_zero] at c1 c2
        have hp := hT.pairs l[0] (List.getElem_mem (by omega))
        rw [show l[0] = l.getD 0 ([], []) by simp [show 0 < l.length by omega]] at hp
        generalize l.getD 0 ([], []) = P at *
        rw [h1] at hv ⊢
        have PS : Hid (Calls Tryd.prog 54 #[.int .u8 1, .slice (some ⟨w.heap.size, 0, none⟩) 2 2] (w.alloc (.cells #[vk, vv] 30)).drew fun e w' => ∃ x, e = .returned (.tuple #[x, .int .i64 0]) ∧ NewD w w' x (sumF (joinF 1 [P.1, P.2])) ∧ w.grownBy w' none) := by
          have hg := World.grownBy_alloc w (.cells #[vk, vv] 30) none
          refine (parts_new (w.alloc (.cells #[vk, vv] 30)).drew 1 (.slice (some ⟨w.heap.size, 0, none⟩) 2 2) [P.1, P.2] (plist_two w _ vk vv P.1 P.2 s1 s2 _ rfl) (by simp) ?_ (by rw [joinF_two]; omega) (ht.grownNone (grown_drew hg))).mono ?_
          · intro i hi
            match i, hi with
            | 0, _ => simp; omega
            | 1, _ => simp; omega
          · rintro e w1 ⟨x, rfl, hx, hg1⟩
            exact ⟨x, rfl, hx.older (grown_drew hg).size, grown_trans (grown_drew hg) hg1⟩
        obtain ⟨ak, ck, rfl⟩ := s1.shape
        obtain ⟨av, cv, rfl⟩ := s2.shape
        have e1 : w.drew.cell? ⟨b, o, none⟩ = some (.slice ak P.1.length ck) := c1
        have e2 : w.drew.cell? ⟨b, o + 1, none⟩ = some (.slice av P.2.length cv) := c2
        generalize sumF (joinF 1 [P.1, P.2]) = S at *
        clear s1 s2 hT hv
        go_enter Tryd.func31, Tryd.ntmps31
        go_wp2_with fail
        go_region_with (go_at_call 54; refine PS.out.mono ?_; rintro e w1 ⟨x, rfl, hx, hg1⟩)
        all_goals
          go_wp2
          go_ret2
          exact ⟨x, rfl, hx, hg1⟩
      · have h2 : 2 ≤ l.length := by omega
        rw [rootL_fork l hT h2]
        have FK : Hid (Calls Tryd.prog 55 #[.slice a l.length cap] w fun e w' => e = .returned (.tuple #[.int .i64 (forkBit l), .int .i64 (sideN l (forkBit l).toNat : Int), .int .i64 0]) ∧ w.grownBy w' none) := fork_any w _ l hv hT h2
        have hrange := forkBit_range hT h2
        have hsr := side_range hT h2
        have tF := side_tree hT (forkBit l).toNat false
        have tT := side_tree hT (forkBit l).toNat true
        have eF := side_false hT h2
        have eT := side_true hT h2
        obtain ⟨B, hB⟩ : ∃ B : Nat, forkBit l = (B : Int) := ⟨(forkBit l).toNat, by omega⟩
        have eB : (forkBit l).toNat = B := by omega
        have hB2 : B < 145 := by omega
        rw [eB] at tF tT eF eT hsr FK ⊢
        rw [hB] at FK
        rw [eF] at tF ⊢
        rw [eT] at tT ⊢
        generalize sideN l B = s at *
        have lF : (l.take s).length ≤ n := by simp; omega
        have lT : (l.drop s).length ≤ n := by simp; omega
        obtain ⟨a1, c1, q1, g1⟩ := pslice_h a cap l s (by omega) hv.cap
        obtain ⟨a2, c2, q2, g2⟩ := pslice_l a cap l s (by omega)
        have RL : Hid (∀ w', w.grownBy w' none → Calls Tryd.prog 31 #[.slice a1 s c1] w' fun e w'' => ∃ x, e = .returned (.tuple #[x, .int .i64 0]) ∧ NewD w' w'' x (rootL (l.take s)) ∧ w'.grownBy w'' none) := fun w' hg => IH.out w' _ _ lF (g1 w' (hv.grown hg)) tF (ht.grownNone hg)
        have RR : Hid (∀ w', w.grownBy w' none → Calls Tryd.prog 31 #[.slice a2 (l.length - s) c2] w' fun e w'' => ∃ x, e = .returned (.tuple #[x, .int .i64 0]) ∧ NewD w' w'' x (rootL (l.drop s)) ∧ w'.grownBy w'' none) := fun w' hg => IH.out w' _ _ lT (g2 w' (hv.grown hg)) tT (ht.grownNone hg)
        have rL := rootL_len (l.take s)
        have rR := rootL_len (l.drop s)
        generalize rootL (l.take s) = XL at *
        generalize rootL (l.drop s) = XR at *
        have HXL : Hid (XL.length = 32) := rL
        have HXR : Hid (XR.length = 32) := rR
        have HTB : Hid (Tabs w) := ht
        have DP : Hid (∀ (w' : World) (x y : Value), w.grownBy w' none → SliceIs w' x XL → SliceIs w' y XR → Calls Tryd.prog 54 #[.int .u8 2, .slice (some ⟨w'.heap.size + 1, 0, none⟩) 3 3] ((w'.alloc (.cells #[.int .u8 (B : Int)] 5)).alloc (.cells #[.slice (some ⟨w'.heap.size, 0, none⟩) 1 1, x, y] 30)) fun e w'' => ∃ z, e = .returned (.tuple #[z, .int .i64 0]) ∧ NewD w' w'' z (sumF (joinF 2 [[UInt8.ofNat B], XL, XR])) ∧ w'.grownBy w'' none) := by
          intro w' x y hg hx hy
          have hone : SliceIs (w'.alloc (.cells #[.int .u8 (B : Int)] 5)) (.slice (some ⟨w'.heap.size, 0, none⟩) 1 1) [UInt8.ofNat B] := by
            have := one_slice w' (UInt8.ofNat B) 5
            rw [show (((UInt8.ofNat B).toNat : Nat) : Int) = (B : Int) by simp; omega] at this
            exact this
          have hgg : w'.grownBy ((w'.alloc (.cells #[.int .u8 (B : Int)] 5)).alloc (.cells #[.slice (some ⟨w'.heap.size, 0, none⟩) 1 1, x, y] 30)) none := grown_alloc (World.grownBy_alloc _ _ _) _
          refine (parts_new _ 2 _ [[UInt8.ofNat B], XL, XR] (plist_three _ _ _ _ _ [UInt8.ofNat B] XL XR hone (hx.alloc _) (hy.alloc _) _ (by simp)) (by simp) ?_ (by rw [joinF_three, HXL.out, HXR.out]; simp) (HTB.out.grownNone (grown_trans hg hgg))).mono ?_
          · intro i hi
            have h1 := HXL.out
            have h2 := HXR.out
            match i, hi with
            | 0, _ => simp
            | 1, _ => simp [h1]
            | 2, _ => simp [h2]
          · rintro e w1 ⟨z, rfl, hz, hg1⟩
            exact ⟨z, rfl, hz.older hgg.size, grown_trans hgg hg1⟩
        generalize sumF (joinF 2 [[UInt8.ofNat B], XL, XR]) = S at *
        clear rL rR hB hv hrange eB g1 g2 eF eT tF tT lF lT hT ht IH HTB
        have t0 : ((l.length : Int) == 0) = false := by rw [beq_eq_false_iff_ne]; omega
        have t1 : ((l.length : Int) == 1) = false := by rw [beq_eq_false_iff_ne]; omega
        go_enter Tryd.func31, Tryd.ntmps31
        go_wp2_with fail
        refine FK.out.mono ?_
        rintro e w1 ⟨rfl, hg1⟩
        go_wp2_with fail
        refine (RL.out _ hg1).mono ?_
        rintro e w2 ⟨x, rfl, hx', hg2⟩
        have hx := hx'.slice HXL.out
        clear hx'
        obtain ⟨xa, xc, rfl⟩ := hx.shape
        have hg12 := grown_trans hg1 hg2
        go_wp2_with fail
        refine (RR.out _ hg12).mono ?_
        rintro e w3 ⟨y, rfl, hy', hg3⟩
        have hy := hy'.slice HXR.out
        clear hy'
        obtain ⟨ya, yc, rfl⟩ := hy.shape
        have hg13 := grown_trans hg12 hg3
        go_wp2_with fail
        refine (DP.out w3 _ _ hg13 (hx.grown hg3) hy).mono ?_
        rintro e w4 ⟨z, rfl, hz, hg4⟩
        go_wp2
        go_ret2
        exact ⟨z, rfl, hz.older hg13.size, grown_trans hg13 hg4⟩
theorem root_any (n : Nat) (w : World) (v : Value) (l : PL) (hn : l.length ≤ n) (hv : PairsIs w v l) (hT : Tree l) (ht : Tabs w) :
    Calls Tryd.prog 31 #[v] w fun e w' => ∃ x, e = .returned (.tuple #[x, .int .i64 0]) ∧ SliceIs w' x (rootL l) ∧ w.grownBy w' none :=
  (root_new n w v l hn hv hT ht).mono fun _ _ ⟨x, h1, h2, h3⟩ => ⟨x, h1, h2.slice (rootL_len _), h3⟩
set_option maxRecDepth 100000 in
set_option maxHeartbeats 1000000 in
/-- tree.Root of a tree: where the digest lies. -/
theorem troot_new (w : World) (v : Value) (l : PL) (hv : PairsIs w v l) (hT : Tree l) (ht : Tabs w) :
    Calls Tryd.prog 19 #[v] w fun e w' => ∃ x, e = .returned (.tuple #[x, .int .i64 0]) ∧ NewD w w' x (rootL l) ∧ w.grownBy w' none := by
  have CL : Hid (Calls Tryd.prog 30 #[v] w fun e w' => e = .returned (.int .i64 0) ∧ w.grownBy w' none) := by
    have := tcheck_ok w v l hv hT.fits
    rw [(tree_iff l).2 hT] at this
    exact this
  obtain ⟨a, cap, rfl⟩ := hv.shape
  have RT : Hid (∀ w', w.grownBy w' none → Calls Tryd.prog 31 #[.slice a l.length cap] w' fun e w'' => ∃ x, e = .returned (.tuple #[x, .int .i64 0]) ∧ NewD w' w'' x (rootL l) ∧ w'.grownBy w'' none) := fun w' hg => root_new l.length w' _ l (Nat.le_refl _) (hv.grown hg) hT (ht.grownNone hg)
  generalize rootL l = R at *
  clear hT hv ht
  go_enter Tryd.func19, Tryd.ntmps19
  go_wp2_with fail
  refine CL.out.mono ?_
  rintro e w1 ⟨rfl, hg1⟩
  go_wp2_with fail
  refine (RT.out _ hg1).mono ?_
  rintro e w2 ⟨x, rfl, hx, hg2⟩
  go_wp2
  go_ret2
  exact ⟨x, rfl, hx.older hg1.size, grown_trans hg1 hg2⟩
set_option maxRecDepth 100000 in
set_option maxHeartbeats 1000000 in
theorem troot_ok : TRootOK := by
  intro w v l hv hl ht
  have CL : Hid (Calls Tryd.prog 30 #[v] w fun e w' => e = .returned (.int .i64 (pairsFaultF l)) ∧ w.grownBy w' none) := tcheck_ok w v l hv hl
  obtain ⟨a, cap, rfl⟩ := hv.shape
  by_cases hz : pairsFaultF l = 0
  · have hT := (tree_iff l).1 hz
    have hF : rootF l = rootL l := by rw [rootF, if_pos hz]
    have RT : Hid (∀ w', w.grownBy w' none → Calls Tryd.prog 31 #[.slice a l.length cap] w' fun e w'' => ∃ x, e = .returned (.tuple #[x, .int .i64 0]) ∧ SliceIs w'' x (rootL l) ∧ w'.grownBy w'' none) := fun w' hg => root_any l.length w' _ l (Nat.le_refl _) (hv.grown hg) hT (ht.grownNone hg)
    rw [hz] at CL ⊢
    rw [hF]
    generalize rootL l = R at *
    clear hz hF hT hv ht
    go_enter Tryd.func19, Tryd.ntmps19
    go_wp2_with fail
    refine CL.out.mono ?_
    rintro e w1 ⟨rfl, hg1⟩
    go_wp2_with fail
    refine (RT.out _ hg1).mono ?_
    rintro e w2 ⟨x, rfl, hx, hg2⟩
    go_wp2
    go_ret2
    exact ⟨x, rfl, hx, grown_trans hg1 hg2⟩
  · have hF : rootF l = [] := by rw [rootF, if_neg hz]
    rw [hF]
    generalize pairsFaultF l = z at *
    have hz' : (z != 0) = true := by simpa using hz
    clear hF hv ht
    go_enter Tryd.func19, Tryd.ntmps19
    go_wp2_with fail
    refine CL.out.mono ?_
    rintro e w1 ⟨rfl, hg1⟩
    go_wp2
    go_ret2
    exact ⟨_, rfl, sliceIs_nil _, hg1⟩
end Go.Proofs.YtljdconhplgipabDoor
