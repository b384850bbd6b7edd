/-
  Texts of this proof, joined: Parts, RootF, TCRoot, TRootP, KTree, KMakeS, KPure, KSame, PairSlice3, LRootSides, Some, KeyO.
-/
import Derived.Test.YtdpoickggdgddacDoorPart2
import Derived.Test.YtdpoickggdgddacDoorPart4
import Derived.Test.YtdpoickggdgddacDoorPart1
import Derived.Test.YtdpoickggdgddacDoorPart3
/-
  The walk of digest.Parts.
-/
namespace Go.Proofs.YtdpoickggdgddacDoor
open Go.RowKit
/-- A list of slices of bytes, as it is handed over. -/
def ListIs (w : World) (v : Value) (ps : List (List UInt8)) : Prop :=
  ∃ a cap, v = .slice a ps.length cap ∧ ps.length ≤ cap ∧ (ps = [] ∨ ∃ b o, a = some ⟨b, o, none⟩ ∧ ∀ i, i < ps.length → ∃ vi, w.cell? ⟨b, o + i, none⟩ = some vi ∧ SliceIs w vi (ps.getD i []))
/-- A part behind its length. -/
def jpartF (p : List UInt8) : List UInt8 := UInt8.ofNat (p.length / 256) :: UInt8.ofNat p.length :: p
def joinF (k : UInt8) (ps : List (List UInt8)) : List UInt8 := k :: ps.flatMap jpartF
theorem jpartF_len (p : List UInt8) : (jpartF p).length = p.length + 2 := by simp [jpartF]
theorem joinF_snoc (k : UInt8) (ps : List (List UInt8)) (p : List UInt8) : joinF k (ps ++ [p]) = joinF k ps ++ jpartF p := by simp [joinF]
theorem joinF_take (k : UInt8) (ps : List (List UInt8)) (i : Nat) (h : i < ps.length) : joinF k (ps.take (i + 1)) = joinF k (ps.take i) ++ jpartF (ps.getD i []) := by
  rw [List.take_succ_eq_append_getElem h, joinF_snoc]
  simp [h]
theorem joinF_mono (k : UInt8) (ps : List (List UInt8)) (i : Nat) : (joinF k (ps.take i)).length ≤ (joinF k ps).length := by
  have : joinF k ps = joinF k (ps.take i) ++ (ps.drop i).flatMap jpartF := by
    unfold joinF
    rw [List.cons_append, ← List.flatMap_append, List.take_append_drop]
  rw [this]; simp
set_option maxRecDepth 100000 in
set_option maxHeartbeats 1000000 in
theorem parts_any (w : World) (k : UInt8) (v : Value) (ps : List (List UInt8)) (hv : ListIs w v ps) (hm : ps.length ≤ maxLen) (hms : ∀ i, i < ps.length → (ps.getD i []).length ≤ maxLen) (ht : Tabs w) :
    Calls Tryd.prog 8 #[.int .u8 (k.toNat : Int), v] w fun e w' => w.grownBy w' none ∧
      (((joinF k ps).length ≤ 4000 ∧ ∃ nb, w.heap.size ≤ nb ∧ e = .returned (.tuple #[.slice (some ⟨nb, 0, none⟩) 32 32, .int .i64 0]) ∧ Bytes w' nb (sumF (joinF k ps))) ∨
       (4000 < (joinF k ps).length ∧ e = .returned (.tuple #[.slice none 0 0, .int .i64 1]))) := by
  obtain ⟨a, cap, rfl, hc, hps⟩ := hv
  unfold maxLen at hm
  go_enter Tryd.func8, Tryd.ntmps8
  go_wp2_with fail
  go_loopw [6, 13] (fun j i wr => ∃ m : Nat, m ≤ ps.length ∧ i = .int .i64 (m : Int) ∧ Own w.heap.size wr j (joinF k (ps.take m)) ∧ (joinF k (ps.take m)).length ≤ 4000 ∧ w.grownBy wr none) (fun _ i _ => ps.length - (intOf i).toNat)
  case atStart => exact ⟨0, by omega, rfl, own_new w.heap.size w [k] (Nat.le_refl _) (by unfold maxLen; simp), by simp [joinF], grown_alloc (grown_refl _ _) _⟩
  case round =>
    obtain ⟨m, hmn, rfl, hown, hlen, hg⟩ := hrel
    obtain ⟨ja, jcap, rfl⟩ := hown.shape
    by_cases hlt : m < ps.length
    · obtain ⟨b, o, rfl, hcells⟩ : ∃ b o, a = some ⟨b, o, none⟩ ∧ ∀ i, i < ps.length → ∃ vi, w.cell? ⟨b, o + i, none⟩ = some vi ∧ SliceIs w vi (ps.getD i []) := by
        rcases hps with rfl | h
        · simp at hlt
        · exact h
      obtain ⟨vi, hvi, hsi⟩ := hcells m hlt
      have hpm := hms m hlt
      have HT : Hid (joinF k (ps.take (m + 1)) = joinF k (ps.take m) ++ jpartF (ps.getD m [])) := joinF_take k ps m hlt
      have HM : Hid ((joinF k (ps.take (m + 1))).length ≤ (joinF k ps).length) := joinF_mono k ps (m + 1)
      have hci := hg.cell hvi (by simp)
      generalize ps.getD m [] = P at *
      obtain ⟨pa, pcap, rfl, hpc, hpr⟩ := hsi
      have hsi : SliceIs w (.slice pa P.length pcap) P := ⟨pa, pcap, rfl, hpc, hpr⟩
      have HSI : Hid (SliceIs w (.slice pa P.length pcap) P) := hsi
      have hsz := hg.size
      have HI : Hid ((joinF k (ps.take m)).length ≤ 4000) := hlen
      generalize joinF k (ps.take m) = J at *
      have HPS : Hid (w.heap.size ≤ wr.heap.size) := hsz
      unfold maxLen at hpm
      clear hcells hvi hsi hpr hps hms hsz ht
      have i1 : (m : Int) < (ps.length : Int) := by omega
      by_cases hfit : P.length + 2 + J.length ≤ 4000
      · have i2 : (P.length : Int) ≤ 3998 - (J.length : Int) := by omega
        have HB1 : Hid (SliceIs (wr.alloc (.cells #[.int .u8 ((P.length : Int) / 256), .int .u8 ((P.length : Int) % 256)] 5)) (.slice (some ⟨wr.heap.size, 0, none⟩) 2 2) [UInt8.ofNat (P.length / 256), UInt8.ofNat P.length]) := by
          have e1 : ((P.length : Int) / 256) = ((UInt8.ofNat (P.length / 256)).toNat : Int) := by simp; omega
          have e2 : ((P.length : Int) % 256) = ((UInt8.ofNat P.length).toNat : Int) := by simp
          rw [e1, e2]
          exact two_slice _ _ _ _
        go_upto_region 8 with (at_builtin; refine wpList_append_bytes rfl (.tmp 23) (.tmp 31) rfl w.heap.size (.slice ja J.length jcap) J rfl (hown.alloc _) (some ⟨wr.heap.size, 0, none⟩) 2 2 _ rfl HB1.out (by omega) (by have := HPS.out; simp; omega) ?_; intro v1 w1 ho1 hg1)
        have hgw := grown_own (grown_alloc hg _) (hown.alloc _) hg1
        have HS1 : Hid (SliceIs w1 (.slice pa P.length pcap) P) := HSI.out.grown hgw
        have hsw := hgw.size
        obtain ⟨va, vcap, rfl⟩ := ho1.shape
        clear hown hci hg hg1 HB1 HSI HPS
        go_wp2_with (at_builtin; refine wpList_append_bytes rfl (.tmp 33) (.tmp 34) rfl w.heap.size _ _ rfl ho1 pa P.length pcap P rfl HS1.out (by simp; omega) hsw ?_; intro v2 w2 ho2 hg2)
        have hgw2 := grown_own hgw ho1 hg2
        go_roundw
        case rel =>
          have e : joinF k (ps.take (m + 1)) = J ++ [UInt8.ofNat (P.length / 256), UInt8.ofNat P.length] ++ P := by rw [HT.out]; simp [jpartF]
          refine ⟨m + 1, by omega, by go_num, ?_, ?_, hgw2⟩
          · rw [e]; exact ho2
          · rw [e]; simp; omega
        case measure => simp [intOf]; omega
      · have i2 : 3998 - (J.length : Int) < (P.length : Int) := by omega
        go_wp2
        go_ret2
        refine ⟨hg, .inr ⟨?_, rfl⟩⟩
        have h1 := HM.out
        rw [HT.out] at h1
        simp [jpartF_len] at h1
        omega
    · obtain rfl : m = ps.length := by omega
      rw [List.take_length] at hown hlen
      have hS := sum_any wr _ _ hown.slice hlen (ht.grownNone hg)
      go_wp2_with fail
      refine hS.mono ?_
      rintro e w2 ⟨nb, hnb, rfl, hb2, hg2⟩
      go_wp2
      go_ret2
      exact ⟨grown_trans hg hg2, .inl ⟨hlen, nb, Nat.le_trans hg.size hnb, rfl, hb2⟩⟩
end Go.Proofs.YtdpoickggdgddacDoor

/-
  The digest of a tree, by the document.
-/
namespace Go.Proofs.YtdpoickggdgddacDoor
def rootK : Nat → PL → List UInt8
  | 0, _ => []
  | f + 1, l => if l.length = 0 then sumF [0] else if l.length = 1 then sumF (joinF 1 [(l.getD 0 ([], [])).1, (l.getD 0 ([], [])).2])
    else sumF (joinF 2 [[UInt8.ofNat (forkBit l).toNat], rootK f (sideL l (forkBit l).toNat false), rootK f (sideL l (forkBit l).toNat true)])
/-- The digest of a tree. -/
def rootL (l : PL) : List UInt8 := rootK (l.length + 1) l
theorem rootK_fuel : ∀ (f : Nat) (l : PL), Tree l → l.length < f → rootK f l = rootL l
  | 0, _, _, h => by omega
  | f + 1, l, hT, h => by
    rw [rootL, rootK, rootK]
    by_cases h0 : l.length = 0
    · rw [if_pos h0, if_pos h0]
    · rw [if_neg h0, if_neg h0]
      by_cases h1 : l.length = 1
      · rw [if_pos h1, if_pos h1]
      · rw [if_neg h1, if_neg h1]
        have hs := sides_less hT (by omega)
        rw [rootK_fuel f _ (side_tree hT _ false) (by have := hs false; omega), rootK_fuel f _ (side_tree hT _ true) (by have := hs true; omega)]
        have key : ∀ x, rootK l.length (sideL l (forkBit l).toNat x) = rootL (sideL l (forkBit l).toNat x) := fun x => by
          obtain ⟨n, hn⟩ : ∃ n, l.length = n + 1 := ⟨l.length - 1, by omega⟩
          have hx := hs x
          rw [rootL]
          by_cases hf : l.length ≤ f
          · have e1 := rootK_fuel l.length (sideL l (forkBit l).toNat x) (side_tree hT _ x) hx
            rw [e1, rootL]
          · omega
        rw [key false, key true]
  termination_by f => f
theorem rootL_none (l : PL) (h : l.length = 0) : rootL l = sumF [0] := by rw [rootL, rootK, if_pos h]
theorem rootL_one (l : PL) (h : l.length = 1) : rootL l = sumF (joinF 1 [(l.getD 0 ([], [])).1, (l.getD 0 ([], [])).2]) := by rw [rootL, rootK, if_neg (by omega), if_pos h]
theorem rootL_fork (l : PL) (hT : Tree l) (h : 2 ≤ l.length) : rootL l = sumF (joinF 2 [[UInt8.ofNat (forkBit l).toNat], rootL (sideL l (forkBit l).toNat false), rootL (sideL l (forkBit l).toNat true)]) := by
  have hs := sides_less hT h
  rw [rootL, rootK, if_neg (by omega), if_neg (by omega), rootK_fuel _ _ (side_tree hT _ false) (hs false), rootK_fuel _ _ (side_tree hT _ true) (hs true)]
theorem rootL_len (l : PL) : (rootL l).length = 32 := by
  rw [rootL, rootK]
  by_cases h0 : l.length = 0
  · rw [if_pos h0]; exact sumF_len _
  · rw [if_neg h0]
    by_cases h1 : l.length = 1
    · rw [if_pos h1]; exact sumF_len _
    · rw [if_neg h1]; exact sumF_len _
/-- Root: an error, or the digest. -/
def rootF (l : PL) : List UInt8 := if pairsFaultF l = 0 then rootL l else []
theorem joinF_two (k : UInt8) (a b : List UInt8) : (joinF k [a, b]).length = a.length + b.length + 5 := by simp [joinF, jpartF]; omega
theorem joinF_three (k : UInt8) (a b c : List UInt8) : (joinF k [a, b, c]).length = a.length + b.length + c.length + 7 := by simp [joinF, jpartF]; omega
end Go.Proofs.YtdpoickggdgddacDoor

/-
  What tree.Root must keep.
-/
namespace Go.Proofs.YtdpoickggdgddacDoor
open Go.RowKit
/-- tree.Root keeps P3.6. -/
def TRootOK : Prop := ∀ (w : World) (v : Value) (l : PL), PairsIs w v l → Fits l → Tabs w → Calls Tryd.prog 7 #[v] w fun e w' => ∃ x, e = .returned (.tuple #[x, .int .i64 (pairsFaultF l)]) ∧ SliceIs w' x (rootF l) ∧ w.grownBy w' none
end Go.Proofs.YtdpoickggdgddacDoor

/-
  tree.Root, as it landed, keeps P3.6.
-/
namespace Go.Proofs.YtdpoickggdgddacDoor
open Go.RowKit
theorem plist_two (w : World) (t : TypeId) (v1 v2 : Value) (x y : List UInt8) (h1 : SliceIs w v1 x) (h2 : SliceIs w v2 y) (nb : Nat) (hnb : nb = w.heap.size) :
    ListIs (w.alloc (.cells #[v1, v2] t)) (.slice (some ⟨nb, 0, none⟩) 2 2) [x, y] := by
  subst hnb
  refine ⟨_, 2, rfl, by simp, .inr ⟨w.heap.size, 0, rfl, fun i hi => ?_⟩⟩
  match i, hi with
  | 0, _ => exact ⟨v1, by simp, h1.alloc _⟩
  | 1, _ => exact ⟨v2, by simp, h2.alloc _⟩
theorem plist_three (w : World) (t : TypeId) (v1 v2 v3 : Value) (x y z : List UInt8) (h1 : SliceIs w v1 x) (h2 : SliceIs w v2 y) (h3 : SliceIs w v3 z) (nb : Nat) (hnb : nb = w.heap.size) :
    ListIs (w.alloc (.cells #[v1, v2, v3] t)) (.slice (some ⟨nb, 0, none⟩) 3 3) [x, y, z] := by
  subst hnb
  refine ⟨_, 3, rfl, by simp, .inr ⟨w.heap.size, 0, rfl, fun i hi => ?_⟩⟩
  match i, hi with
  | 0, _ => exact ⟨v1, by simp, h1.alloc _⟩
  | 1, _ => exact ⟨v2, by simp, h2.alloc _⟩
  | 2, _ => exact ⟨v3, by simp, h3.alloc _⟩
/-- digest.Parts of parts that are short. -/
theorem parts_short (w : World) (k : UInt8) (v : Value) (ps : List (List UInt8)) (hv : ListIs w v ps) (hn : ps.length ≤ 10) (hs : ∀ i, i < ps.length → (ps.getD i []).length ≤ 40) (hj : (joinF k ps).length ≤ 4000) (ht : Tabs w) :
    Calls Tryd.prog 8 #[.int .u8 (k.toNat : Int), v] w fun e w' => ∃ x, e = .returned (.tuple #[x, .int .i64 0]) ∧ SliceIs w' x (sumF (joinF k ps)) ∧ w.grownBy w' none := by
  refine (parts_any w k v ps hv (by unfold maxLen; omega) (fun i hi => by have := hs i hi; unfold maxLen; omega) ht).mono ?_
  rintro e w1 ⟨hg, ⟨_, nb, hnb, rfl, hb⟩ | ⟨hbad, _⟩⟩
  · exact ⟨_, rfl, hb.slice32 (sumF_len _), hg⟩
  · omega
set_option maxRecDepth 100000 in
set_option maxHeartbeats 1000000 in
theorem root_any : ∀ (n : Nat) (w : World) (v : Value) (l : PL), l.length ≤ n → PairsIs w v l → Tree l → Tabs w →
    Calls Tryd.prog 14 #[v] w fun e w' => ∃ x, e = .returned (.tuple #[x, .int .i64 0]) ∧ SliceIs w' x (rootL l) ∧ w.grownBy w' none := by
  have none_case : ∀ (w : World) (a : Option Addr) (cap : Nat) (l : PL), l.length = 0 → Tabs w → Calls Tryd.prog 14 #[.slice a l.length cap] w fun e w' => ∃ x, e = .returned (.tuple #[x, .int .i64 0]) ∧ SliceIs w' x (rootL l) ∧ w.grownBy w' none := by
    intro w a cap l h0 ht
    rw [rootL_none l h0, h0]
    have PS : Hid (Calls Tryd.prog 8 #[.int .u8 0, .slice none 0 0] w fun e w' => ∃ x, e = .returned (.tuple #[x, .int .i64 0]) ∧ SliceIs w' x (sumF [0]) ∧ w.grownBy w' none) := by
      have := parts_short w 0 (.slice none 0 0) [] ⟨none, 0, rfl, by simp, .inl rfl⟩ (by simp) (by simp) (by simp [joinF]) ht
      show Calls _ _ _ _ _
      simpa [joinF] using this
    generalize sumF [0] = S at *
    go_enter Tryd.func14, Tryd.ntmps14
    go_wp2_with fail
    refine PS.out.mono ?_
    rintro e w1 ⟨x, rfl, hx, hg1⟩
    go_wp2
    go_ret2
    exact ⟨x, rfl, hx, hg1⟩
  intro n
  induction n with
  | zero =>
    intro w v l hn hv hT ht
    obtain ⟨a, cap, rfl⟩ := hv.shape
    exact none_case w a cap l (by omega) ht
  | succ n ih =>
    intro w v l hn hv hT ht
    have IH : Hid (∀ (w : World) (v : Value) (l : PL), l.length ≤ n → PairsIs w v l → Tree l → Tabs w → Calls Tryd.prog 14 #[v] w fun e w' => ∃ x, e = .returned (.tuple #[x, .int .i64 0]) ∧ SliceIs w' x (rootL l) ∧ w.grownBy w' none) := ih
    clear ih
    obtain ⟨a, cap, rfl⟩ := hv.shape
    by_cases h0 : l.length = 0
    · exact none_case w a cap l h0 ht
    · clear none_case
      by_cases h1 : l.length = 1
      · rw [rootL_one l h1]
        obtain ⟨b, o, rfl, hat⟩ := hv.at 0 (by omega)
        obtain ⟨vk, vv, c1, c2, s1, s2⟩ := hat
        rw [Nat.zero_mul, Nat.add_zero] at c1 c2
        have hp := hT.pairs l[0] (List.getElem_mem (by omega))
        rw [show l[0] = l.getD 0 ([], []) by simp [show 0 < l.length by omega]] at hp
        generalize l.getD 0 ([], []) = P at *
        rw [h1] at hv ⊢
        have PS : Hid (Calls Tryd.prog 8 #[.int .u8 1, .slice (some ⟨w.heap.size, 0, none⟩) 2 2] (w.alloc (.cells #[vk, vv] 22)).drew fun e w' => ∃ x, e = .returned (.tuple #[x, .int .i64 0]) ∧ SliceIs w' x (sumF (joinF 1 [P.1, P.2])) ∧ w.grownBy w' none) := by
          have hg := World.grownBy_alloc w (.cells #[vk, vv] 22) none
          refine (parts_short (w.alloc (.cells #[vk, vv] 22)).drew 1 (.slice (some ⟨w.heap.size, 0, none⟩) 2 2) [P.1, P.2] (plist_two w _ vk vv P.1 P.2 s1 s2 _ rfl) (by simp) ?_ (by rw [joinF_two]; omega) (ht.grownNone (grown_drew hg))).mono ?_
          · intro i hi
            match i, hi with
            | 0, _ => simp; omega
            | 1, _ => simp; omega
          · rintro e w1 ⟨x, rfl, hx, hg1⟩
            exact ⟨x, rfl, hx, grown_trans (grown_drew hg) hg1⟩
        obtain ⟨ak, ck, rfl⟩ := s1.shape
        obtain ⟨av, cv, rfl⟩ := s2.shape
        have e1 : w.drew.cell? ⟨b, o, none⟩ = some (.slice ak P.1.length ck) := c1
        have e2 : w.drew.cell? ⟨b, o + 1, none⟩ = some (.slice av P.2.length cv) := c2
        generalize sumF (joinF 1 [P.1, P.2]) = S at *
        clear s1 s2 hT hv
        go_enter Tryd.func14, Tryd.ntmps14
        go_wp2_with fail
        go_region_with (go_at_call 8; refine PS.out.mono ?_; rintro e w1 ⟨x, rfl, hx, hg1⟩)
        all_goals
          go_wp2
          go_ret2
          exact ⟨x, rfl, hx, hg1⟩
      · have h2 : 2 ≤ l.length := by omega
        rw [rootL_fork l hT h2]
        have FK : Hid (Calls Tryd.prog 21 #[.slice a l.length cap] w fun e w' => e = .returned (.tuple #[.int .i64 (forkBit l), .int .i64 (sideN l (forkBit l).toNat : Int), .int .i64 0]) ∧ w.grownBy w' none) := fork_any w _ l hv hT h2
        have hrange := forkBit_range hT h2
        have hsr := side_range hT h2
        have tF := side_tree hT (forkBit l).toNat false
        have tT := side_tree hT (forkBit l).toNat true
        have eF := side_false hT h2
        have eT := side_true hT h2
        obtain ⟨B, hB⟩ : ∃ B : Nat, forkBit l = (B : Int) := ⟨(forkBit l).toNat, by omega⟩
        have eB : (forkBit l).toNat = B := by omega
        have hB2 : B < 145 := by omega
        rw [eB] at tF tT eF eT hsr FK ⊢
        rw [hB] at FK
        rw [eF] at tF ⊢
        rw [eT] at tT ⊢
        generalize sideN l B = s at *
        have lF : (l.take s).length ≤ n := by simp; omega
        have lT : (l.drop s).length ≤ n := by simp; omega
        obtain ⟨a1, c1, q1, g1⟩ := pslice_h a cap l s (by omega) hv.cap
        obtain ⟨a2, c2, q2, g2⟩ := pslice_l a cap l s (by omega)
        have RL : Hid (∀ w', w.grownBy w' none → Calls Tryd.prog 14 #[.slice a1 s c1] w' fun e w'' => ∃ x, e = .returned (.tuple #[x, .int .i64 0]) ∧ SliceIs w'' x (rootL (l.take s)) ∧ w'.grownBy w'' none) := fun w' hg => IH.out w' _ _ lF (g1 w' (hv.grown hg)) tF (ht.grownNone hg)
        have RR : Hid (∀ w', w.grownBy w' none → Calls Tryd.prog 14 #[.slice a2 (l.length - s) c2] w' fun e w'' => ∃ x, e = .returned (.tuple #[x, .int .i64 0]) ∧ SliceIs w'' x (rootL (l.drop s)) ∧ w'.grownBy w'' none) := fun w' hg => IH.out w' _ _ lT (g2 w' (hv.grown hg)) tT (ht.grownNone hg)
        have rL := rootL_len (l.take s)
        have rR := rootL_len (l.drop s)
        generalize rootL (l.take s) = XL at *
        generalize rootL (l.drop s) = XR at *
        have HXL : Hid (XL.length = 32) := rL
        have HXR : Hid (XR.length = 32) := rR
        have HTB : Hid (Tabs w) := ht
        have DP : Hid (∀ (w' : World) (x y : Value), w.grownBy w' none → SliceIs w' x XL → SliceIs w' y XR → Calls Tryd.prog 8 #[.int .u8 2, .slice (some ⟨w'.heap.size + 1, 0, none⟩) 3 3] ((w'.alloc (.cells #[.int .u8 (B : Int)] 5)).alloc (.cells #[.slice (some ⟨w'.heap.size, 0, none⟩) 1 1, x, y] 22)) fun e w'' => ∃ z, e = .returned (.tuple #[z, .int .i64 0]) ∧ SliceIs w'' z (sumF (joinF 2 [[UInt8.ofNat B], XL, XR])) ∧ w'.grownBy w'' none) := by
          intro w' x y hg hx hy
          have hone : SliceIs (w'.alloc (.cells #[.int .u8 (B : Int)] 5)) (.slice (some ⟨w'.heap.size, 0, none⟩) 1 1) [UInt8.ofNat B] := by
            have := one_slice w' (UInt8.ofNat B) 5
            rw [show (((UInt8.ofNat B).toNat : Nat) : Int) = (B : Int) by simp; omega] at this
            exact this
          have hgg : w'.grownBy ((w'.alloc (.cells #[.int .u8 (B : Int)] 5)).alloc (.cells #[.slice (some ⟨w'.heap.size, 0, none⟩) 1 1, x, y] 22)) none := grown_alloc (World.grownBy_alloc _ _ _) _
          refine (parts_short _ 2 _ [[UInt8.ofNat B], XL, XR] (plist_three _ _ _ _ _ [UInt8.ofNat B] XL XR hone (hx.alloc _) (hy.alloc _) _ (by simp)) (by simp) ?_ (by rw [joinF_three, HXL.out, HXR.out]; simp) (HTB.out.grownNone (grown_trans hg hgg))).mono ?_
          · intro i hi
            have h1 := HXL.out
            have h2 := HXR.out
            match i, hi with
            | 0, _ => simp
            | 1, _ => simp [h1]
            | 2, _ => simp [h2]
          · rintro e w1 ⟨z, rfl, hz, hg1⟩
            exact ⟨z, rfl, hz, grown_trans hgg hg1⟩
        generalize sumF (joinF 2 [[UInt8.ofNat B], XL, XR]) = S at *
        clear rL rR hB hv hrange eB g1 g2 eF eT tF tT lF lT hT ht IH HTB
        have t0 : ((l.length : Int) == 0) = false := by rw [beq_eq_false_iff_ne]; omega
        have t1 : ((l.length : Int) == 1) = false := by rw [beq_eq_false_iff_ne]; omega
        go_enter Tryd.func14, Tryd.ntmps14
        go_wp2_with fail
        refine FK.out.mono ?_
        rintro e w1 ⟨rfl, hg1⟩
        go_wp2_with fail
        refine (RL.out _ hg1).mono ?_
        rintro e w2 ⟨x, rfl, hx, hg2⟩
        obtain ⟨xa, xc, rfl⟩ := hx.shape
        have hg12 := grown_trans hg1 hg2
        go_wp2_with fail
        refine (RR.out _ hg12).mono ?_
        rintro e w3 ⟨y, rfl, hy, hg3⟩
        obtain ⟨ya, yc, rfl⟩ := hy.shape
        have hg13 := grown_trans hg12 hg3
        go_wp2_with fail
        refine (DP.out w3 _ _ hg13 (hx.grown hg3) hy).mono ?_
        rintro e w4 ⟨z, rfl, hz, hg4⟩
        go_wp2
        go_ret2
        exact ⟨z, rfl, hz, grown_trans hg13 hg4⟩
set_option maxRecDepth 100000 in
set_option maxHeartbeats 1000000 in
theorem troot_ok : TRootOK := by
  intro w v l hv hl ht
  have CL : Hid (Calls Tryd.prog 13 #[v] w fun e w' => e = .returned (.int .i64 (pairsFaultF l)) ∧ w.grownBy w' none) := tcheck_ok w v l hv hl
  obtain ⟨a, cap, rfl⟩ := hv.shape
  by_cases hz : pairsFaultF l = 0
  · have hT := (tree_iff l).1 hz
    have hF : rootF l = rootL l := by rw [rootF, if_pos hz]
    have RT : Hid (∀ w', w.grownBy w' none → Calls Tryd.prog 14 #[.slice a l.length cap] w' fun e w'' => ∃ x, e = .returned (.tuple #[x, .int .i64 0]) ∧ SliceIs w'' x (rootL l) ∧ w'.grownBy w'' none) := fun w' hg => root_any l.length w' _ l (Nat.le_refl _) (hv.grown hg) hT (ht.grownNone hg)
    rw [hz] at CL ⊢
    rw [hF]
    generalize rootL l = R at *
    clear hz hF hT hv ht
    go_enter Tryd.func7, Tryd.ntmps7
    go_wp2_with fail
    refine CL.out.mono ?_
    rintro e w1 ⟨rfl, hg1⟩
    go_wp2_with fail
    refine (RT.out _ hg1).mono ?_
    rintro e w2 ⟨x, rfl, hx, hg2⟩
    go_wp2
    go_ret2
    exact ⟨x, rfl, hx, grown_trans hg1 hg2⟩
  · have hF : rootF l = [] := by rw [rootF, if_neg hz]
    rw [hF]
    generalize pairsFaultF l = z at *
    have hz' : (z != 0) = true := by simpa using hz
    clear hF hv ht
    go_enter Tryd.func7, Tryd.ntmps7
    go_wp2_with fail
    refine CL.out.mono ?_
    rintro e w1 ⟨rfl, hg1⟩
    go_wp2
    go_ret2
    exact ⟨_, rfl, sliceIs_nil _, hg1⟩
end Go.Proofs.YtdpoickggdgddacDoor

/-
  A tree out of raw items. No program is named.
-/
namespace Go.Proofs.YtdpoickggdgddacDoor
/-- A pair out of an item. -/
def itemP (it : Pr) : Pr := (keyF it.1, it.2.take 32)
theorem itemP_ok (it : Pr) : (1 ≤ (itemP it).1.length ∧ (itemP it).1.length ≤ 16) ∧ (itemP it).2.length ≤ 32 := by
  refine ⟨keyF_len it.1, ?_⟩
  simp [itemP]; omega
/-- The tree of items. -/
def mkT (l : PL) : PL := l.foldl (fun t it => putL t (itemP it)) []
theorem mkT_snoc (l : PL) (it : Pr) : mkT (l ++ [it]) = putL (mkT l) (itemP it) := by simp [mkT]
theorem mkT_take (l : PL) (m : Nat) (h : m < l.length) : mkT (l.take (m + 1)) = putL (mkT (l.take m)) (itemP (l.getD m ([], []))) := by
  rw [List.take_succ_eq_append_getElem h, mkT_snoc]; simp [h]
theorem put_pairs (t : PL) (p : Pr) (h : ∀ q ∈ t, (1 ≤ q.1.length ∧ q.1.length ≤ 16) ∧ q.2.length ≤ 32) (hp : (1 ≤ p.1.length ∧ p.1.length ≤ 16) ∧ p.2.length ≤ 32) : ∀ q ∈ putL t p, (1 ≤ q.1.length ∧ q.1.length ≤ 16) ∧ q.2.length ≤ 32 := by
  intro q hq
  rcases mem_put t p q hq with rfl | hq
  · exact hp
  · exact h q hq
theorem mkT_pre (l : PL) (n : Nat) (hn : l.length ≤ n) (h60 : n ≤ 60) : Tree (mkT l) ∧ (mkT l).length ≤ l.length := by
  suffices H : ∀ (l t : PL), Rises t → (∀ q ∈ t, (1 ≤ q.1.length ∧ q.1.length ≤ 16) ∧ q.2.length ≤ 32) → Rises (l.foldl (fun t it => putL t (itemP it)) t) ∧ (∀ q ∈ l.foldl (fun t it => putL t (itemP it)) t, (1 ≤ q.1.length ∧ q.1.length ≤ 16) ∧ q.2.length ≤ 32) ∧ (l.foldl (fun t it => putL t (itemP it)) t).length ≤ t.length + l.length by
    obtain ⟨h1, h2, h3⟩ := H l [] List.Pairwise.nil (by simp)
    have h4 : (mkT l).length ≤ l.length := by
      unfold mkT
      simpa using h3
    exact ⟨⟨by omega, h2, h1⟩, h4⟩
  intro l
  induction l with
  | nil => intro t h1 h2; exact ⟨h1, h2, by simp⟩
  | cons it r ih =>
    intro t h1 h2
    obtain ⟨g1, g2, g3⟩ := ih (putL t (itemP it)) (put_rises t _ h1) (put_pairs t _ h2 (itemP_ok it))
    refine ⟨g1, g2, Nat.le_trans g3 ?_⟩
    have := put_len t (itemP it)
    simp; omega
theorem mkT_tree (l : PL) (n : Nat) (hn : n ≤ 60) : Tree (mkT (l.take n)) := (mkT_pre _ n (by simp; omega) hn).1
theorem mkT_len (l : PL) (n : Nat) (hn : n ≤ 60) : (mkT (l.take n)).length ≤ n := Nat.le_trans (mkT_pre (l.take n) n (by simp; omega) hn).2 (by simp; omega)
/-- Put, by the place where it comes to stand. -/
theorem put_pos : ∀ (t : PL) (p : Pr) (k : Nat), k ≤ t.length → (∀ j, j < k → klt (t.getD j ([], [])).1 p.1 = true) → (k < t.length → klt (t.getD k ([], [])).1 p.1 = false) →
    putL t p = if k < t.length ∧ (t.getD k ([], [])).1 = p.1 then t.set k p else t.take k ++ ([p] ++ t.drop k)
  | [], p, k, hk, _, _ => by
    obtain rfl : k = 0 := by simpa using hk
    simp [putL]
  | q :: r, p, 0, _, _, h2 => by
    have h := h2 (by simp)
    simp only [List.getD_cons_zero] at h
    rw [putL, if_neg (by rw [h]; simp)]
    by_cases e : q.1 = p.1
    · rw [if_pos e, if_pos ⟨by simp, by simpa using e⟩]; simp
    · rw [if_neg e, if_neg (fun h => e (by simpa using h.2))]; simp
  | q :: r, p, k + 1, hk, h1, h2 => by
    have h := h1 0 (by omega)
    simp only [List.getD_cons_zero] at h
    rw [putL, if_pos h, put_pos r p k (by simpa using hk) (fun j hj => by simpa using h1 (j + 1) (by omega)) (fun hk => by simpa using h2 (by simpa using hk))]
    by_cases e : k < r.length ∧ (r.getD k ([], [])).1 = p.1
    · rw [if_pos e, if_pos ⟨by simpa using e.1, by simpa using e.2⟩]; simp
    · rw [if_neg e, if_neg (fun h => e ⟨by simpa using h.1, by simpa using h.2⟩)]; simp
end Go.Proofs.YtdpoickggdgddacDoor

/-
  What canopykeep.Pairs keeps.
-/
namespace Go.Proofs.YtdpoickggdgddacDoor
open Go.RowKit
def KMakeOK : Prop := ∀ (w : World) (v : Value) (l : PL) (n : Nat), PairsIs w v l → Fits l → n ≤ 60 →
    Calls Tryd.prog 11 #[v, .int .i64 (n : Int)] w fun e w' => ∃ v', e = .returned v' ∧ OwnP w.heap.size w' v' (mkT (l.take n)) ∧ w.grownBy w' none
end Go.Proofs.YtdpoickggdgddacDoor

/-
  Trees that are put to and taken from: what the laws of canopykeep rest on. No program is named.
-/
namespace Go.Proofs.YtdpoickggdgddacDoor
theorem putE_ok (t : PL) (p : Pr) (h : Tree t) (hp : (1 ≤ p.1.length ∧ p.1.length ≤ 16) ∧ p.2.length ≤ 32) (hl : t.length < 60) : putE t p = 0 ∧ putF t p = putL t p ∧ Tree (putL t p) := by
  have h0 : putE0 t p = 0 := by rw [putE0, if_pos ((tree_iff t).2 h)]; exact (pairFault_iff p).2 hp
  have hlen := put_len t p
  have h1 : putE t p = 0 := by rw [putE, if_pos h0, if_neg (by omega)]
  exact ⟨h1, by rw [putF, if_pos h1], ⟨by omega, put_pairs t p h.pairs hp, put_rises t p h.rises⟩⟩
theorem delF_ok (t : PL) (k : List UInt8) (h : Tree t) (hk : 1 ≤ k.length ∧ k.length ≤ 16) : getE t k = 0 ∧ delF t k = delL t k ∧ Tree (delL t k) := by
  have h1 := getE_ok h hk
  refine ⟨h1, by rw [delF, if_pos h1], ⟨Nat.le_trans (del_len t k) h.room, fun p hp => h.pairs p (List.mem_filter.1 hp).1, del_rises t k h.rises⟩⟩
theorem rangeF_ok (t : PL) (f u : List UInt8) (h : Tree t) (hf : 1 ≤ f.length ∧ f.length ≤ 16) (hu : 1 ≤ u.length ∧ u.length ≤ 16) : rangeE t f u = 0 ∧ rangeF t f u = rangeL t f u ∧ Tree (rangeL t f u) := by
  have h1 : rangeE t f u = 0 := by rw [rangeE, if_pos (getE_ok h hf)]; exact (keyFault_iff _).2 hu
  refine ⟨h1, by rw [rangeF, if_pos h1], ⟨Nat.le_trans (range_len t f u) h.room, fun p hp => h.pairs p (List.mem_filter.1 hp).1, range_rises t f u h.rises⟩⟩
theorem get_ok (t : PL) (k : List UInt8) (h : Tree t) (hk : 1 ≤ k.length ∧ k.length ≤ 16) : getE t k = 0 ∧ getB t k = (getF t k).isSome ∧ getV t k = (getF t k).getD [] := by
  have h1 := getE_ok h hk
  exact ⟨h1, by rw [getB, h1]; simp, by rw [getV, if_pos h1]⟩
theorem tree_fault (t : PL) (h : Tree t) : pairsFaultF t = 0 := (tree_iff t).2 h
theorem put_comm (t : PL) (p q : Pr) (h : Rises t) (hne : p.1 ≠ q.1) : putL (putL t p) q = putL (putL t q) p := by
  refine rises_ext _ _ (put_rises _ _ (put_rises _ _ h)) (put_rises _ _ (put_rises _ _ h)) fun k => ?_
  rw [get_put _ _ _ (put_rises _ _ h), get_put _ _ _ h, get_put _ _ _ (put_rises _ _ h), get_put _ _ _ h]
  by_cases h1 : q.1 = k
  · rw [if_pos h1, if_pos h1, if_neg (fun h2 => hne (h2.trans h1.symm))]
  · rw [if_neg h1, if_neg h1]
theorem put_same (t : PL) (p q : Pr) (h : Rises t) (he : p.1 = q.1) : putL (putL t p) q = putL t q := by
  refine rises_ext _ _ (put_rises _ _ (put_rises _ _ h)) (put_rises _ _ h) fun k => ?_
  rw [get_put _ _ _ (put_rises _ _ h), get_put _ _ _ h, get_put _ _ _ h]
  by_cases h1 : q.1 = k
  · rw [if_pos h1, if_pos h1]
  · rw [if_neg h1, if_neg h1, if_neg (by rw [he]; exact h1)]
theorem del_put (t : PL) (p : Pr) (h : Rises t) : delL (putL t p) p.1 = delL t p.1 := by
  refine rises_ext _ _ (del_rises _ _ (put_rises _ _ h)) (del_rises _ _ h) fun k => ?_
  rw [get_del, get_del, get_put _ _ _ h]
  by_cases h1 : p.1 = k
  · rw [if_pos h1, if_pos h1]
  · rw [if_neg h1, if_neg h1, if_neg h1]
theorem put_some (t : PL) (p : Pr) : putL t p ≠ [] := by
  cases t with
  | nil => simp [putL]
  | cons q r =>
    rw [putL]
    by_cases h1 : klt q.1 p.1 = true
    · rw [if_pos h1]; simp
    · rw [if_neg h1]
      by_cases h2 : q.1 = p.1
      · rw [if_pos h2]; simp
      · rw [if_neg h2]; simp
theorem del_none (t : PL) (k : List UInt8) (h : getF t k = none) : delL t k = t := by
  induction t with
  | nil => rfl
  | cons q r ih =>
    rw [get_cons] at h
    by_cases e : q.1 = k
    · rw [if_pos e] at h; cases h
    · rw [if_neg e] at h
      have := ih h
      unfold delL at this ⊢
      rw [List.filter_cons_of_pos (by simp [e]), this]
theorem put_len_new (t : PL) (p : Pr) (h : getF t p.1 = none) : (putL t p).length = t.length + 1 := by
  induction t with
  | nil => simp [putL]
  | cons q r ih =>
    rw [get_cons] at h
    by_cases e : q.1 = p.1
    · rw [if_pos e] at h; cases h
    · rw [if_neg e] at h
      rw [putL]
      by_cases h1 : klt q.1 p.1 = true
      · rw [if_pos h1]; simp [ih h]
      · rw [if_neg h1, if_neg e]; simp
theorem del_len_old (t : PL) (k : List UInt8) (hr : Rises t) (h : (getF t k).isSome = true) : (delL t k).length + 1 = t.length := by
  induction t with
  | nil => simp [getF] at h
  | cons q r ih =>
    have hp := List.pairwise_cons.1 hr
    rw [get_cons] at h
    by_cases e : q.1 = k
    · have hn : getF r k = none := get_head_none r k fun p hp' => by rw [← e]; exact hp.1 p hp'
      have := del_none r k hn
      unfold delL at this ⊢
      rw [List.filter_cons_of_neg (by simp [e]), this]; simp
    · rw [if_neg e] at h
      have := ih hp.2 h
      unfold delL at this ⊢
      rw [List.filter_cons_of_pos (by simp [e])]
      simp; omega
end Go.Proofs.YtdpoickggdgddacDoor

/-
  The walk of canopykeep.same.
-/
namespace Go.Proofs.YtdpoickggdgddacDoor
open Go.RowKit
theorem same_any (w : World) (v1 v2 : Value) (b1 b2 : List UInt8) (h1 : SliceIs w v1 b1) (h2 : SliceIs w v2 b2) :
    Calls Tryd.prog 9 #[v1, v2] w fun e w' => e = .returned (.bool (decide (b1 = b2))) ∧ w' = w := by
  have c1 := conv_bytes w v1 b1 h1
  have c2 := conv_bytes w v2 b2 h2
  go_enter Tryd.func9, Tryd.ntmps9
  go_wp2
  go_ret
  refine ⟨?_, rfl⟩
  have e : ((textOf b1).toList == (textOf b2).toList) = decide (b1 = b2) := by rw [textOf_list, textOf_list]; by_cases h : b1 = b2 <;> simp [h]
  rw [← e]
  rfl
end Go.Proofs.YtdpoickggdgddacDoor

/-
  A beginning of a list of pairs, with no room behind it: l[:n:n].
-/
namespace Go.Proofs.YtdpoickggdgddacDoor
open Go.RowKit
theorem pslice_hm (a : Option Addr) (cap : Nat) (l : PL) (n : Nat) (hn : n ≤ l.length) (hc : l.length ≤ cap) : ∃ a1, (∀ W, (Instr.slice 31 (.slice a l.length cap) none (some (.int .i64 (n : Int))) (some (.int .i64 (n : Int)))).run Tryd.prog W = .ok (.slice a1 n n) W) ∧ ∀ W, PairsIs W (.slice a l.length cap) l → PairsIs W (.slice a1 n n) (l.take n) := by
  refine ⟨if n = 0 then a else a.map (·.add (0 * 2)), fun W => ?_, fun W h => ?_⟩
  · rw [run_slice_any _ _ _ _ _ (by kernel_rfl)]
    simp only [Instr.sliceBounds, Sem.run_bind, Sem.run_pure, Result.andThen]
    have hb : ∀ (y : Nat) (code : BoundsCode), n ≤ y → (Instr.sliceBound (.int .i64 (n : Int)) y code).run Tryd.prog W = .ok n W := fun y code hy => by
      rw [run_sliceBound _ _ _ _ _ (by omega) (by omega)]; simp
    simp [hb, sizePair, Go.sliced, show n ≤ cap by omega]
  · obtain ⟨a', cap', e, hc', h⟩ := h
    simp only [Value.slice.injEq, true_and] at e
    obtain ⟨rfl, rfl⟩ := e
    have hlen : (l.take n).length = n := by simp; omega
    refine ⟨_, n, by rw [hlen], by rw [hlen]; exact Nat.le_refl _, ?_⟩
    by_cases h0 : n = 0
    · left
      exact ⟨by rw [h0]; simp, fun _ => h0⟩
    · rw [if_neg h0]
      rcases h with ⟨rfl, _⟩ | ⟨b, o, rfl, h⟩
      · simp at hn; omega
      · right
        refine ⟨b, o, by simp [addr_add], fun k hk => ?_⟩
        rw [hlen] at hk
        have := h k (by omega)
        have e : (l.take n).getD k ([], []) = l.getD k ([], []) := by simp [hk]
        rw [e]; exact this
end Go.Proofs.YtdpoickggdgddacDoor

/-
  The walk of canopykeep.RootSides, over what the code must keep.
-/
namespace Go.Proofs.YtdpoickggdgddacDoor
open Go.RowKit
/-- digest.Parts of a fork: a byte, and two digests. -/
theorem forkParts (w : World) (B : Nat) (hB : B < 145) (x y : Value) (X Y : List UInt8) (hx : SliceIs w x X) (hy : SliceIs w y Y) (hX : X.length = 32) (hY : Y.length = 32) (ht : Tabs w) :
    Calls Tryd.prog 8 #[.int .u8 2, .slice (some ⟨w.heap.size + 1, 0, none⟩) 3 3] ((w.alloc (.cells #[.int .u8 (B : Int)] 5)).alloc (.cells #[.slice (some ⟨w.heap.size, 0, none⟩) 1 1, x, y] 22)) fun e w'' => ∃ z, e = .returned (.tuple #[z, .int .i64 0]) ∧ SliceIs w'' z (sumF (joinF 2 [[UInt8.ofNat B], X, Y])) ∧ w.grownBy w'' none := by
  have hone : SliceIs (w.alloc (.cells #[.int .u8 (B : Int)] 5)) (.slice (some ⟨w.heap.size, 0, none⟩) 1 1) [UInt8.ofNat B] := by
    have := one_slice w (UInt8.ofNat B) 5
    rw [show (((UInt8.ofNat B).toNat : Nat) : Int) = (B : Int) by simp; omega] at this
    exact this
  have hgg : w.grownBy ((w.alloc (.cells #[.int .u8 (B : Int)] 5)).alloc (.cells #[.slice (some ⟨w.heap.size, 0, none⟩) 1 1, x, y] 22)) none := grown_alloc (World.grownBy_alloc _ _ _) _
  refine (parts_short _ 2 _ [[UInt8.ofNat B], X, Y] (plist_three _ _ _ _ _ [UInt8.ofNat B] X Y hone (hx.alloc _) (hy.alloc _) _ (by simp)) (by simp) ?_ (by rw [joinF_three, hX, hY]; simp) (ht.grownNone hgg)).mono ?_
  · intro i hi
    match i, hi with
    | 0, _ => simp
    | 1, _ => simp [hX]
    | 2, _ => simp [hY]
  · rintro e w1 ⟨z, rfl, hz, hg1⟩
    exact ⟨z, rfl, hz, grown_trans hgg hg1⟩
/-- tree.Root of a tree. -/
theorem TRootOK.of (hR : TRootOK) (w : World) (v : Value) (l : PL) (hv : PairsIs w v l) (hT : Tree l) (ht : Tabs w) :
    Calls Tryd.prog 7 #[v] w fun e w' => ∃ x, e = .returned (.tuple #[x, .int .i64 0]) ∧ SliceIs w' x (rootL l) ∧ w.grownBy w' none := by
  have := hR w v l hv hT.fits ht
  rw [tree_fault l hT, rootF, if_pos (tree_fault l hT)] at this
  exact this
set_option maxRecDepth 100000 in
set_option maxHeartbeats 2000000 in
theorem rootSides_walk (hM : KMakeOK) (hR : TRootOK) (hPt : PartOK) (hBt : BitOK) (w : World) (v : Value) (l : PL) (hv : PairsIs w v l) (hl : Fits l) (ht : Tabs w) :
    Calls Tryd.prog 4 #[v] w fun e w' => e = .returned (.bool true) ∧ w.grownBy w' none := by
  have hT := mkT_tree l 16 (by omega)
  have hTl := mkT_len l 16 (by omega)
  have HM : Hid (Calls Tryd.prog 11 #[v, .int .i64 16] w fun e w' => ∃ v', e = .returned v' ∧ OwnP w.heap.size w' v' (mkT (l.take 16)) ∧ w.grownBy w' none) := hM w v l 16 hv hl (by omega)
  generalize mkT (l.take 16) = PS at *
  clear hM hv hl
  have HR1 : Hid (∀ w' v', w.grownBy w' none → PairsIs w' v' PS → Calls Tryd.prog 7 #[v'] w' fun e w'' => ∃ x, e = .returned (.tuple #[x, .int .i64 0]) ∧ SliceIs w'' x (rootL PS) ∧ w'.grownBy w'' none) := fun w' v' hg h => TRootOK.of hR w' v' PS h hT (ht.grownNone hg)
  have rl0 := rootL_len PS
  by_cases h2 : 2 ≤ PS.length
  · have hrange := forkBit_range hT h2
    have hsr := side_range hT h2
    have hpart := fork_part hT h2
    have hbit := fun j hj => bit_side hT h2 j hj
    have tF := side_tree hT (forkBit PS).toNat false
    have tT := side_tree hT (forkBit PS).toNat true
    have eF := side_false hT h2
    have eT := side_true hT h2
    have eR := rootL_fork PS hT h2
    obtain ⟨B, hB⟩ : ∃ B : Nat, forkBit PS = (B : Int) := ⟨(forkBit PS).toNat, by omega⟩
    have eB : (forkBit PS).toNat = B := by omega
    have hB2 : B < 145 := by omega
    rw [eB] at tF tT eF eT hsr hbit eR
    rw [hB] at hpart
    rw [eF] at tF eR
    rw [eT] at tT eR
    generalize sideN PS B = s at *
    have HR2 : Hid (∀ w' v', w.grownBy w' none → PairsIs w' v' (PS.take s) → Calls Tryd.prog 7 #[v'] w' fun e w'' => ∃ x, e = .returned (.tuple #[x, .int .i64 0]) ∧ SliceIs w'' x (rootL (PS.take s)) ∧ w'.grownBy w'' none) := fun w' v' hg h => TRootOK.of hR w' v' _ h tF (ht.grownNone hg)
    have HR3 : Hid (∀ w' v', w.grownBy w' none → PairsIs w' v' (PS.drop s) → Calls Tryd.prog 7 #[v'] w' fun e w'' => ∃ x, e = .returned (.tuple #[x, .int .i64 0]) ∧ SliceIs w'' x (rootL (PS.drop s)) ∧ w'.grownBy w'' none) := fun w' v' hg h => TRootOK.of hR w' v' _ h tT (ht.grownNone hg)
    have HDP : Hid (∀ (w' : World) (x y : Value), w.grownBy w' none → SliceIs w' x (rootL (PS.take s)) → SliceIs w' y (rootL (PS.drop s)) → Calls Tryd.prog 8 #[.int .u8 2, .slice (some ⟨w'.heap.size + 1, 0, none⟩) 3 3] ((w'.alloc (.cells #[.int .u8 (B : Int)] 5)).alloc (.cells #[.slice (some ⟨w'.heap.size, 0, none⟩) 1 1, x, y] 22)) fun e w'' => ∃ z, e = .returned (.tuple #[z, .int .i64 0]) ∧ SliceIs w'' z (rootL PS) ∧ w'.grownBy w'' none) := fun w' x y hg hx hy => by
      rw [eR]
      exact forkParts w' B hB2 x y _ _ hx hy (rootL_len _) (rootL_len _) (ht.grownNone hg)
    have HKEY : Hid (∀ j, j < PS.length → 1 ≤ (PS.getD j ([], [])).1.length ∧ (PS.getD j ([], [])).1.length ≤ 16) := fun j hj => hT.key j hj
    have HBIT : Hid (∀ (w' : World) (v' : Value) (j : Nat), j < PS.length → SliceIs w' v' (PS.getD j ([], [])).1 → Calls Tryd.prog 12 #[v', .int .i64 (B : Int)] w' fun e w'' => e = .returned (.tuple #[.bool (decide (s ≤ j)), .int .i64 0]) ∧ w'.grownBy w'' none) := fun w' v' j hj h => by
      have := BitOK.of hBt w' v' _ B h (hT.key j hj) hB2
      rw [hbit j hj] at this
      exact this
    have HPART : Hid (∀ (w' : World) (v1 v2 : Value), SliceIs w' v1 (PS.getD 0 ([], [])).1 → SliceIs w' v2 (PS.getD (PS.length - 1) ([], [])).1 → Calls Tryd.prog 10 #[v1, v2] w' fun e w'' => e = .returned (.tuple #[.int .i64 (B : Int), .int .i64 0]) ∧ w'.grownBy w'' none) := fun w' v1 v2 h1 h2' => by
      have := PartOK.of hPt w' v1 v2 _ _ h1 h2' (hT.key 0 (by omega)) (hT.key _ (by omega))
      rw [hpart] at this
      exact this
    have hroom := hT.room
    have HRL : Hid ((rootL PS).length = 32) := rl0
    generalize rootL (PS.take s) = XL at *
    generalize rootL (PS.drop s) = XR at *
    generalize rootL PS = X at *
    clear hrange hpart hbit tF tT eF eT eR hB eB hR hPt hBt ht hT rl0
    obtain ⟨s1, s2⟩ := hsr
    have t1 : (2 : Int) ≤ (PS.length : Int) := by omega
    go_enter Tryd.func4, Tryd.ntmps4
    go_wp2_with fail
    refine HM.out.mono ?_
    rintro e w1 ⟨v1, rfl, ho1, hg1⟩
    obtain ⟨a1, c1, rfl⟩ := ho1.shape
    have HL : Hid (PairsIs w1 (.slice a1 PS.length c1) PS) := ho1.list
    clear ho1
    obtain ⟨m, hm⟩ : ∃ m, PS.length = m + 1 := ⟨PS.length - 1, by omega⟩
    obtain ⟨pb, po, rfl, hat0⟩ := HL.out.at 0 (by omega)
    obtain ⟨pb2, po2, e, hatm⟩ := HL.out.at m (by omega)
    cases e
    obtain ⟨vk, vv, x1, _, u1, _⟩ := hat0
    obtain ⟨uk, uv, x2, _, u2, _⟩ := hatm
    rw [Nat.zero_mul, Nat.add_zero] at x1
    have PT : Hid (Calls Tryd.prog 10 #[vk, uk] w1.drew fun e w' => e = .returned (.tuple #[.int .i64 (B : Int), .int .i64 0]) ∧ w1.drew.grownBy w' none) := HPART.out w1.drew vk uk u1.drew (by rw [show PS.length - 1 = m by omega]; exact u2.drew)
    obtain ⟨ka, kc, rfl⟩ := u1.shape
    obtain ⟨ua, uc, rfl⟩ := u2.shape
    generalize (PS.getD 0 ([], [])).1.length = k0 at *
    generalize (PS.getD m ([], [])).1.length = km at *
    have y1 : w1.drew.cell? ⟨pb, po, none⟩ = some (.slice ka k0 kc) := x1
    have y2 : w1.drew.cell? ⟨pb, po + m * 2, none⟩ = some (.slice ua km uc) := x2
    have hm1 : m + 1 ≤ PS.length := by omega
    have hm2 : PS.length ≤ m + 1 := by omega
    have HN : Hid (PS.length = PS.length) := rfl
    clear hm u1 u2 x1 x2 HPART HM
    generalize hL : PS.length = L at *
    have HLn : Hid (PS.length = L) := hL
    clear hL HN
    have i0 : (0 : Int) < (L : Int) := by omega
    have i0' : 0 < L := by omega
    have i1 : (m : Int) < (L : Int) := by omega
    have i2 : IntKind.i64.wrap ((L : Int) - 1) = (m : Int) := by rw [IntKind.wrap_i64]; omega
    have hgd := grown_drew (grown_refl w1 none)
    go_upto_region 5 with fail
    go_region_held3 (fun w' => w'.cell? ⟨pb, po, none⟩ = some (.slice ka k0 kc) ∧ w'.cell? ⟨pb, po + m * 2, none⟩ = some (.slice ua km uc))
      (first | exact ⟨y1, y2⟩ | exact ⟨f2, f3⟩)
      (first | (go_at_call 10; refine PT.out.mono ?_; rintro e w2 ⟨rfl, hg2⟩; have f2 := hg2.cell y1 (by simp); have f3 := hg2.cell y2 (by simp)))
    have hg12 := grown_trans hgd hg2
    have hgw2 := grown_trans hg1 hg12
    have HL2 : Hid (PairsIs w2 (.slice (some ⟨pb, po, none⟩) L c1) PS) := HL.out.grown hg12
    clear f2 f3 y1 y2 PT hgd hg2 hg12 HL hm1 hm2 i1 i2
    go_wp2_with fail
    go_loopw [8] (fun si wr => ∃ i : Nat, i ≤ s ∧ si = .int .i64 (i : Int) ∧ w2.grownBy wr none) (fun si _ => L - (intOf si).toNat)
    case atStart => exact ⟨0, by omega, rfl, grown_refl _ _⟩
    case round =>
      obtain ⟨i, hi, rfl, hgr⟩ := hrel
      have t2 : (i : Int) < (L : Int) := by omega
      obtain ⟨qb, qo, e, hat⟩ := (HL2.out.grown hgr).at i (by rw [HLn.out]; omega)
      cases e
      obtain ⟨vk, vv, x1, _, u1, _⟩ := hat
      have BT : Hid (Calls Tryd.prog 12 #[vk, .int .i64 (B : Int)] wr fun e w'' => e = .returned (.tuple #[.bool (decide (s ≤ i)), .int .i64 0]) ∧ wr.grownBy w'' none) := HBIT.out wr vk i (by omega) u1
      obtain ⟨qa, qc, rfl⟩ := u1.shape
      generalize (PS.getD i ([], [])).1.length = ki at *
      clear u1
      by_cases his : s ≤ i
      · obtain rfl : i = s := by omega
        rw [decide_eq_true his] at BT
        go_wp2_with fail
        refine BT.out.mono ?_
        rintro e w3 ⟨rfl, hg3⟩
        have hg23 := grown_trans hgr hg3
        have HL3 : Hid (PairsIs w3 (.slice (some ⟨pb, po, none⟩) L c1) PS) := HL2.out.grown hg23
        have hcap := HL3.out.cap
        have hgw3 := grown_trans hgw2 hg23
        obtain ⟨b1, r1, g1⟩ := pslice_hm (some ⟨pb, po, none⟩) c1 PS i (by rw [HLn.out]; omega) hcap
        obtain ⟨b2, d2, r2, g2⟩ := pslice_l (some ⟨pb, po, none⟩) c1 PS i (by rw [HLn.out]; omega)
        rw [HLn.out] at r1 r2 g1 g2
        have TA : Hid (PairsIs w3 (.slice b1 i i) (PS.take i)) := g1 w3 HL3.out
        have TB : Hid (PairsIs w3 (.slice b2 (L - i) d2) (PS.drop i)) := g2 w3 HL3.out
        clear g1 g2 x1 BT his hcap
        go_wp2_with fail
        refine (HR2.out _ _ hgw3 TA.out).mono ?_
        rintro e w4 ⟨x4, rfl, h4, hg4⟩
        obtain ⟨a4, c4, rfl⟩ := h4.shape
        go_wp2_with fail
        refine (HR3.out _ _ (grown_trans hgw3 hg4) (TB.out.grown hg4)).mono ?_
        rintro e w5 ⟨x5, rfl, h5, hg5⟩
        obtain ⟨a5, c5, rfl⟩ := h5.shape
        have hg35 := grown_trans hg4 hg5
        go_wp2_with fail
        refine (HR1.out _ _ (grown_trans hgw3 hg35) (HL3.out.grown hg35)).mono ?_
        rintro e w6 ⟨x6, rfl, h6, hg6⟩
        obtain ⟨a6, c6, rfl⟩ := h6.shape
        have hg36 := grown_trans hg35 hg6
        go_wp2_with fail
        refine (HDP.out _ _ _ (grown_trans hgw3 hg36) (h4.grown (grown_trans hg5 hg6)) (h5.grown hg6)).mono ?_
        rintro e w7 ⟨x7, rfl, h7, hg7⟩
        obtain ⟨a7, c7, rfl⟩ := h7.shape
        have hg37 := grown_trans hg36 hg7
        have SM : Hid (Calls Tryd.prog 9 #[.slice a6 X.length c6, .slice a7 X.length c7] w7 fun e w' => e = .returned (.bool true) ∧ w' = w7) := by
          have := same_any w7 _ _ X X (h6.grown hg7) h7
          rw [decide_eq_true rfl] at this
          exact this
        have j1 : (0 : Int) < (i : Int) := by omega
        clear h4 h5 h6 h7 r1 r2 TA TB HR1 HR2 HR3 HDP
        go_wp2_with fail
        refine SM.out.mono ?_
        rintro e w8 ⟨rfl, rfl⟩
        go_wp2
        go_ret
        exact ⟨rfl, grown_trans hgw3 hg37⟩
      · rw [decide_eq_false his] at BT
        go_wp2_with fail
        refine BT.out.mono ?_
        rintro e w3 ⟨rfl, hg3⟩
        have hg23 := grown_trans hgr hg3
        go_wp2_with fail
        go_roundw
        case rel =>
          first
            | exact ⟨i + 1, by omega, by go_num, hg23⟩
            | ((repeat apply Exists.intro); refine ⟨⟨i + 1, by omega, ?_, hg23⟩, rfl⟩; go_num)
        case measure => simp [intOf]; omega
  · have HRL : Hid ((rootL PS).length = 32) := rl0
    have t1 : (PS.length : Int) < 2 := by omega
    generalize rootL PS = X at *
    clear hR hPt hBt ht hT rl0 h2
    go_enter Tryd.func4, Tryd.ntmps4
    go_wp2_with fail
    refine HM.out.mono ?_
    rintro e w1 ⟨v1, rfl, ho1, hg1⟩
    obtain ⟨a1, c1, rfl⟩ := ho1.shape
    go_wp2_with fail
    refine (HR1.out _ _ hg1 ho1.list).mono ?_
    rintro e w2 ⟨x2, rfl, h2, hg2⟩
    obtain ⟨a2, c2, rfl⟩ := h2.shape
    rw [HRL.out]
    go_wp2
    go_ret
    exact ⟨rfl, grown_trans hg1 hg2⟩
end Go.Proofs.YtdpoickggdgddacDoor

/-
  The walk of canopykeep.some.
-/
namespace Go.Proofs.YtdpoickggdgddacDoor
open Go.RowKit
theorem some_any (w : World) (v : Value) (bs : List UInt8) (most : Nat) (hm : most ≤ 100000) (hv : SliceIs w v bs) (hl : bs.length ≤ maxLen) :
    Calls Tryd.prog 6 #[v, .int .i64 (most : Int)] w fun e w' => ∃ v', e = .returned v' ∧ Own w.heap.size w' v' (bs.take most) ∧ w.grownBy w' none := by
  obtain ⟨a, cap, rfl, hc, hrest⟩ := hv
  have hv : SliceIs w (.slice a bs.length cap) bs := ⟨a, cap, rfl, hc, hrest⟩
  clear hrest
  unfold maxLen at hl
  by_cases hlt : bs.length ≤ most
  · have hs := hv.take bs.length (Nat.le_refl _)
    rw [List.take_length] at hs
    rw [List.take_of_length_le hlt]
    have i1 : (bs.length : Int) ≤ (most : Int) := by omega
    go_enter Tryd.func6, Tryd.ntmps6
    go_wp2_with (at_builtin; refine wpList_append_bytes rfl _ _ rfl w.heap.size (.slice none 0 0) [] rfl (own_nil _ _) a bs.length cap bs rfl (by exact hs) (by simp; omega) (Nat.le_refl _) ?_; intro v' w' ho hg)
    go_ret
    exact ⟨v', rfl, ho, hg⟩
  · have hs := hv.take most (by omega)
    have i1 : (most : Int) < (bs.length : Int) := by omega
    go_enter Tryd.func6, Tryd.ntmps6
    go_wp2_with (at_builtin; refine wpList_append_bytes rfl _ _ rfl w.heap.size (.slice none 0 0) [] rfl (own_nil _ _) a most cap _ rfl (by exact hs) (by simp; omega) (Nat.le_refl _) ?_; intro v' w' ho hg)
    go_ret
    exact ⟨v', rfl, ho, hg⟩
end Go.Proofs.YtdpoickggdgddacDoor

/-
  The walk of canopykeep.key: what comes is the call's own.
-/
namespace Go.Proofs.YtdpoickggdgddacDoor
open Go.RowKit
theorem keyO_any (w : World) (v : Value) (bs : List UInt8) (hv : SliceIs w v bs) (hl : bs.length ≤ maxLen) :
    Calls Tryd.prog 5 #[v] w fun e w' => ∃ v', e = .returned v' ∧ Own w.heap.size w' v' (keyF bs) ∧ w.grownBy w' none := by
  obtain ⟨a, cap, rfl, hc, hrest⟩ := hv
  have hv : SliceIs w (.slice a bs.length cap) bs := ⟨a, cap, rfl, hc, hrest⟩
  clear hrest
  by_cases h0 : bs.length = 0
  · rw [keyF, if_pos h0]
    have i0 : (bs.length : Int) = 0 := by omega
    go_enter Tryd.func5, Tryd.ntmps5
    go_wp2
    go_ret
    exact ⟨_, rfl, own_new w.heap.size w [0] (Nat.le_refl _) (by unfold maxLen; simp), World.grownBy_alloc _ _ _⟩
  · rw [keyF, if_neg h0]
    have i0 : ¬ (bs.length : Int) = 0 := by omega
    go_enter Tryd.func5, Tryd.ntmps5
    go_wp2_with fail
    refine (some_any _ _ _ 16 (by omega) hv hl).mono ?_
    rintro e w1 ⟨v1, rfl, ho1, hg1⟩
    go_wp2
    go_ret
    exact ⟨v1, rfl, ho1, hg1⟩
end Go.Proofs.YtdpoickggdgddacDoor
