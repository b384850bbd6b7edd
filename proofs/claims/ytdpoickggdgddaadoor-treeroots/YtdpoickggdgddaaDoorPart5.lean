/-
  Texts of this proof, joined: Parts, RootF, TCRoot, TRootP, RKeyF, RKey, RPartOf, RSides, RBits.
-/
import Derived.Test.YtdpoickggdgddaaDoorPart2
import Derived.Test.YtdpoickggdgddaaDoorPart4
import Derived.Test.YtdpoickggdgddaaDoorPart1
import Derived.Test.YtdpoickggdgddaaDoorPart3
import Derived.Deep.RegionWith
/-
  The walk of digest.Parts.
-/
namespace Go.Proofs.YtdpoickggdgddaaDoor
open Go.RowKit
/-- A list of slices of bytes, as it is handed over. -/
def ListIs (w : World) (v : Value) (ps : List (List UInt8)) : Prop :=
  ∃ a cap, v = .slice a ps.length cap ∧ ps.length ≤ cap ∧ (ps = [] ∨ ∃ b o, a = some ⟨b, o, none⟩ ∧ ∀ i, i < ps.length → ∃ vi, w.cell? ⟨b, o + i, none⟩ = some vi ∧ SliceIs w vi (ps.getD i []))
/-- A part behind its length. -/
def jpartF (p : List UInt8) : List UInt8 := UInt8.ofNat (p.length / 256) :: UInt8.ofNat p.length :: p
def joinF (k : UInt8) (ps : List (List UInt8)) : List UInt8 := k :: ps.flatMap jpartF
theorem jpartF_len (p : List UInt8) : (jpartF p).length = p.length + 2 := by simp [jpartF]
theorem joinF_snoc (k : UInt8) (ps : List (List UInt8)) (p : List UInt8) : joinF k (ps ++ [p]) = joinF k ps ++ jpartF p := by simp [joinF]
theorem joinF_take (k : UInt8) (ps : List (List UInt8)) (i : Nat) (h : i < ps.length) : joinF k (ps.take (i + 1)) = joinF k (ps.take i) ++ jpartF (ps.getD i []) := by
  rw [List.take_succ_eq_append_getElem h, joinF_snoc]
  simp [h]
theorem joinF_mono (k : UInt8) (ps : List (List UInt8)) (i : Nat) : (joinF k (ps.take i)).length ≤ (joinF k ps).length := by
  have : joinF k ps = joinF k (ps.take i) ++ (ps.drop i).flatMap jpartF := by
    unfold joinF
    rw [List.cons_append, ← List.flatMap_append, List.take_append_drop]
  rw [this]; simp
set_option maxRecDepth 100000 in
set_option maxHeartbeats 1000000 in
theorem parts_any (w : World) (k : UInt8) (v : Value) (ps : List (List UInt8)) (hv : ListIs w v ps) (hm : ps.length ≤ maxLen) (hms : ∀ i, i < ps.length → (ps.getD i []).length ≤ maxLen) (ht : Tabs w) :
    Calls Tryd.prog 18 #[.int .u8 (k.toNat : Int), v] w fun e w' => w.grownBy w' none ∧
      (((joinF k ps).length ≤ 4000 ∧ ∃ nb, w.heap.size ≤ nb ∧ e = .returned (.tuple #[.slice (some ⟨nb, 0, none⟩) 32 32, .int .i64 0]) ∧ Bytes w' nb (sumF (joinF k ps))) ∨
       (4000 < (joinF k ps).length ∧ e = .returned (.tuple #[.slice none 0 0, .int .i64 1]))) := by
  obtain ⟨a, cap, rfl, hc, hps⟩ := hv
  unfold maxLen at hm
  go_enter Tryd.func18, Tryd.ntmps18
  go_wp2_with fail
  go_loopw [6, 13] (fun j i wr => ∃ m : Nat, m ≤ ps.length ∧ i = .int .i64 (m : Int) ∧ Own w.heap.size wr j (joinF k (ps.take m)) ∧ (joinF k (ps.take m)).length ≤ 4000 ∧ w.grownBy wr none) (fun _ i _ => ps.length - (intOf i).toNat)
  case atStart => exact ⟨0, by omega, rfl, own_new w.heap.size w [k] (Nat.le_refl _) (by unfold maxLen; simp), by simp [joinF], grown_alloc (grown_refl _ _) _⟩
  case round =>
    obtain ⟨m, hmn, rfl, hown, hlen, hg⟩ := hrel
    obtain ⟨ja, jcap, rfl⟩ := hown.shape
    by_cases hlt : m < ps.length
    · obtain ⟨b, o, rfl, hcells⟩ : ∃ b o, a = some ⟨b, o, none⟩ ∧ ∀ i, i < ps.length → ∃ vi, w.cell? ⟨b, o + i, none⟩ = some vi ∧ SliceIs w vi (ps.getD i []) := by
        rcases hps with rfl | h
        · simp at hlt
        · exact h
      obtain ⟨vi, hvi, hsi⟩ := hcells m hlt
      have hpm := hms m hlt
      have HT : Hid (joinF k (ps.take (m + 1)) = joinF k (ps.take m) ++ jpartF (ps.getD m [])) := joinF_take k ps m hlt
      have HM : Hid ((joinF k (ps.take (m + 1))).length ≤ (joinF k ps).length) := joinF_mono k ps (m + 1)
      have hci := hg.cell hvi (by simp)
      generalize ps.getD m [] = P at *
      obtain ⟨pa, pcap, rfl, hpc, hpr⟩ := hsi
      have hsi : SliceIs w (.slice pa P.length pcap) P := ⟨pa, pcap, rfl, hpc, hpr⟩
      have HSI : Hid (SliceIs w (.slice pa P.length pcap) P) := hsi
      have hsz := hg.size
      have HI : Hid ((joinF k (ps.take m)).length ≤ 4000) := hlen
      generalize joinF k (ps.take m) = J at *
      have HPS : Hid (w.heap.size ≤ wr.heap.size) := hsz
      unfold maxLen at hpm
      clear hcells hvi hsi hpr hps hms hsz ht
      have i1 : (m : Int) < (ps.length : Int) := by omega
      by_cases hfit : P.length + 2 + J.length ≤ 4000
      · have i2 : (P.length : Int) ≤ 3998 - (J.length : Int) := by omega
        have HB1 : Hid (SliceIs (wr.alloc (.cells #[.int .u8 ((P.length : Int) / 256), .int .u8 ((P.length : Int) % 256)] 5)) (.slice (some ⟨wr.heap.size, 0, none⟩) 2 2) [UInt8.ofNat (P.length / 256), UInt8.ofNat P.length]) := by
          have e1 : ((P.length : Int) / 256) = ((UInt8.ofNat (P.length / 256)).toNat : Int) := by simp; omega
          have e2 : ((P.length : Int) % 256) = ((UInt8.ofNat P.length).toNat : Int) := by simp
          rw [e1, e2]
          exact two_slice _ _ _ _
        go_upto_region 8 with (at_builtin; refine wpList_append_bytes rfl (.tmp 23) (.tmp 31) rfl w.heap.size (.slice ja J.length jcap) J rfl (hown.alloc _) (some ⟨wr.heap.size, 0, none⟩) 2 2 _ rfl HB1.out (by omega) (by have := HPS.out; simp; omega) ?_; intro v1 w1 ho1 hg1)
        have hgw := grown_own (grown_alloc hg _) (hown.alloc _) hg1
        have HS1 : Hid (SliceIs w1 (.slice pa P.length pcap) P) := HSI.out.grown hgw
        have hsw := hgw.size
        obtain ⟨va, vcap, rfl⟩ := ho1.shape
        clear hown hci hg hg1 HB1 HSI HPS
        go_wp2_with (at_builtin; refine wpList_append_bytes rfl (.tmp 33) (.tmp 34) rfl w.heap.size _ _ rfl ho1 pa P.length pcap P rfl HS1.out (by simp; omega) hsw ?_; intro v2 w2 ho2 hg2)
        have hgw2 := grown_own hgw ho1 hg2
        go_roundw
        case rel =>
          have e : joinF k (ps.take (m + 1)) = J ++ [UInt8.ofNat (P.length / 256), UInt8.ofNat P.length] ++ P := by rw [HT.out]; simp [jpartF]
          refine ⟨m + 1, by omega, by go_num, ?_, ?_, hgw2⟩
          · rw [e]; exact ho2
          · rw [e]; simp; omega
        case measure => simp [intOf]; omega
      · have i2 : 3998 - (J.length : Int) < (P.length : Int) := by omega
        go_wp2
        go_ret2
        refine ⟨hg, .inr ⟨?_, rfl⟩⟩
        have h1 := HM.out
        rw [HT.out] at h1
        simp [jpartF_len] at h1
        omega
    · obtain rfl : m = ps.length := by omega
      rw [List.take_length] at hown hlen
      have hS := sum_any wr _ _ hown.slice hlen (ht.grownNone hg)
      go_wp2_with fail
      refine hS.mono ?_
      rintro e w2 ⟨nb, hnb, rfl, hb2, hg2⟩
      go_wp2
      go_ret2
      exact ⟨grown_trans hg hg2, .inl ⟨hlen, nb, Nat.le_trans hg.size hnb, rfl, hb2⟩⟩
end Go.Proofs.YtdpoickggdgddaaDoor

/-
  The digest of a tree, by the document.
-/
namespace Go.Proofs.YtdpoickggdgddaaDoor
def rootK : Nat → PL → List UInt8
  | 0, _ => []
  | f + 1, l => if l.length = 0 then sumF [0] else if l.length = 1 then sumF (joinF 1 [(l.getD 0 ([], [])).1, (l.getD 0 ([], [])).2])
    else sumF (joinF 2 [[UInt8.ofNat (forkBit l).toNat], rootK f (sideL l (forkBit l).toNat false), rootK f (sideL l (forkBit l).toNat true)])
/-- The digest of a tree. -/
def rootL (l : PL) : List UInt8 := rootK (l.length + 1) l
theorem rootK_fuel : ∀ (f : Nat) (l : PL), Tree l → l.length < f → rootK f l = rootL l
  | 0, _, _, h => by omega
  | f + 1, l, hT, h => by
    rw [rootL, rootK, rootK]
    by_cases h0 : l.length = 0
    · rw [if_pos h0, if_pos h0]
    · rw [if_neg h0, if_neg h0]
      by_cases h1 : l.length = 1
      · rw [if_pos h1, if_pos h1]
      · rw [if_neg h1, if_neg h1]
        have hs := sides_less hT (by omega)
        rw [rootK_fuel f _ (side_tree hT _ false) (by have := hs false; omega), rootK_fuel f _ (side_tree hT _ true) (by have := hs true; omega)]
        have key : ∀ x, rootK l.length (sideL l (forkBit l).toNat x) = rootL (sideL l (forkBit l).toNat x) := fun x => by
          obtain ⟨n, hn⟩ : ∃ n, l.length = n + 1 := ⟨l.length - 1, by omega⟩
          have hx := hs x
          rw [rootL]
          by_cases hf : l.length ≤ f
          · have e1 := rootK_fuel l.length (sideL l (forkBit l).toNat x) (side_tree hT _ x) hx
            rw [e1, rootL]
          · omega
        rw [key false, key true]
  termination_by f => f
theorem rootL_none (l : PL) (h : l.length = 0) : rootL l = sumF [0] := by rw [rootL, rootK, if_pos h]
theorem rootL_one (l : PL) (h : l.length = 1) : rootL l = sumF (joinF 1 [(l.getD 0 ([], [])).1, (l.getD 0 ([], [])).2]) := by rw [rootL, rootK, if_neg (by omega), if_pos h]
theorem rootL_fork (l : PL) (hT : Tree l) (h : 2 ≤ l.length) : rootL l = sumF (joinF 2 [[UInt8.ofNat (forkBit l).toNat], rootL (sideL l (forkBit l).toNat false), rootL (sideL l (forkBit l).toNat true)]) := by
  have hs := sides_less hT h
  rw [rootL, rootK, if_neg (by omega), if_neg (by omega), rootK_fuel _ _ (side_tree hT _ false) (hs false), rootK_fuel _ _ (side_tree hT _ true) (hs true)]
theorem rootL_len (l : PL) : (rootL l).length = 32 := by
  rw [rootL, rootK]
  by_cases h0 : l.length = 0
  · rw [if_pos h0]; exact sumF_len _
  · rw [if_neg h0]
    by_cases h1 : l.length = 1
    · rw [if_pos h1]; exact sumF_len _
    · rw [if_neg h1]; exact sumF_len _
/-- Root: an error, or the digest. -/
def rootF (l : PL) : List UInt8 := if pairsFaultF l = 0 then rootL l else []
theorem joinF_two (k : UInt8) (a b : List UInt8) : (joinF k [a, b]).length = a.length + b.length + 5 := by simp [joinF, jpartF]; omega
theorem joinF_three (k : UInt8) (a b c : List UInt8) : (joinF k [a, b, c]).length = a.length + b.length + c.length + 7 := by simp [joinF, jpartF]; omega
end Go.Proofs.YtdpoickggdgddaaDoor

/-
  What tree.Root must keep.
-/
namespace Go.Proofs.YtdpoickggdgddaaDoor
open Go.RowKit
/-- tree.Root keeps P3.6. -/
def TRootOK : Prop := ∀ (w : World) (v : Value) (l : PL), PairsIs w v l → Fits l → Tabs w → Calls Tryd.prog 5 #[v] w fun e w' => ∃ x, e = .returned (.tuple #[x, .int .i64 (pairsFaultF l)]) ∧ SliceIs w' x (rootF l) ∧ w.grownBy w' none
end Go.Proofs.YtdpoickggdgddaaDoor

/-
  tree.Root, as it landed, keeps P3.6.
-/
namespace Go.Proofs.YtdpoickggdgddaaDoor
open Go.RowKit
theorem plist_two (w : World) (t : TypeId) (v1 v2 : Value) (x y : List UInt8) (h1 : SliceIs w v1 x) (h2 : SliceIs w v2 y) (nb : Nat) (hnb : nb = w.heap.size) :
    ListIs (w.alloc (.cells #[v1, v2] t)) (.slice (some ⟨nb, 0, none⟩) 2 2) [x, y] := by
  subst hnb
  refine ⟨_, 2, rfl, by simp, .inr ⟨w.heap.size, 0, rfl, fun i hi => ?_⟩⟩
  match i, hi with
  | 0, _ => exact ⟨v1, by simp, h1.alloc _⟩
  | 1, _ => exact ⟨v2, by simp, h2.alloc _⟩
theorem plist_three (w : World) (t : TypeId) (v1 v2 v3 : Value) (x y z : List UInt8) (h1 : SliceIs w v1 x) (h2 : SliceIs w v2 y) (h3 : SliceIs w v3 z) (nb : Nat) (hnb : nb = w.heap.size) :
    ListIs (w.alloc (.cells #[v1, v2, v3] t)) (.slice (some ⟨nb, 0, none⟩) 3 3) [x, y, z] := by
  subst hnb
  refine ⟨_, 3, rfl, by simp, .inr ⟨w.heap.size, 0, rfl, fun i hi => ?_⟩⟩
  match i, hi with
  | 0, _ => exact ⟨v1, by simp, h1.alloc _⟩
  | 1, _ => exact ⟨v2, by simp, h2.alloc _⟩
  | 2, _ => exact ⟨v3, by simp, h3.alloc _⟩
/-- digest.Parts of parts that are short. -/
theorem parts_short (w : World) (k : UInt8) (v : Value) (ps : List (List UInt8)) (hv : ListIs w v ps) (hn : ps.length ≤ 10) (hs : ∀ i, i < ps.length → (ps.getD i []).length ≤ 40) (hj : (joinF k ps).length ≤ 4000) (ht : Tabs w) :
    Calls Tryd.prog 18 #[.int .u8 (k.toNat : Int), v] w fun e w' => ∃ x, e = .returned (.tuple #[x, .int .i64 0]) ∧ SliceIs w' x (sumF (joinF k ps)) ∧ w.grownBy w' none := by
  refine (parts_any w k v ps hv (by unfold maxLen; omega) (fun i hi => by have := hs i hi; unfold maxLen; omega) ht).mono ?_
  rintro e w1 ⟨hg, ⟨_, nb, hnb, rfl, hb⟩ | ⟨hbad, _⟩⟩
  · exact ⟨_, rfl, hb.slice32 (sumF_len _), hg⟩
  · omega
set_option maxRecDepth 100000 in
set_option maxHeartbeats 1000000 in
theorem root_any : ∀ (n : Nat) (w : World) (v : Value) (l : PL), l.length ≤ n → PairsIs w v l → Tree l → Tabs w →
    Calls Tryd.prog 11 #[v] w fun e w' => ∃ x, e = .returned (.tuple #[x, .int .i64 0]) ∧ SliceIs w' x (rootL l) ∧ w.grownBy w' none := by
  have none_case : ∀ (w : World) (a : Option Addr) (cap : Nat) (l : PL), l.length = 0 → Tabs w → Calls Tryd.prog 11 #[.slice a l.length cap] w fun e w' => ∃ x, e = .returned (.tuple #[x, .int .i64 0]) ∧ SliceIs w' x (rootL l) ∧ w.grownBy w' none := by
    intro w a cap l h0 ht
    rw [rootL_none l h0, h0]
    have PS : Hid (Calls Tryd.prog 18 #[.int .u8 0, .slice none 0 0] w fun e w' => ∃ x, e = .returned (.tuple #[x, .int .i64 0]) ∧ SliceIs w' x (sumF [0]) ∧ w.grownBy w' none) := by
      have := parts_short w 0 (.slice none 0 0) [] ⟨none, 0, rfl, by simp, .inl rfl⟩ (by simp) (by simp) (by simp [joinF]) ht
      show Calls _ _ _ _ _
      simpa [joinF] using this
    generalize sumF [0] = S at *
    go_enter Tryd.func11, Tryd.ntmps11
    go_wp2_with fail
    refine PS.out.mono ?_
    rintro e w1 ⟨x, rfl, hx, hg1⟩
    go_wp2
    go_ret2
    exact ⟨x, rfl, hx, hg1⟩
  intro n
  induction n with
  | zero =>
    intro w v l hn hv hT ht
    obtain ⟨a, cap, rfl⟩ := hv.shape
    exact none_case w a cap l (by omega) ht
  | succ n ih =>
    intro w v l hn hv hT ht
    have IH : Hid (∀ (w : World) (v : Value) (l : PL), l.length ≤ n → PairsIs w v l → Tree l → Tabs w → Calls Tryd.prog 11 #[v] w fun e w' => ∃ x, e = .returned (.tuple #[x, .int .i64 0]) ∧ SliceIs w' x (rootL l) ∧ w.grownBy w' none) := ih
    clear ih
    obtain ⟨a, cap, rfl⟩ := hv.shape
    by_cases h0 : l.length = 0
    · exact none_case w a cap l h0 ht
    · clear none_case
      by_cases h1 : l.length = 1
      · rw [rootL_one l h1]
        obtain ⟨b, o, rfl, hat⟩ := hv.at 0 (by omega)
        obtain ⟨vk, vv, c1, c2, s1, s2⟩ := hat
        rw [Nat.zero_mul, Nat.add_zero] at c1 c2
        have hp := hT.pairs l[0] (List.getElem_mem (by omega))
        rw [show l[0] = l.getD 0 ([], []) by simp [show 0 < l.length by omega]] at hp
        generalize l.getD 0 ([], []) = P at *
        rw [h1] at hv ⊢
        have PS : Hid (Calls Tryd.prog 18 #[.int .u8 1, .slice (some ⟨w.heap.size, 0, none⟩) 2 2] (w.alloc (.cells #[vk, vv] 24)).drew fun e w' => ∃ x, e = .returned (.tuple #[x, .int .i64 0]) ∧ SliceIs w' x (sumF (joinF 1 [P.1, P.2])) ∧ w.grownBy w' none) := by
          have hg := World.grownBy_alloc w (.cells #[vk, vv] 24) none
          refine (parts_short (w.alloc (.cells #[vk, vv] 24)).drew 1 (.slice (some ⟨w.heap.size, 0, none⟩) 2 2) [P.1, P.2] (plist_two w _ vk vv P.1 P.2 s1 s2 _ rfl) (by simp) ?_ (by rw [joinF_two]; omega) (ht.grownNone (grown_drew hg))).mono ?_
          · intro i hi
            match i, hi with
            | 0, _ => simp; omega
            | 1, _ => simp; omega
          · rintro e w1 ⟨x, rfl, hx, hg1⟩
            exact ⟨x, rfl, hx, grown_trans (grown_drew hg) hg1⟩
        obtain ⟨ak, ck, rfl⟩ := s1.shape
        obtain ⟨av, cv, rfl⟩ := s2.shape
        have e1 : w.drew.cell? ⟨b, o, none⟩ = some (.slice ak P.1.length ck) := c1
        have e2 : w.drew.cell? ⟨b, o + 1, none⟩ = some (.slice av P.2.length cv) := c2
        generalize sumF (joinF 1 [P.1, P.2]) = S at *
        clear s1 s2 hT hv
        go_enter Tryd.func11, Tryd.ntmps11
        go_wp2_with fail
        go_region_with (go_at_call 18; refine PS.out.mono ?_; rintro e w1 ⟨x, rfl, hx, hg1⟩)
        all_goals
          go_wp2
          go_ret2
          exact ⟨x, rfl, hx, hg1⟩
      · have h2 : 2 ≤ l.length := by omega
        rw [rootL_fork l hT h2]
        have FK : Hid (Calls Tryd.prog 19 #[.slice a l.length cap] w fun e w' => e = .returned (.tuple #[.int .i64 (forkBit l), .int .i64 (sideN l (forkBit l).toNat : Int), .int .i64 0]) ∧ w.grownBy w' none) := fork_any w _ l hv hT h2
        have hrange := forkBit_range hT h2
        have hsr := side_range hT h2
        have tF := side_tree hT (forkBit l).toNat false
        have tT := side_tree hT (forkBit l).toNat true
        have eF := side_false hT h2
        have eT := side_true hT h2
        obtain ⟨B, hB⟩ : ∃ B : Nat, forkBit l = (B : Int) := ⟨(forkBit l).toNat, by omega⟩
        have eB : (forkBit l).toNat = B := by omega
        have hB2 : B < 145 := by omega
        rw [eB] at tF tT eF eT hsr FK ⊢
        rw [hB] at FK
        rw [eF] at tF ⊢
        rw [eT] at tT ⊢
        generalize sideN l B = s at *
        have lF : (l.take s).length ≤ n := by simp; omega
        have lT : (l.drop s).length ≤ n := by simp; omega
        obtain ⟨a1, c1, q1, g1⟩ := pslice_h a cap l s (by omega) hv.cap
        obtain ⟨a2, c2, q2, g2⟩ := pslice_l a cap l s (by omega)
        have RL : Hid (∀ w', w.grownBy w' none → Calls Tryd.prog 11 #[.slice a1 s c1] w' fun e w'' => ∃ x, e = .returned (.tuple #[x, .int .i64 0]) ∧ SliceIs w'' x (rootL (l.take s)) ∧ w'.grownBy w'' none) := fun w' hg => IH.out w' _ _ lF (g1 w' (hv.grown hg)) tF (ht.grownNone hg)
        have RR : Hid (∀ w', w.grownBy w' none → Calls Tryd.prog 11 #[.slice a2 (l.length - s) c2] w' fun e w'' => ∃ x, e = .returned (.tuple #[x, .int .i64 0]) ∧ SliceIs w'' x (rootL (l.drop s)) ∧ w'.grownBy w'' none) := fun w' hg => IH.out w' _ _ lT (g2 w' (hv.grown hg)) tT (ht.grownNone hg)
        have rL := rootL_len (l.take s)
        have rR := rootL_len (l.drop s)
        generalize rootL (l.take s) = XL at *
        generalize rootL (l.drop s) = XR at *
        have HXL : Hid (XL.length = 32) := rL
        have HXR : Hid (XR.length = 32) := rR
        have HTB : Hid (Tabs w) := ht
        have DP : Hid (∀ (w' : World) (x y : Value), w.grownBy w' none → SliceIs w' x XL → SliceIs w' y XR → Calls Tryd.prog 18 #[.int .u8 2, .slice (some ⟨w'.heap.size + 1, 0, none⟩) 3 3] ((w'.alloc (.cells #[.int .u8 (B : Int)] 5)).alloc (.cells #[.slice (some ⟨w'.heap.size, 0, none⟩) 1 1, x, y] 24)) fun e w'' => ∃ z, e = .returned (.tuple #[z, .int .i64 0]) ∧ SliceIs w'' z (sumF (joinF 2 [[UInt8.ofNat B], XL, XR])) ∧ w'.grownBy w'' none) := by
          intro w' x y hg hx hy
          have hone : SliceIs (w'.alloc (.cells #[.int .u8 (B : Int)] 5)) (.slice (some ⟨w'.heap.size, 0, none⟩) 1 1) [UInt8.ofNat B] := by
            have := one_slice w' (UInt8.ofNat B) 5
            rw [show (((UInt8.ofNat B).toNat : Nat) : Int) = (B : Int) by simp; omega] at this
            exact this
          have hgg : w'.grownBy ((w'.alloc (.cells #[.int .u8 (B : Int)] 5)).alloc (.cells #[.slice (some ⟨w'.heap.size, 0, none⟩) 1 1, x, y] 24)) none := grown_alloc (World.grownBy_alloc _ _ _) _
          refine (parts_short _ 2 _ [[UInt8.ofNat B], XL, XR] (plist_three _ _ _ _ _ [UInt8.ofNat B] XL XR hone (hx.alloc _) (hy.alloc _) _ (by simp)) (by simp) ?_ (by rw [joinF_three, HXL.out, HXR.out]; simp) (HTB.out.grownNone (grown_trans hg hgg))).mono ?_
          · intro i hi
            have h1 := HXL.out
            have h2 := HXR.out
            match i, hi with
            | 0, _ => simp
            | 1, _ => simp [h1]
            | 2, _ => simp [h2]
          · rintro e w1 ⟨z, rfl, hz, hg1⟩
            exact ⟨z, rfl, hz, grown_trans hgg hg1⟩
        generalize sumF (joinF 2 [[UInt8.ofNat B], XL, XR]) = S at *
        clear rL rR hB hv hrange eB g1 g2 eF eT tF tT lF lT hT ht IH HTB
        have t0 : ((l.length : Int) == 0) = false := by rw [beq_eq_false_iff_ne]; omega
        have t1 : ((l.length : Int) == 1) = false := by rw [beq_eq_false_iff_ne]; omega
        go_enter Tryd.func11, Tryd.ntmps11
        go_wp2_with fail
        refine FK.out.mono ?_
        rintro e w1 ⟨rfl, hg1⟩
        go_wp2_with fail
        refine (RL.out _ hg1).mono ?_
        rintro e w2 ⟨x, rfl, hx, hg2⟩
        obtain ⟨xa, xc, rfl⟩ := hx.shape
        have hg12 := grown_trans hg1 hg2
        go_wp2_with fail
        refine (RR.out _ hg12).mono ?_
        rintro e w3 ⟨y, rfl, hy, hg3⟩
        obtain ⟨ya, yc, rfl⟩ := hy.shape
        have hg13 := grown_trans hg12 hg3
        go_wp2_with fail
        refine (DP.out w3 _ _ hg13 (hx.grown hg3) hy).mono ?_
        rintro e w4 ⟨z, rfl, hz, hg4⟩
        go_wp2
        go_ret2
        exact ⟨z, rfl, hz, grown_trans hg13 hg4⟩
set_option maxRecDepth 100000 in
set_option maxHeartbeats 1000000 in
theorem troot_ok : TRootOK := by
  intro w v l hv hl ht
  have CL : Hid (Calls Tryd.prog 10 #[v] w fun e w' => e = .returned (.int .i64 (pairsFaultF l)) ∧ w.grownBy w' none) := tcheck_ok w v l hv hl
  obtain ⟨a, cap, rfl⟩ := hv.shape
  by_cases hz : pairsFaultF l = 0
  · have hT := (tree_iff l).1 hz
    have hF : rootF l = rootL l := by rw [rootF, if_pos hz]
    have RT : Hid (∀ w', w.grownBy w' none → Calls Tryd.prog 11 #[.slice a l.length cap] w' fun e w'' => ∃ x, e = .returned (.tuple #[x, .int .i64 0]) ∧ SliceIs w'' x (rootL l) ∧ w'.grownBy w'' none) := fun w' hg => root_any l.length w' _ l (Nat.le_refl _) (hv.grown hg) hT (ht.grownNone hg)
    rw [hz] at CL ⊢
    rw [hF]
    generalize rootL l = R at *
    clear hz hF hT hv ht
    go_enter Tryd.func5, Tryd.ntmps5
    go_wp2_with fail
    refine CL.out.mono ?_
    rintro e w1 ⟨rfl, hg1⟩
    go_wp2_with fail
    refine (RT.out _ hg1).mono ?_
    rintro e w2 ⟨x, rfl, hx, hg2⟩
    go_wp2
    go_ret2
    exact ⟨x, rfl, hx, grown_trans hg1 hg2⟩
  · have hF : rootF l = [] := by rw [rootF, if_neg hz]
    rw [hF]
    generalize pairsFaultF l = z at *
    have hz' : (z != 0) = true := by simpa using hz
    clear hF hv ht
    go_enter Tryd.func5, Tryd.ntmps5
    go_wp2_with fail
    refine CL.out.mono ?_
    rintro e w1 ⟨rfl, hg1⟩
    go_wp2
    go_ret2
    exact ⟨_, rfl, sliceIs_nil _, hg1⟩
end Go.Proofs.YtdpoickggdgddaaDoor

/-
  The walks of the document's answer to P2.1: In, KeyFault.
-/
namespace Go.Proofs.YtdpoickggdgddaaDoor
open Go.RowKit

theorem in_any (n lo hi : Int) (w : World) :
    Calls Tryd.prog 44 #[.int .i64 n, .int .i64 lo, .int .i64 hi] w fun e w' => e = .returned (.bool (decide (lo ≤ n ∧ n ≤ hi))) ∧ w' = w := by
  by_cases h1 : lo ≤ n
  · by_cases h2 : n ≤ hi
    · rw [decide_eq_true ⟨h1, h2⟩]
      go_enter Tryd.func44, Tryd.ntmps44
      go_wp2
      go_ret
      exact ⟨rfl, rfl⟩
    · rw [decide_eq_false (fun h => h2 h.2)]
      have h2' : hi < n := by omega
      go_enter Tryd.func44, Tryd.ntmps44
      go_wp2
      go_ret
      exact ⟨rfl, rfl⟩
  · rw [decide_eq_false (fun h => h1 h.1)]
    have h1' : n < lo := by omega
    go_enter Tryd.func44, Tryd.ntmps44
    go_wp2
    go_ret
    exact ⟨rfl, rfl⟩
theorem keyFault_any (w : World) (a : Option Addr) (n cap : Nat) :
    Calls Tryd.prog 34 #[.slice a n cap] w fun e w' => e = .returned (.int .i64 (keyFaultF n)) ∧ w' = w := by
  by_cases h : 1 ≤ n ∧ n ≤ 16
  · rw [keyFaultF, if_pos h]
    go_enter Tryd.func34, Tryd.ntmps34
    go_wp2_with fail
    refine (in_any _ _ _ _).mono ?_
    rintro e w1 ⟨rfl, rfl⟩
    rw [decide_eq_true (show (1 : Int) ≤ (n : Int) ∧ (n : Int) ≤ 16 by omega)]
    go_wp2
    go_ret
    exact ⟨rfl, rfl⟩
  · rw [keyFaultF, if_neg h]
    go_enter Tryd.func34, Tryd.ntmps34
    go_wp2_with fail
    refine (in_any _ _ _ _).mono ?_
    rintro e w1 ⟨rfl, rfl⟩
    rw [decide_eq_false (show ¬ ((1 : Int) ≤ (n : Int) ∧ (n : Int) ≤ 16) by omega)]
    go_wp2
    go_ret
    exact ⟨rfl, rfl⟩
end Go.Proofs.YtdpoickggdgddaaDoor

/-
  The walk of the document's answer to P2.1: the bits of a key.
-/
namespace Go.Proofs.YtdpoickggdgddaaDoor
open Go.RowKit
def bvals (l : List Bool) : List Value := l.map Value.bool
/-- The slice v of bools is the call's own, and has these. -/
def OwnB (base : Nat) (w : World) (v : Value) (l : List Bool) : Prop := w.ownsRow base 4 1 v l.length (bvals l)
theorem ownB_nil (base : Nat) (w : World) : OwnB base w (.slice none 0 0) [] := World.ownsRow_nil _ _ _ _
theorem OwnB.shape {base : Nat} {w : World} {v : Value} {l : List Bool} (h : OwnB base w v l) : ∃ a cap, v = .slice a l.length cap := by
  rcases h.2 with ⟨rfl, h0⟩ | ⟨g, cap, cur, rfl, _⟩
  · exact ⟨none, 0, by rw [h0]⟩
  · exact ⟨_, cap, rfl⟩
theorem OwnB.grownNone {base : Nat} {w w' : World} {v : Value} {l : List Bool} (h : OwnB base w v l) (hg : w.grownBy w' none) : OwnB base w' v l := by
  refine World.ownsRow.kept h hg ?_
  cases hv : v.ownBlock with
  | none => exact .inl rfl
  | some k => exact .inr (by simp)
theorem OwnB.block {base : Nat} {w : World} {v : Value} {l : List Bool} (h : OwnB base w v l) (hne : l ≠ []) : ∃ g cap, v = .slice (some ⟨g, 0, none⟩) l.length cap ∧ ∀ i, i < l.length → w.cell? ⟨g, i, none⟩ = some (.bool (l.getD i false)) := by
  obtain ⟨h1, h2⟩ := h
  rcases h2 with ⟨rfl, h0⟩ | ⟨g, cap, cur, rfl, hb, hg, hn, hm, hs, ht⟩
  · exact absurd (List.eq_nil_of_length_eq_zero h0) hne
  · refine ⟨g, cap, rfl, fun i hi => ?_⟩
    have hc : cur.toList[i]? = some (.bool (l.getD i false)) := by
      have e : (cur.toList.take (l.length * 1))[i]? = (bvals l)[i]? := by rw [ht]
      rw [List.getElem?_take, if_pos (by omega)] at e
      rw [e, bvals, List.getElem?_map, List.getElem?_eq_getElem hi]
      simp [hi]
    simp [World.cell?, hg]
    simpa using hc
theorem grown_ownB {w W w1 : World} {v : Value} {l : List Bool} (h : w.grownBy W none) (ho : OwnB w.heap.size W v l) (hg : W.grownBy w1 v.ownBlock) : w.grownBy w1 none :=
  ⟨hg.os.trans h.os, hg.tape.trans h.tape, hg.output.trans h.output, Nat.le_trans h.size hg.size, fun i hi hn => (hg.block i (Nat.lt_of_lt_of_le hi h.size) (fun e => by have := (World.ownsRow.lt ho i e.symm).1; omega)).trans (h.block i hi hn)⟩
theorem info4 : (Tryd.prog.info? 4).map (fun i => (i.zero, i.size, i.bytes)) = some (some (.bool false), 1, 1) := by kernel_rfl
/-- append(v, x) of one bool. -/
theorem wpList_append_bool {w0 w : World} {ops : Array Oper} {rest : List Oper} {o : Oper} {a : Act} {Q : Exit → Act → World → Prop} (hgd : o.guard = none) (s x : Operand)
    (ho : o.op = .call { callee := .builtin .append, args := #[s, x], argTypes := #[60, 60] }) (base : Nat) (v : Value) (l : List Bool) (hs : a.eval s = v) (y : Bool) (hw : w = w0.alloc (.cells #[.bool y] 4)) (hown : OwnB base w0 v l)
    (hx : a.eval x = .slice (some ⟨w0.heap.size, 0, none⟩) 1 1) (hl : l.length ≤ 100000) (hbase : base ≤ w0.heap.size)
    (h : ∀ v' w', OwnB base w' v' (l ++ [y]) → w.grownBy w' v.ownBlock → wpList Tryd.prog ops Q rest (a.put o.dst v') w') : wpList Tryd.prog ops Q (o :: rest) a w := by
  subst hw
  obtain ⟨i0, hi, hz0, hz1, hz2⟩ := info_parts info4
  refine wpList_append_own _ hgd s x 60 ho base 4 i0 (.bool false) 1 1 Tryd.underlying60 hi hz0 hz1 hz2 rfl (by decide) v l.length (bvals l) hs (World.ownsRow.alloc hown _) ⟨w0.heap.size, 0, none⟩ 1 1 [.bool y] hx rfl ?_ ?_ ?_ ?_ ?_ ?_
  · intro j u hj
    match j, hj with
    | 0, hj => simp at hj; subst hj; simp [Addr.add]
  · intro u hu; simp at hu; subst hu; rfl
  · unfold maxLen; omega
  · omega
  · simp; omega
  · intro v' w' h1 h2 _
    refine h v' w' ?_ h2
    unfold OwnB
    rw [List.length_append]
    simpa [bvals] using h1
/-- The first bits of a key. -/
def bitsN (k : List UInt8) (n : Nat) : List Bool := (List.range n).map (kbit k)
theorem bitsN_len (k : List UInt8) (n : Nat) : (bitsN k n).length = n := by simp [bitsN]
theorem bitsN_succ (k : List UInt8) (n : Nat) : bitsN k (n + 1) = bitsN k n ++ [kbit k n] := by simp [bitsN, List.range_succ]
theorem bitsN_get (k : List UInt8) (n i : Nat) (h : i < n) : (bitsN k n).getD i false = kbit k i := by simp [bitsN, h]
theorem bit_test (c : UInt8) (j : Nat) (hj : j < 8) : decide (2 ^ (7 - j) ≤ c.toNat % 2 ^ (8 - j)) = c.toNat.testBit (7 - j) :=
  (by decide +kernel : ∀ (c : Fin 256) (j : Fin 8), decide (2 ^ (7 - j.1) ≤ c.1 % 2 ^ (8 - j.1)) = c.1.testBit (7 - j.1)) ⟨c.toNat, c.toNat_lt⟩ ⟨j, hj⟩
theorem bit_rest (c : UInt8) (j : Nat) (hj : j < 8) : (if 2 ^ (7 - j) ≤ c.toNat % 2 ^ (8 - j) then c.toNat % 2 ^ (8 - j) - 2 ^ (7 - j) else c.toNat % 2 ^ (8 - j)) = c.toNat % 2 ^ (7 - j) :=
  (by decide +kernel : ∀ (c : Fin 256) (j : Fin 8), (if 2 ^ (7 - j.1) ≤ c.1 % 2 ^ (8 - j.1) then c.1 % 2 ^ (8 - j.1) - 2 ^ (7 - j.1) else c.1 % 2 ^ (8 - j.1)) = c.1 % 2 ^ (7 - j.1)) ⟨c.toNat, c.toNat_lt⟩ ⟨j, hj⟩
/-- A slice's length. -/
def sliceLenB : Value → Nat | .slice _ n _ => n | _ => 0
/-- 128, 64, .. 1, 0. -/
def powT (j : Nat) : Nat := 2 ^ (8 - j) / 2
theorem powT_eq (j : Nat) (h : j < 8) : powT j = 2 ^ (7 - j) := (by decide : ∀ j : Fin 8, powT j.1 = 2 ^ (7 - j.1)) ⟨j, h⟩
theorem powT_next (j : Nat) (h : j < 8) : powT j / 2 = powT (j + 1) := (by decide : ∀ j : Fin 8, powT j.1 / 2 = powT (j.1 + 1)) ⟨j, h⟩
theorem powT_pos (j : Nat) (h : j < 8) : 0 < powT j ∧ powT j ≤ 128 := (by decide : ∀ j : Fin 8, 0 < powT j.1 ∧ powT j.1 ≤ 128) ⟨j, h⟩
set_option maxRecDepth 100000 in
set_option maxHeartbeats 1000000 in
theorem allBits_any (w : World) (v : Value) (bs : List UInt8) (hv : SliceIs w v bs) (hl : bs.length ≤ 16) :
    Calls Tryd.prog 38 #[v] w fun e w' => ∃ v', e = .returned v' ∧ OwnB w.heap.size w' v' (bitsN bs 145) ∧ w.grownBy w' none := by
  obtain ⟨a, cap, rfl, hc, hrest⟩ := hv
  go_enter Tryd.func38, Tryd.ntmps38
  go_wp2_with fail
  go_loopw [3, 4] (fun ov iv wr => ∃ m : Nat, m ≤ bs.length ∧ iv = .int .i64 (m : Int) ∧ OwnB w.heap.size wr ov (bitsN bs (9 * m)) ∧ w.grownBy wr none) (fun _ iv _ => bs.length - (intOf iv).toNat)
  case atStart => exact ⟨0, by omega, rfl, ownB_nil _ _, grown_refl _ _⟩
  case round =>
    obtain ⟨m, hm, rfl, hown, hg⟩ := hrel
    obtain ⟨oa, ocap, rfl⟩ := hown.shape
    by_cases hlt : m < bs.length
    · obtain ⟨b, o, rfl, hB⟩ : ∃ b o, a = some ⟨b, o, none⟩ ∧ BytesAt w b o bs := by
        rcases hrest with ⟨rfl, _⟩ | h
        · simp at hlt
        · exact h
      have HBB : Hid (BytesAt w b o bs) := hB
      have HS1 : Hid (bitsN bs (9 * m + 1) = bitsN bs (9 * m) ++ [true]) := by
        show _ = _
        rw [bitsN_succ, kbit_head, decide_eq_true hlt]
      have hol : (bitsN bs (9 * m)).length ≤ 200 := by rw [bitsN_len]; omega
      generalize bitsN bs (9 * m) = O at *
      have hsz := hg.size
      clear hB hrest
      have i1 : (m : Int) < (bs.length : Int) := by omega
      go_upto_region 6 with (at_builtin; refine wpList_append_bool (w0 := wr) rfl (.tmp 13) (.tmp 14) rfl w.heap.size (.slice oa O.length ocap) O rfl true rfl hown rfl (by omega) hsz ?_; intro v1 w1 ho1 hg1)
      have hgw := grown_ownB (grown_alloc hg _) (World.ownsRow.alloc hown _) hg1
      rw [← HS1.out] at ho1
      have c0 := (HBB.out.grown hgw (by simp)) m hlt
      have HKB : Hid (∀ j, j < 8 → kbit bs (9 * m + 1 + j) = (bs.getD m 0).toNat.testBit (7 - j)) := by
        intro j hj
        rw [show 9 * m + 1 + j = 9 * m + (1 + j) by omega, kbit_byte bs m (1 + j) hlt (by omega) (by omega), show 8 - (1 + j) = 7 - j by omega]
      generalize bs.getD m 0 = x at *
      have hx : x.toNat < 256 := x.toNat_lt
      clear hown hg hg1 HS1
      go_wp2_with fail
      go_loopw [3, 5, 6] (fun ov nv pv wr => ∃ j : Nat, j ≤ 8 ∧ nv = .int .i64 ((x.toNat % 2 ^ (8 - j) : Nat) : Int) ∧ pv = .int .i64 ((powT j : Nat) : Int) ∧ OwnB w.heap.size wr ov (bitsN bs (9 * m + 1 + j)) ∧ w.grownBy wr none) (fun _ _ pv _ => (intOf pv).toNat)
      case atStart =>
        refine ⟨0, by omega, ?_, rfl, ho1, hgw⟩
        have e : x.toNat % 2 ^ (8 - 0) = x.toNat := Nat.mod_eq_of_lt (by simpa using hx)
        rw [e]
      case round =>
        clear ho1 hgw c0
        obtain ⟨j, hj, rfl, rfl, hown, hg⟩ := hrel
        obtain ⟨oa, ocap, rfl⟩ := hown.shape
        have hsz := hg.size
        have hol : (bitsN bs (9 * m + 1 + j)).length ≤ 200 := by rw [bitsN_len]; omega
        by_cases hlj : j < 8
        · have hpp := powT_pos j hlj
          have HPE : Hid (powT j = 2 ^ (7 - j)) := powT_eq j hlj
          have HPN : Hid (powT j / 2 = powT (j + 1)) := powT_next j hlj
          have hNB : x.toNat % 2 ^ (8 - j) < 256 := Nat.lt_of_le_of_lt (Nat.mod_le _ _) hx
          have HT := bit_test x j hlj
          have HR := bit_rest x j hlj
          rw [← HPE.out] at HT HR
          have HS2 : Hid (bitsN bs (9 * m + 1 + (j + 1)) = bitsN bs (9 * m + 1 + j) ++ [decide (powT j ≤ x.toNat % 2 ^ (8 - j))]) := by
            show _ = _
            rw [← Nat.add_assoc, bitsN_succ, HKB.out j hlj, HT]
          have HR2 : Hid (x.toNat % 2 ^ (8 - (j + 1)) = if powT j ≤ x.toNat % 2 ^ (8 - j) then x.toNat % 2 ^ (8 - j) - powT j else x.toNat % 2 ^ (8 - j)) := by
            show _ = _
            rw [HR, show 8 - (j + 1) = 7 - j by omega, HPE.out]
          clear HT HR
          generalize bitsN bs (9 * m + 1 + j) = O at *
          generalize x.toNat % 2 ^ (8 - j) = R at *
          generalize powT j = P at *
          have tp : (0 : Int) < (P : Int) := by omega
          by_cases hge : P ≤ R
          · have tge : (P : Int) ≤ (R : Int) := by omega
            rw [decide_eq_true hge] at HS2
            rw [if_pos hge] at HR2
            go_wp2_with (at_builtin; refine wpList_append_bool (w0 := wr) rfl (.tmp 25) (.tmp 29) rfl w.heap.size (.slice oa O.length ocap) O rfl true rfl hown rfl (by omega) hsz ?_; intro v1 w1 ho1 hg1)
            have hgw := grown_ownB (grown_alloc hg _) (World.ownsRow.alloc hown _) hg1
            go_roundw
            case rel =>
              have e1 : (R : Int) - (P : Int) = ((x.toNat % 2 ^ (8 - (j + 1)) : Nat) : Int) := by rw [HR2.out]; omega
              have e2 : (P : Int) / 2 = ((powT (j + 1) : Nat) : Int) := by rw [← HPN.out]; omega
              first
                | exact ⟨j + 1, by omega, by rw [e1], by rw [e2], by rw [HS2.out]; exact ho1, hgw⟩
                | ((repeat apply Exists.intro); refine ⟨⟨j + 1, by omega, ?_, ?_, by rw [HS2.out]; exact ho1, hgw⟩, rfl⟩ <;> first | rw [e1] | rw [e2])
            case measure => simp [intOf]; omega
          · have tge : (R : Int) < (P : Int) := by omega
            rw [decide_eq_false hge] at HS2
            rw [if_neg hge] at HR2
            go_wp2_with (at_builtin; refine wpList_append_bool (w0 := wr) rfl (.tmp 25) (.tmp 29) rfl w.heap.size (.slice oa O.length ocap) O rfl false rfl hown rfl (by omega) hsz ?_; intro v1 w1 ho1 hg1)
            have hgw := grown_ownB (grown_alloc hg _) (World.ownsRow.alloc hown _) hg1
            go_roundw
            case rel =>
              have e2 : (P : Int) / 2 = ((powT (j + 1) : Nat) : Int) := by rw [← HPN.out]; omega
              first
                | exact ⟨j + 1, by omega, by rw [HR2.out], by rw [e2], by rw [HS2.out]; exact ho1, hgw⟩
                | ((repeat apply Exists.intro); refine ⟨⟨j + 1, by omega, ?_, ?_, by rw [HS2.out]; exact ho1, hgw⟩, rfl⟩ <;> first | rw [HR2.out] | rw [e2])
            case measure => simp [intOf]; omega
        · obtain rfl : j = 8 := by omega
          have e0 : powT 8 = 0 := rfl
          rw [e0]
          go_wp2_with fail
          go_roundw
          case rel =>
            have ho2 : OwnB w.heap.size wr (.slice oa (bitsN bs (9 * m + 1 + 8)).length ocap) (bitsN bs (9 * (m + 1))) := hown
            first
              | exact ⟨m + 1, by omega, by go_num, ho2, hg⟩
              | ((repeat apply Exists.intro); refine ⟨⟨m + 1, by omega, ?_, ho2, hg⟩, rfl⟩; go_num)
          case measure => simp [intOf]; omega
    · obtain rfl : m = bs.length := by omega
      clear hrest hlt
      go_wp2_with fail
      go_loopw [3] (fun ov wr => ∃ n : Nat, 9 * bs.length ≤ n ∧ n ≤ 145 ∧ OwnB w.heap.size wr ov (bitsN bs n) ∧ w.grownBy wr none) (fun ov _ => 145 - sliceLenB ov)
      case atStart => exact ⟨9 * bs.length, by omega, by omega, hown, hg⟩
      case round =>
        clear hown hg
        obtain ⟨n, hn1, hn2, hown, hg⟩ := hrel
        obtain ⟨oa, ocap, rfl⟩ := hown.shape
        have hsz := hg.size
        have hol := bitsN_len bs n
        by_cases hlt : n < 145
        · have HS : Hid (bitsN bs (n + 1) = bitsN bs n ++ [false]) := by
            show _ = _
            rw [bitsN_succ, kbit_past bs n (by omega)]
          have HOL : Hid ((bitsN bs n).length = n) := hol
          generalize bitsN bs n = O at *
          have t1 : (O.length : Int) < 145 := by omega
          have t2 : O.length ≤ 1000 := by omega
          clear hol
          go_wp2_with (at_builtin; refine wpList_append_bool (w0 := wr) rfl (.tmp 40) (.tmp 41) rfl w.heap.size (.slice oa O.length ocap) O rfl false rfl hown rfl (by omega) hsz ?_; intro v1 w1 ho1 hg1)
          have hgw := grown_ownB (grown_alloc hg _) (World.ownsRow.alloc hown _) hg1
          obtain ⟨va, vcap, rfl⟩ := ho1.shape
          go_roundw
          case rel =>
            first
              | exact ⟨n + 1, by omega, by omega, by rw [HS.out]; exact ho1, hgw⟩
              | ((repeat apply Exists.intro); exact ⟨⟨n + 1, by omega, by omega, by rw [HS.out]; exact ho1, hgw⟩, rfl⟩)
          case measure => have := HOL.out; simp [sliceLenB]; omega
        · obtain rfl : n = 145 := by omega
          have t1 : ¬ ((bitsN bs 145).length : Int) < 145 := by omega
          go_wp2
          go_ret
          exact ⟨_, rfl, hown, hg⟩
end Go.Proofs.YtdpoickggdgddaaDoor

/-
  The walk of the document's answer to P2.3: partOf.
-/
namespace Go.Proofs.YtdpoickggdgddaaDoor
open Go.RowKit
set_option maxRecDepth 100000 in
set_option maxHeartbeats 1000000 in
theorem partOf_any (w : World) (v u : Value) (a b : List UInt8) (hv : SliceIs w v a) (hu : SliceIs w u b) (ha : a.length ≤ 16) (hb : b.length ≤ 16) :
    Calls Tryd.prog 37 #[v, u] w fun e w' => e = .returned (.int .i64 (partK a b)) ∧ w.grownBy w' none := by
  go_enter Tryd.func37, Tryd.ntmps37
  go_wp2_with fail
  refine (allBits_any _ _ _ hv ha).mono ?_
  rintro e w1 ⟨v1, rfl, ho1, hg1⟩
  go_wp2_with fail
  refine (allBits_any _ _ _ (hu.grown hg1) hb).mono ?_
  rintro e w2 ⟨v2, rfl, ho2, hg2⟩
  obtain ⟨g1, cap1, rfl, hc1⟩ := (ho1.grownNone hg2).block (by intro e; have := bitsN_len a 145; rw [e] at this; simp at this)
  obtain ⟨g2, cap2, rfl, hc2⟩ := ho2.block (by intro e; have := bitsN_len b 145; rw [e] at this; simp at this)
  have hgw := grown_trans hg1 hg2
  clear ho1 ho2 hg1 hg2 hv hu
  rw [bitsN_len] at hc1 hc2 ⊢
  rw [bitsN_len]
  have HC1 : Hid (∀ i, i < 145 → w2.cell? ⟨g1, i, none⟩ = some (.bool (kbit a i))) := fun i hi => by rw [hc1 i hi, bitsN_get _ _ _ hi]
  have HC2 : Hid (∀ i, i < 145 → w2.cell? ⟨g2, i, none⟩ = some (.bool (kbit b i))) := fun i hi => by rw [hc2 i hi, bitsN_get _ _ _ hi]
  clear hc1 hc2
  go_wp2_with fail
  go_loopw [7] (fun iv wr => ∃ m : Nat, m ≤ 145 ∧ iv = .int .i64 (m : Int) ∧ w2.grownBy wr none ∧ ∀ j, j < m → kbit a j = kbit b j) (fun iv _ => 145 - (intOf iv).toNat)
  case atStart => exact ⟨0, by omega, rfl, grown_refl _ _, fun j hj => by omega⟩
  case round =>
    obtain ⟨m, hm, rfl, hgr, hsame⟩ := hrel
    have HSame : Hid (∀ j, j < m → kbit a j = kbit b j) := hsame
    have hgw2 := grown_trans hgw hgr
    clear hsame
    by_cases hlt : m < 145
    · have c1 := hgr.cell (HC1.out m hlt) (by simp)
      have c2 := hgr.cell (HC2.out m hlt) (by simp)
      have t1 : (m : Int) < 145 := by omega
      by_cases he : kbit a m = kbit b m
      · have HE : Hid (kbit a m = kbit b m) := he
        rw [he] at c1
        clear he
        generalize kbit b m = y at c1 c2
        go_wp2_with fail
        go_region
        all_goals go_wp2_with fail
        go_roundw
        case rel =>
          have hs : ∀ j, j < m + 1 → kbit a j = kbit b j := fun j hj => by
            by_cases hjm : j = m
            · subst hjm; exact HE.out
            · exact HSame.out j (by omega)
          first
            | exact ⟨m + 1, by omega, by go_num, grown_drew hgr, hs⟩
            | ((repeat apply Exists.intro); refine ⟨⟨m + 1, by omega, ?_, grown_drew hgr, hs⟩, rfl⟩; go_num)
        case measure => simp [intOf]; omega
      · have HP : Hid (partK a b = (m : Int)) := partK_of a b m hlt HSame.out he
        generalize kbit a m = x at *
        generalize kbit b m = y at *
        have he2 : (!x == y) = true := by cases x <;> cases y <;> simp_all
        clear he
        go_wp2_with fail
        go_region
        all_goals go_wp2
        go_ret
        exact ⟨by rw [HP.out]; rfl, grown_drew hgw2⟩
    · obtain rfl : m = 145 := by omega
      have HP : Hid (partK a b = -1) := partK_none a b HSame.out
      go_wp2
      go_ret
      exact ⟨by rw [HP.out]; rfl, hgw2⟩
end Go.Proofs.YtdpoickggdgddaaDoor

/-
  The walk of the document's answer to P3.6: sides.
-/
namespace Go.Proofs.YtdpoickggdgddaaDoor
open Go.RowKit
set_option maxRecDepth 100000 in
set_option maxHeartbeats 1000000 in
theorem sides_any (w : World) (v : Value) (l : PL) (hv : PairsIs w v l) (hT : Tree l) (h2 : 2 ≤ l.length) :
    Calls Tryd.prog 24 #[v] w fun e w' => ∃ x y, e = .returned (.tuple #[.int .i64 (forkBit l), x, y]) ∧ PairsIs w' x (sideL l (forkBit l).toNat false) ∧ PairsIs w' y (sideL l (forkBit l).toNat true) ∧ w.grownBy w' none := by
  obtain ⟨a, cap, rfl⟩ := hv.shape
  have hroom := hT.room
  have HT : Hid (Tree l) := hT
  have hrange := forkBit_range hT h2
  obtain ⟨B, hB⟩ : ∃ B : Nat, forkBit l = (B : Int) := ⟨(forkBit l).toNat, by omega⟩
  rw [hB, show ((B : Int)).toNat = B from rfl]
  have hB144 : B < 145 := by omega
  have HB : Hid (minTo l l.length = (B : Int)) := hB
  clear hrange hB
  go_enter Tryd.func24, Tryd.ntmps24
  go_wp2_with fail
  obtain ⟨b0, o0, rfl, hat0⟩ := hv.at 0 (by omega)
  have hk0 := (hT.pairs l[0] (List.getElem_mem (by omega))).1
  rw [show l[0] = l.getD 0 ([], []) by simp [show 0 < l.length by omega]] at hk0
  have PO : Hid (∀ w' vi ki, w.grownBy w' none → SliceIs w' vi ki → ki.length ≤ 16 → ∀ v0, SliceIs w' v0 (l.getD 0 ([], [])).1 → Calls Tryd.prog 37 #[v0, vi] w' fun e w'' => e = .returned (.int .i64 (partK (l.getD 0 ([], [])).1 ki)) ∧ w'.grownBy w'' none) := fun w' vi ki _ h1 h2 v0 h0 => partOf_any w' v0 vi _ ki h0 h1 hk0.2 h2
  clear hT
  go_loopw [5, 6] (fun bv i wr => ∃ m : Nat, 1 ≤ m ∧ m ≤ l.length ∧ i = .int .i64 (m : Int) ∧ bv = .int .i64 (minTo l m) ∧ w.grownBy wr none) (fun _ i _ => l.length - (intOf i).toNat)
  case atStart => exact ⟨1, by omega, by omega, rfl, rfl, grown_refl _ _⟩
  case round =>
    obtain ⟨m, hm1, hm, rfl, rfl, hg⟩ := hrel
    by_cases hlt : m < l.length
    · obtain ⟨vk0, vv0, c1, _, s1, _⟩ := hat0.grown hg
      obtain ⟨b, o, e, hat⟩ := hv.at m hlt
      simp only [Option.some.injEq, Addr.mk.injEq] at e
      obtain ⟨rfl, rfl, _⟩ := e
      obtain ⟨vk, vv, d1, _, r1, _⟩ := hat.grown hg
      have hkm := (HT.out.pairs l[m] (List.getElem_mem hlt)).1
      rw [show l[m] = l.getD m ([], []) by simp [hlt]] at hkm
      rw [Nat.zero_mul, Nat.add_zero] at c1
      obtain ⟨ak0, ck0, rfl⟩ := s1.shape
      obtain ⟨ak, ck, rfl⟩ := r1.shape
      have HP : Hid (Calls Tryd.prog 37 #[.slice ak0 (l.getD 0 ([], [])).1.length ck0, .slice ak (l.getD m ([], [])).1.length ck] wr.drew fun e w'' => e = .returned (.int .i64 (partK (l.getD 0 ([], [])).1 (l.getD m ([], [])).1)) ∧ wr.drew.grownBy w'' none) := PO.out wr.drew _ _ (grown_drew hg) r1.drew hkm.2 _ s1.drew
      have HM : Hid (minTo l (m + 1) = if partK (l.getD 0 ([], [])).1 (l.getD m ([], [])).1 < minTo l m then partK (l.getD 0 ([], [])).1 (l.getD m ([], [])).1 else minTo l m) := by
        show _ = _
        obtain ⟨k, rfl⟩ : ∃ k, m = k + 1 := ⟨m - 1, by omega⟩
        rw [minTo]
      generalize (l.getD 0 ([], [])).1.length = n1 at *
      generalize (l.getD m ([], [])).1.length = n2 at *
      generalize partK (l.getD 0 ([], [])).1 (l.getD m ([], [])).1 = N at *
      generalize minTo l m = M at *
      have i1 : (m : Int) < (l.length : Int) := by omega
      clear s1 r1 hat hkm
      go_upto_region 5 with fail
      go_cut [7] (fun s7 wx => s7 = .int .i64 N ∧ w.grownBy wx none)
      case first =>
        go_region_with (go_at_call 37; refine HP.out.mono ?_; rintro e w1 ⟨rfl, hg1⟩)
        all_goals (go_wp2_with fail; go_meet; case rel => exact ⟨rfl, grown_trans (grown_drew hg) hg1⟩)
      case rest =>
        obtain ⟨rfl, hgc⟩ := hcut
        clear hg c1 d1 HP
        by_cases hlt2 : N < M
        · have HM2 : Hid (minTo l (m + 1) = N) := by show _ = _; rw [HM.out, if_pos hlt2]
          clear HM
          go_wp2_with fail
          go_roundw
          case rel =>
            first
              | exact ⟨m + 1, by omega, by omega, by go_num, by rw [HM2.out], hgc⟩
              | ((repeat apply Exists.intro); refine ⟨⟨m + 1, by omega, by omega, ?_, by rw [HM2.out], hgc⟩, rfl⟩; go_num)
          case measure => simp [intOf]; omega
        · have HM2 : Hid (minTo l (m + 1) = M) := by show _ = _; rw [HM.out, if_neg hlt2]
          clear HM
          go_wp2_with fail
          go_roundw
          case rel =>
            first
              | exact ⟨m + 1, by omega, by omega, by go_num, by rw [HM2.out], hgc⟩
              | ((repeat apply Exists.intro); refine ⟨⟨m + 1, by omega, by omega, ?_, by rw [HM2.out], hgc⟩, rfl⟩; go_num)
          case measure => simp [intOf]; omega
    · obtain rfl : m = l.length := by omega
      rw [HB.out]
      have HG0 : Hid (w.grownBy wr none) := hg
      clear hlt PO hat0 hk0
      go_wp2_with fail
      clear hg
      go_loopw [8, 9, 10] (fun lv rv i wr => ∃ m : Nat, m ≤ l.length ∧ i = .int .i64 (m : Int) ∧ OwnP w.heap.size wr lv (sideL (l.take m) B false) ∧ OwnP w.heap.size wr rv (sideL (l.take m) B true) ∧ (∀ k, lv.ownBlock = some k → rv.ownBlock ≠ some k) ∧ w.grownBy wr none) (fun _ _ i _ => l.length - (intOf i).toNat)
      case atStart => exact ⟨0, by omega, rfl, ownP_nil _ _, ownP_nil _ _, (fun k h => by cases h), HG0.out⟩
      case round =>
        obtain ⟨m, hm', rfl, hl, hr, hap, hg⟩ := hrel
        by_cases hlt : m < l.length
        · obtain ⟨b, o, e, hat⟩ := hv.at m hlt
          simp only [Option.some.injEq, Addr.mk.injEq] at e
          obtain ⟨rfl, rfl, _⟩ := e
          obtain ⟨vk, vv, c1, c2, s1, s2⟩ := hat
          have hpm := HT.out.pairs l[m] (List.getElem_mem hlt)
          rw [show l[m] = l.getD m ([], []) by simp [hlt]] at hpm
          have hsf := side_take l B false m hlt
          have hst := side_take l B true m hlt
          have hlen1 := Nat.le_trans (side_len (l.take m) B false) (List.length_take_le m l)
          have hlen2 := Nat.le_trans (side_len (l.take m) B true) (List.length_take_le m l)
          generalize l.getD m ([], []) = P at *
          generalize sideL (l.take m) B false = L at *
          generalize sideL (l.take m) B true = R at *
          have e1 := hg.cell c1 (by simp)
          have e2 := hg.cell c2 (by simp)
          have AB : Hid (Calls Tryd.prog 38 #[vk] wr fun e w' => ∃ v', e = .returned v' ∧ OwnB wr.heap.size w' v' (bitsN P.1 145) ∧ wr.grownBy w' none) := allBits_any wr vk P.1 (s1.grown hg) hpm.1.2
          have SK : Hid (SliceIs w vk P.1) := s1
          have SV : Hid (SliceIs w vv P.2) := s2
          obtain ⟨ak, ck, rfl⟩ := s1.shape
          obtain ⟨av, cv, rfl⟩ := s2.shape
          have i1 : (m : Int) < (l.length : Int) := by omega
          clear s1 s2 c1 c2 hpm
          go_wp2_with fail
          refine AB.out.mono ?_
          rintro e w1 ⟨v1, rfl, ho1, hg1⟩
          obtain ⟨g, bcap, rfl, hcell⟩ := ho1.block (by intro e; have := bitsN_len P.1 145; rw [e] at this; simp at this)
          rw [bitsN_len] at hcell ⊢
          have c0 := hcell B hB144
          rw [bitsN_get _ _ _ hB144] at c0
          have hg1w := grown_trans hg hg1
          have e3 := hg1.cell e1 (by simp)
          have e4 := hg1.cell e2 (by simp)
          have HK1 : Hid (PartIs w.heap.size w1 (.slice ak P.1.length ck) P.1) := SK.out.part hg1w _ (Nat.le_refl _)
          have HV1 : Hid (PartIs w.heap.size w1 (.slice av P.2.length cv) P.2) := SV.out.part hg1w _ (Nat.le_refl _)
          have hl1 := hl.grownNone hg1
          have hr1 := hr.grownNone hg1
          have hsz1 := hg1w.size
          have hll := hl1.lt
          have hrl := hr1.lt
          obtain ⟨la, lc, rfl⟩ := hl1.shape
          obtain ⟨ra, rc, rfl⟩ := hr1.shape
          have HAP : Hid (∀ k, (Value.slice la L.length lc).ownBlock = some k → (Value.slice ra R.length rc).ownBlock ≠ some k) := hap
          have HLL : Hid (∀ k, (Value.slice la L.length lc).ownBlock = some k → w.heap.size ≤ k ∧ k < w1.heap.size) := hll
          have HRL : Hid (∀ k, (Value.slice ra R.length rc).ownBlock = some k → w.heap.size ≤ k ∧ k < w1.heap.size) := hrl
          have i2 : (B : Int) < 145 := by omega
          clear ho1 hcell hl hr e1 e2 AB SK SV hap hll hrl hg1 hg
          cases hb : kbit P.1 B with
          | true =>
            rw [hb] at c0 hsf hst
            rw [if_neg (by simp)] at hsf
            rw [if_pos rfl] at hst
            have HSF : Hid (sideL (l.take (m + 1)) B false = L) := hsf
            have HST : Hid (sideL (l.take (m + 1)) B true = R ++ [P]) := hst
            clear hsf hst
            go_wp2_with (at_builtin; refine wpList_append_pair_at (w0 := w1) rfl _ _ rfl w.heap.size _ R rfl hr1 _ _ P HK1.out HV1.out rfl w1.heap.size rfl rfl (by omega) hsz1 ?_; intro v2 w2 ho2 hg2 hb2)
            have hgw2 := grown_ownP (grown_alloc hg1w _) (hr1.alloc _) hg2
            have hoth := OwnP.other (hl1.alloc (.cells #[.slice ak P.1.length ck, .slice av P.2.length cv] 35)) (hr1.alloc _) hg2 HAP.out
            have HAP2 : Hid (∀ k, (Value.slice la L.length lc).ownBlock = some k → v2.ownBlock ≠ some k) := fun k h1 h2 => by
              rcases hb2 with hb2 | hb2
              · rw [hb2] at h2; exact HAP.out k h1 h2
              · rw [hb2] at h2
                have := (HLL.out k h1).2
                simp at h2
                omega
            clear hb2
            go_roundw
            case rel =>
              first
                | exact ⟨m + 1, by omega, by go_num, by rw [HSF.out]; exact hoth, by rw [HST.out]; exact ho2, HAP2.out, hgw2⟩
                | ((repeat apply Exists.intro); refine ⟨⟨m + 1, by omega, ?_, by rw [HSF.out]; exact hoth, by rw [HST.out]; exact ho2, HAP2.out, hgw2⟩, rfl⟩; go_num)
            case measure => simp [intOf]; omega
          | false =>
            rw [hb] at c0 hsf hst
            rw [if_pos rfl] at hsf
            rw [if_neg (by simp)] at hst
            have HSF : Hid (sideL (l.take (m + 1)) B false = L ++ [P]) := hsf
            have HST : Hid (sideL (l.take (m + 1)) B true = R) := hst
            clear hsf hst
            go_wp2_with (at_builtin; refine wpList_append_pair_at (w0 := w1) rfl _ _ rfl w.heap.size _ L rfl hl1 _ _ P HK1.out HV1.out rfl w1.heap.size rfl rfl (by omega) hsz1 ?_; intro v2 w2 ho2 hg2 hb2)
            have hgw2 := grown_ownP (grown_alloc hg1w _) (hl1.alloc _) hg2
            have hoth := OwnP.other (hr1.alloc (.cells #[.slice ak P.1.length ck, .slice av P.2.length cv] 35)) (hl1.alloc _) hg2 (fun k h1 h2 => HAP.out k h2 h1)
            have HAP2 : Hid (∀ k, v2.ownBlock = some k → (Value.slice ra R.length rc).ownBlock ≠ some k) := fun k h2 h1 => by
              rcases hb2 with hb2 | hb2
              · rw [hb2] at h2; exact HAP.out k h2 h1
              · rw [hb2] at h2
                have := (HRL.out k h1).2
                simp at h2
                omega
            clear hb2
            go_roundw
            case rel =>
              first
                | exact ⟨m + 1, by omega, by go_num, by rw [HSF.out]; exact ho2, by rw [HST.out]; exact hoth, HAP2.out, hgw2⟩
                | ((repeat apply Exists.intro); refine ⟨⟨m + 1, by omega, ?_, by rw [HSF.out]; exact ho2, by rw [HST.out]; exact hoth, HAP2.out, hgw2⟩, rfl⟩; go_num)
            case measure => simp [intOf]; omega
        · obtain rfl : m = l.length := by omega
          rw [List.take_length] at hl hr
          obtain ⟨la, lc, rfl⟩ := hl.shape
          obtain ⟨ra, rc, rfl⟩ := hr.shape
          clear hap
          go_wp2
          go_ret3
          exact ⟨_, _, rfl, hl.list, hr.list, hg⟩
end Go.Proofs.YtdpoickggdgddaaDoor

/-
  Lanes as signed numbers of 64 bits: how the model's arithmetic on int looks there. No program is named.
-/
namespace Go.Proofs.YtdpoickggdgddaaDoor
open Go.RowKit

/-- A lane, as the signed number that a slot holds. -/
def I (x : BitVec 64) : Int := x.toInt
theorem I_lo (x : BitVec 64) : -9223372036854775808 ≤ I x := by have := BitVec.le_toInt x; unfold I; simpa using this
theorem I_hi (x : BitVec 64) : I x ≤ 9223372036854775807 := by have := BitVec.toInt_lt (x := x); unfold I; simp at this; omega
theorem ofInt_I (x : BitVec 64) : BitVec.ofInt 64 (I x) = x := by unfold I; exact BitVec.ofInt_toInt
theorem wrap_eq_ofInt (n : Int) : IntKind.i64.wrap n = I (BitVec.ofInt 64 n) := by
  rw [IntKind.wrap_i64]; unfold I
  rw [BitVec.toInt_ofInt, Int.bmod_def, show ((2 ^ 64 : Nat) : Int) = 18446744073709551616 from rfl]
  split <;> omega
theorem wrap_toNat_I (x : BitVec 64) : IntKind.i64.wrap (x.toNat : Int) = I x := by
  rw [wrap_eq_ofInt, BitVec.ofInt_natCast]; simp
theorem bits_xor_I (x y : BitVec 64) : bits .xor .i64 (I x) (I y) = I (x ^^^ y) := by
  show IntKind.i64.wrap ((BitVec.ofInt 64 (I x) ^^^ BitVec.ofInt 64 (I y)).toNat : Int) = _
  rw [ofInt_I, ofInt_I, wrap_toNat_I]
theorem bits_or_I (x y : BitVec 64) : bits .or .i64 (I x) (I y) = I (x ||| y) := by
  show IntKind.i64.wrap ((BitVec.ofInt 64 (I x) ||| BitVec.ofInt 64 (I y)).toNat : Int) = _
  rw [ofInt_I, ofInt_I, wrap_toNat_I]
theorem bits_and_I (x y : BitVec 64) : bits .and .i64 (I x) (I y) = I (x &&& y) := by
  show IntKind.i64.wrap ((BitVec.ofInt 64 (I x) &&& BitVec.ofInt 64 (I y)).toNat : Int) = _
  rw [ofInt_I, ofInt_I, wrap_toNat_I]
theorem wrap_add_I (x y : BitVec 64) : IntKind.i64.wrap (I x + I y) = I (x + y) := by
  rw [wrap_eq_ofInt, BitVec.ofInt_add, ofInt_I, ofInt_I]
theorem wrap_mul_I (x y : BitVec 64) : IntKind.i64.wrap (I x * I y) = I (x * y) := by
  rw [wrap_eq_ofInt, BitVec.ofInt_mul, ofInt_I, ofInt_I]
theorem wrap_sub_I (x y : BitVec 64) : IntKind.i64.wrap (I x - I y) = I (x - y) := by
  rw [wrap_eq_ofInt, Int.sub_eq_add_neg, BitVec.ofInt_add, BitVec.ofInt_neg, ofInt_I, ofInt_I, BitVec.sub_eq_add_neg]
theorem not_I (x : BitVec 64) : -1 - I x = I (~~~x) := by
  unfold I; rw [BitVec.toInt_not]
  have h1 := BitVec.le_toInt x; have h2 := BitVec.toInt_lt (x := x)
  simp at h1 h2
  have hb : x.toInt = if 2 * x.toNat < 2 ^ 64 then (x.toNat : Int) else (x.toNat : Int) - 2 ^ 64 := BitVec.toInt_eq_toNat_cond x
  rw [Int.bmod_def]
  have := x.isLt
  split at hb <;> split <;> simp at * <;> omega
theorem I_zero : I 0 = 0 := by decide
theorem I_small (n : Nat) (h : n < 9223372036854775808) : I (BitVec.ofNat 64 n) = (n : Int) := by
  have := wrap_eq_ofInt (n : Int)
  rw [BitVec.ofInt_natCast] at this
  rw [← this, IntKind.wrap_i64]; omega
theorem shr_I (x : BitVec 64) (k : Nat) : I x / 2 ^ k = I (x.sshiftRight k) := by
  unfold I
  rw [BitVec.toInt_sshiftRight, Int.shiftRight_eq_div_pow]
  simp
end Go.Proofs.YtdpoickggdgddaaDoor
