/-
  Texts of this proof, joined: KTree, KSame, Some, KeyO, KMake, KMakeS, KMakeP, CheckC, CheckP, TPairP, CmpB, TCCheck, TCheckP, PosF.
-/
import Derived.Test.YtdpoickggdgddabDoorPart3
import Derived.Test.YtdpoickggdgddabDoorPart1
import Derived.Test.YtdpoickggdgddabDoorPart2
import Derived.Deep.RegionWith
import Derived.Handy
import Derived.Lib.BytesEntry
/-
  A tree out of raw items. No program is named.
-/
namespace Go.Proofs.YtdpoickggdgddabDoor
/-- A pair out of an item. -/
def itemP (it : Pr) : Pr := (keyF it.1, it.2.take 32)
theorem itemP_ok (it : Pr) : (1 ≤ (itemP it).1.length ∧ (itemP it).1.length ≤ 16) ∧ (itemP it).2.length ≤ 32 := by
  refine ⟨keyF_len it.1, ?_⟩
  simp [itemP]; omega
/-- The tree of items. -/
def mkT (l : PL) : PL := l.foldl (fun t it => putL t (itemP it)) []
theorem mkT_snoc (l : PL) (it : Pr) : mkT (l ++ [it]) = putL (mkT l) (itemP it) := by simp [mkT]
theorem mkT_take (l : PL) (m : Nat) (h : m < l.length) : mkT (l.take (m + 1)) = putL (mkT (l.take m)) (itemP (l.getD m ([], []))) := by
  rw [List.take_succ_eq_append_getElem h, mkT_snoc]; simp [h]
theorem put_pairs (t : PL) (p : Pr) (h : ∀ q ∈ t, (1 ≤ q.1.length ∧ q.1.length ≤ 16) ∧ q.2.length ≤ 32) (hp : (1 ≤ p.1.length ∧ p.1.length ≤ 16) ∧ p.2.length ≤ 32) : ∀ q ∈ putL t p, (1 ≤ q.1.length ∧ q.1.length ≤ 16) ∧ q.2.length ≤ 32 := by
  intro q hq
  rcases mem_put t p q hq with rfl | hq
  · exact hp
  · exact h q hq
theorem mkT_pre (l : PL) (n : Nat) (hn : l.length ≤ n) (h60 : n ≤ 60) : Tree (mkT l) ∧ (mkT l).length ≤ l.length := by
  suffices H : ∀ (l t : PL), Rises t → (∀ q ∈ t, (1 ≤ q.1.length ∧ q.1.length ≤ 16) ∧ q.2.length ≤ 32) → Rises (l.foldl (fun t it => putL t (itemP it)) t) ∧ (∀ q ∈ l.foldl (fun t it => putL t (itemP it)) t, (1 ≤ q.1.length ∧ q.1.length ≤ 16) ∧ q.2.length ≤ 32) ∧ (l.foldl (fun t it => putL t (itemP it)) t).length ≤ t.length + l.length by
    obtain ⟨h1, h2, h3⟩ := H l [] List.Pairwise.nil (by simp)
    have h4 : (mkT l).length ≤ l.length := by
      unfold mkT
      simpa using h3
    exact ⟨⟨by omega, h2, h1⟩, h4⟩
  intro l
  induction l with
  | nil => intro t h1 h2; exact ⟨h1, h2, by simp⟩
  | cons it r ih =>
    intro t h1 h2
    obtain ⟨g1, g2, g3⟩ := ih (putL t (itemP it)) (put_rises t _ h1) (put_pairs t _ h2 (itemP_ok it))
    refine ⟨g1, g2, Nat.le_trans g3 ?_⟩
    have := put_len t (itemP it)
    simp; omega
theorem mkT_tree (l : PL) (n : Nat) (hn : n ≤ 60) : Tree (mkT (l.take n)) := (mkT_pre _ n (by simp; omega) hn).1
theorem mkT_len (l : PL) (n : Nat) (hn : n ≤ 60) : (mkT (l.take n)).length ≤ n := Nat.le_trans (mkT_pre (l.take n) n (by simp; omega) hn).2 (by simp; omega)
/-- Put, by the place where it comes to stand. -/
theorem put_pos : ∀ (t : PL) (p : Pr) (k : Nat), k ≤ t.length → (∀ j, j < k → klt (t.getD j ([], [])).1 p.1 = true) → (k < t.length → klt (t.getD k ([], [])).1 p.1 = false) →
    putL t p = if k < t.length ∧ (t.getD k ([], [])).1 = p.1 then t.set k p else t.take k ++ ([p] ++ t.drop k)
  | [], p, k, hk, _, _ => by
    obtain rfl : k = 0 := by simpa using hk
    simp [putL]
  | q :: r, p, 0, _, _, h2 => by
    have h := h2 (by simp)
    simp only [List.getD_cons_zero] at h
    rw [putL, if_neg (by rw [h]; simp)]
    by_cases e : q.1 = p.1
    · rw [if_pos e, if_pos ⟨by simp, by simpa using e⟩]; simp
    · rw [if_neg e, if_neg (fun h => e (by simpa using h.2))]; simp
  | q :: r, p, k + 1, hk, h1, h2 => by
    have h := h1 0 (by omega)
    simp only [List.getD_cons_zero] at h
    rw [putL, if_pos h, put_pos r p k (by simpa using hk) (fun j hj => by simpa using h1 (j + 1) (by omega)) (fun hk => by simpa using h2 (by simpa using hk))]
    by_cases e : k < r.length ∧ (r.getD k ([], [])).1 = p.1
    · rw [if_pos e, if_pos ⟨by simpa using e.1, by simpa using e.2⟩]; simp
    · rw [if_neg e, if_neg (fun h => e ⟨by simpa using h.1, by simpa using h.2⟩)]; simp
end Go.Proofs.YtdpoickggdgddabDoor

/-
  The walk of canopykeep.same.
-/
namespace Go.Proofs.YtdpoickggdgddabDoor
open Go.RowKit
theorem same_any (w : World) (v1 v2 : Value) (b1 b2 : List UInt8) (h1 : SliceIs w v1 b1) (h2 : SliceIs w v2 b2) :
    Calls Tryd.prog 12 #[v1, v2] w fun e w' => e = .returned (.bool (decide (b1 = b2))) ∧ w' = w := by
  have c1 := conv_bytes w v1 b1 h1
  have c2 := conv_bytes w v2 b2 h2
  go_enter Tryd.func12, Tryd.ntmps12
  go_wp2
  go_ret
  refine ⟨?_, rfl⟩
  have e : ((textOf b1).toList == (textOf b2).toList) = decide (b1 = b2) := by rw [textOf_list, textOf_list]; by_cases h : b1 = b2 <;> simp [h]
  rw [← e]
  rfl
end Go.Proofs.YtdpoickggdgddabDoor

/-
  The walk of canopykeep.some.
-/
namespace Go.Proofs.YtdpoickggdgddabDoor
open Go.RowKit
theorem some_any (w : World) (v : Value) (bs : List UInt8) (most : Nat) (hm : most ≤ 100000) (hv : SliceIs w v bs) (hl : bs.length ≤ maxLen) :
    Calls Tryd.prog 13 #[v, .int .i64 (most : Int)] w fun e w' => ∃ v', e = .returned v' ∧ Own w.heap.size w' v' (bs.take most) ∧ w.grownBy w' none := by
  obtain ⟨a, cap, rfl, hc, hrest⟩ := hv
  have hv : SliceIs w (.slice a bs.length cap) bs := ⟨a, cap, rfl, hc, hrest⟩
  clear hrest
  unfold maxLen at hl
  by_cases hlt : bs.length ≤ most
  · have hs := hv.take bs.length (Nat.le_refl _)
    rw [List.take_length] at hs
    rw [List.take_of_length_le hlt]
    have i1 : (bs.length : Int) ≤ (most : Int) := by omega
    go_enter Tryd.func13, Tryd.ntmps13
    go_wp2_with (at_builtin; refine wpList_append_bytes rfl _ _ rfl w.heap.size (.slice none 0 0) [] rfl (own_nil _ _) a bs.length cap bs rfl (by exact hs) (by simp; omega) (Nat.le_refl _) ?_; intro v' w' ho hg)
    go_ret
    exact ⟨v', rfl, ho, hg⟩
  · have hs := hv.take most (by omega)
    have i1 : (most : Int) < (bs.length : Int) := by omega
    go_enter Tryd.func13, Tryd.ntmps13
    go_wp2_with (at_builtin; refine wpList_append_bytes rfl _ _ rfl w.heap.size (.slice none 0 0) [] rfl (own_nil _ _) a most cap _ rfl (by exact hs) (by simp; omega) (Nat.le_refl _) ?_; intro v' w' ho hg)
    go_ret
    exact ⟨v', rfl, ho, hg⟩
end Go.Proofs.YtdpoickggdgddabDoor

/-
  The walk of canopykeep.key: what comes is the call's own.
-/
namespace Go.Proofs.YtdpoickggdgddabDoor
open Go.RowKit
theorem keyO_any (w : World) (v : Value) (bs : List UInt8) (hv : SliceIs w v bs) (hl : bs.length ≤ maxLen) :
    Calls Tryd.prog 7 #[v] w fun e w' => ∃ v', e = .returned v' ∧ Own w.heap.size w' v' (keyF bs) ∧ w.grownBy w' none := by
  obtain ⟨a, cap, rfl, hc, hrest⟩ := hv
  have hv : SliceIs w (.slice a bs.length cap) bs := ⟨a, cap, rfl, hc, hrest⟩
  clear hrest
  by_cases h0 : bs.length = 0
  · rw [keyF, if_pos h0]
    have i0 : (bs.length : Int) = 0 := by omega
    go_enter Tryd.func7, Tryd.ntmps7
    go_wp2
    go_ret
    exact ⟨_, rfl, own_new w.heap.size w [0] (Nat.le_refl _) (by unfold maxLen; simp), World.grownBy_alloc _ _ _⟩
  · rw [keyF, if_neg h0]
    have i0 : ¬ (bs.length : Int) = 0 := by omega
    go_enter Tryd.func7, Tryd.ntmps7
    go_wp2_with fail
    refine (some_any _ _ _ 16 (by omega) hv hl).mono ?_
    rintro e w1 ⟨v1, rfl, ho1, hg1⟩
    go_wp2
    go_ret
    exact ⟨v1, rfl, ho1, hg1⟩
end Go.Proofs.YtdpoickggdgddabDoor

/-
  The walk of canopykeep.Pairs: a tree out of raw items.
-/
namespace Go.Proofs.YtdpoickggdgddabDoor
open Go.RowKit
set_option maxRecDepth 100000 in
set_option maxHeartbeats 2000000 in
theorem kpairs_any (w : World) (v : Value) (l : PL) (n : Nat) (hv : PairsIs w v l) (hl : Fits l) (hn : n ≤ 60) :
    Calls Tryd.prog 4 #[v, .int .i64 (n : Int)] w fun e w' => ∃ v', e = .returned v' ∧ OwnP w.heap.size w' v' (mkT (l.take n)) ∧ w.grownBy w' none := by
  obtain ⟨a, cap, rfl⟩ := hv.shape
  go_enter Tryd.func4, Tryd.ntmps4
  go_wp2_with fail
  go_loopw [5, 6] (fun cv i wr => ∃ (m : Nat) (T : PL), m ≤ l.length ∧ m ≤ n ∧ i = .int .i64 (m : Int) ∧ mkT (l.take m) = T ∧ T.length ≤ m ∧ OwnP w.heap.size wr cv T ∧ w.grownBy wr none) (fun _ i _ => l.length - (intOf i).toNat)
  case atStart => exact ⟨0, [], by omega, by omega, rfl, rfl, by simp, ownP_nil _ _, grown_refl _ _⟩
  case round =>
    obtain ⟨m, T, hm, hmn, rfl, hT, hTl, hown, hg⟩ := hrel
    by_cases hlt : m < l.length ∧ m < n
    · obtain ⟨hlt1, hlt2⟩ := hlt
      obtain ⟨b, o, rfl, hat⟩ := hv.at m hlt1
      obtain ⟨vk, vv, c1, c2, s1, s2⟩ := hat.grown hg
      have hT2 := mkT_take l m hlt1
      obtain ⟨hl1, hl2⟩ := hl.each m hlt1
      generalize l.getD m ([], []) = It at *
      rw [hT] at hT2
      have HT2 : Hid (mkT (l.take (m + 1)) = putL T (itemP It)) := hT2
      have KY : Hid (∀ w', wr.grownBy w' none → Calls Tryd.prog 7 #[vk] w' fun e w'' => ∃ v', e = .returned v' ∧ Own w'.heap.size w'' v' (itemP It).1 ∧ w'.grownBy w'' none) := fun w' hg => keyO_any w' vk It.1 (s1.grown hg) (by unfold maxLen; omega)
      have SO : Hid (∀ w', wr.grownBy w' none → Calls Tryd.prog 13 #[vv, .int .i64 32] w' fun e w'' => ∃ v', e = .returned v' ∧ Own w'.heap.size w'' v' (itemP It).2 ∧ w'.grownBy w'' none) := fun w' hg => some_any w' vv It.2 32 (by omega) (s2.grown hg) (by unfold maxLen; omega)
      have hP := itemP_ok It
      generalize itemP It = P at *
      obtain ⟨ak, ck, rfl⟩ := s1.shape
      obtain ⟨av, cv, rfl⟩ := s2.shape
      obtain ⟨ca, ccap, rfl⟩ := hown.shape
      clear hat s1 s2 hT2 hT
      have i1 : (m : Int) < (l.length : Int) := by omega
      have i2 : (m : Int) < (n : Int) := by omega
      go_upto_region 5 with fail
      go_cut [7] (fun s7 wx => ∃ (pb : Nat) (xa : Option Addr) (xc : Nat) (ya : Option Addr) (yc : Nat), s7 = .pointer (some ⟨pb, 0, none⟩) ∧ wx.heap[pb]? = some (.cells #[.slice xa P.1.length xc, .slice ya P.2.length yc] 28) ∧ PartIs w.heap.size wx (.slice xa P.1.length xc) P.1 ∧ PartIs w.heap.size wx (.slice ya P.2.length yc) P.2 ∧ wr.grownBy wx none)
      case first =>
        have hgd := grown_drew (grown_refl wr none)
        have hga0 : wr.grownBy (wr.alloc (.cells #[.slice none 0 0, .slice none 0 0] 28)) none := grown_alloc (grown_refl wr none) _
        have hga : wr.grownBy (wr.alloc (.cells #[.slice none 0 0, .slice none 0 0] 28)).drew none := grown_drew hga0
        have d1 := hga0.cell c1 (by simp)
        have d2 := hga0.cell c2 (by simp)
        go_region_with (first
          | (go_at_call 7; refine (KY.out _ ?_).mono ?_; first | exact hgd | exact hga
             rintro e w1 ⟨v1, rfl, ok, hg1⟩; obtain ⟨xa, xc, rfl⟩ := ok.shape
             have hgk : wr.grownBy w1 none := by first | exact grown_trans hgd hg1 | exact grown_trans hga hg1
             have hc2 := hgk.cell c2 (by simp)
             have hc3 := (grown_alloc (grown_refl w1 none) (.cells #[.slice none 0 0, .slice none 0 0] 28)).cell hc2 (by simp))
          | (go_at_call 13; refine (SO.out _ ?_).mono ?_; first | exact hgk | exact grown_alloc hgk _
             rintro e w2 ⟨v2, rfl, ov, hg2⟩; obtain ⟨ya, yc, rfl⟩ := ov.shape
             first
               | (refine pair_room_elim (b := wr.heap.size) (grown_trans hg1 hg2) (heap_alloc_new wr (.cells #[.slice none 0 0, .slice none 0 0] 28)) ?_; intro hpb0 cA cB fA fB; have HPB : Hid (w2.heap[wr.heap.size]? = some (.cells #[.slice none 0 0, .slice none 0 0] 28)) := hpb0; clear hpb0)
               | (refine pair_room_elim (b := w1.heap.size) hg2 (heap_alloc_new w1 (.cells #[.slice none 0 0, .slice none 0 0] 28)) ?_; intro hpb0 cA cB fA fB; have HPB : Hid (w2.heap[w1.heap.size]? = some (.cells #[.slice none 0 0, .slice none 0 0] 28)) := hpb0; clear hpb0)
               | skip))
        all_goals (go_wp2_with fail; go_meet; case rel =>
          have hs0 := hg.size
          have hs1 := hgk.size
          first
            | exact ⟨w2.heap.size, xa, xc, ya, yc, rfl, heap_alloc_new w2 _, ((ok.grownNone hg2).alloc _).part, (ov.alloc _).part, grown_alloc (grown_trans hgk hg2) _⟩
            | exact ⟨wr.heap.size, xa, xc, ya, yc, rfl, (pair_stored (base := w.heap.size) HPB.out (by omega) _ _).1, (pair_stored (base := w.heap.size) HPB.out (by omega) _ _).2.1 _ _ (ok.grownNone hg2).part, (pair_stored (base := w.heap.size) HPB.out (by omega) _ _).2.1 _ _ ov.part, (pair_stored (base := w.heap.size) HPB.out (by omega) _ _).2.2 wr (Nat.le_refl _) (grown_trans hgk hg2)⟩
            | exact ⟨w1.heap.size, xa, xc, ya, yc, rfl, (pair_stored (base := w.heap.size) HPB.out (by omega) _ _).1, (pair_stored (base := w.heap.size) HPB.out (by omega) _ _).2.1 _ _ ((ok.alloc _).grownNone hg2).part, (pair_stored (base := w.heap.size) HPB.out (by omega) _ _).2.1 _ _ ov.part, (pair_stored (base := w.heap.size) HPB.out (by omega) _ _).2.2 wr hs1 (grown_trans (grown_alloc hgk _) hg2)⟩)
      case rest =>
        obtain ⟨pb, xa, xc, ya, yc, rfl, hpb, hpk, hpv, hgx⟩ := hcut
        have hgw := grown_trans hg hgx
        have hownx := OwnP.grownNone hown hgx
        obtain ⟨c3, c4, _, _⟩ := pair_room (grown_refl wc none) hpb
        have CB : Hid (∀ w', wc.grownBy w' none → (convert 24 9 (.slice xa P.1.length xc)).run Tryd.prog w' = .ok (.string (textOf P.1)) w') := fun w' hg => conv_bytes w' _ _ (hpk.slice.grown hg)
        clear hown hg hgx c1 c2 KY SO
        have HPB : Hid (wc.heap[pb]? = some (.cells #[.slice xa P.1.length xc, .slice ya P.2.length yc] 28)) := hpb
        have HPK : Hid (PartIs w.heap.size wc (.slice xa P.1.length xc) P.1) := hpk
        have HPV : Hid (PartIs w.heap.size wc (.slice ya P.2.length yc) P.2) := hpv
        have HOX : Hid (OwnP w.heap.size wc (.slice ca T.length ccap) T) := hownx
        clear hpb hpk hpv hownx
        go_wp2_with fail
        go_loopw [8] (fun s wr => ∃ k : Nat, k ≤ T.length ∧ s = .int .i64 (k : Int) ∧ wc.grownBy wr none ∧ ∀ j, j < k → klt (T.getD j ([], [])).1 P.1 = true) (fun s _ => T.length - (intOf s).toNat)
        case atStart => exact ⟨0, by omega, rfl, grown_refl _ _, fun j hj => by omega⟩
        case round =>
          obtain ⟨k, hk, rfl, hgr, hbef⟩ := hrel
          have HB : Hid (∀ j, j < k → klt (T.getD j ([], [])).1 P.1 = true) := hbef
          have c5 := hgr.cell c3 (by simp)
          clear hbef
          obtain ⟨z, hz⟩ : ∃ z : Bool, (decide (k < T.length) && klt (T.getD k ([], [])).1 P.1) = z := ⟨_, rfl⟩
          have HZ : Hid ((decide (k < T.length) && klt (T.getD k ([], [])).1 P.1) = z) := hz
          go_upto_region 7 with fail
          go_cut [49] (fun s49 wx => s49 = .bool z ∧ wc.grownBy wx none)
          case first =>
            by_cases hkl : k < T.length
            · have t3 : (k : Int) < (T.length : Int) := by omega
              obtain ⟨g, o2, rfl, hat⟩ := (HOX.out.list.grown hgr).at k hkl
              obtain ⟨qk, qv, e1, e2, r1, r2⟩ := hat
              have cv1 := conv_bytes wr.drew _ _ ((HPK.out.slice.grown hgr).drew)
              have cv2 := conv_bytes wr.drew _ _ r1.drew
              obtain ⟨qa, qc, rfl⟩ := r1.shape
              clear r1 r2 e2
              generalize (T.getD k ([], [])).1 = q at *
              have hkt : Op.bytesLess (textOf q).toList (textOf P.1).toList = z := by rw [textOf_list, textOf_list, ← hz, decide_eq_true hkl]; rfl
              clear hz
              go_region
              all_goals (go_wp2_with fail; go_meet; case rel => exact ⟨rfl, grown_drew hgr⟩)
            · have t3 : ¬ (k : Int) < (T.length : Int) := by omega
              have hz' : z = false := by rw [← hz, decide_eq_false hkl]; rfl
              subst hz'
              clear hz
              go_region
              all_goals (go_wp2_with fail; go_meet; case rel => exact ⟨rfl, grown_drew hgr⟩)
          case rest =>
            clear hgr c5
            obtain ⟨rfl, hgr⟩ := hcut
            clear hz
            cases z with
            | true =>
              have hZ := HZ.out
              simp only [Bool.and_eq_true, decide_eq_true_eq] at hZ
              obtain ⟨hkl, hkt⟩ := hZ
              have HKT : Hid (klt (T.getD k ([], [])).1 P.1 = true) := hkt
              clear hkt
              go_wp2_with fail
              go_roundw
              case rel =>
                have hs : ∀ j, j < k + 1 → klt (T.getD j ([], [])).1 P.1 = true := fun j hj => by
                  by_cases hjk : j = k
                  · subst hjk; exact HKT.out
                  · exact HB.out j (by omega)
                first
                  | exact ⟨k + 1, by omega, by go_num, hgr, hs⟩
                  | ((repeat apply Exists.intro); refine ⟨⟨k + 1, by omega, ?_, hgr, hs⟩, rfl⟩; go_num)
              case measure => simp [intOf]; omega
            | false =>
              have HNX : Hid (k < T.length → klt (T.getD k ([], [])).1 P.1 = false) := fun h => by
                have := HZ.out
                rw [decide_eq_true h] at this
                simpa using this
              have HPUT : Hid (putL T P = if k < T.length ∧ (T.getD k ([], [])).1 = P.1 then T.set k P else T.take k ++ ([P] ++ T.drop k)) := put_pos T P k hk HB.out HNX.out
              have c5 := hgr.cell c3 (by simp)
              have c6 := hgr.cell c4 (by simp)
              have HPK2 : Hid (PartIs w.heap.size wc (.slice xa P.1.length xc) P.1) := HPK.out.kept hgr (.inl rfl)
              have HPV2 : Hid (PartIs w.heap.size wc (.slice ya P.2.length yc) P.2) := HPV.out.kept hgr (.inl rfl)
              have HOX2 : Hid (OwnP w.heap.size wc (.slice ca T.length ccap) T) := HOX.out.grownNone hgr
              have hgc := grown_trans hgw hgr
              obtain ⟨y, hy⟩ : ∃ y : Bool, (decide (k < T.length) && decide ((T.getD k ([], [])).1 = P.1)) = y := ⟨_, rfl⟩
              have HY : Hid ((decide (k < T.length) && decide ((T.getD k ([], [])).1 = P.1)) = y) := hy
              clear HPK HPV HOX hgr hgw c3 c4 CB HPB HZ HNX
              obtain ⟨wk, rfl⟩ : ∃ wk : World, wk = wc := ⟨_, rfl⟩
              go_upto_region 9 with fail
              go_cut [65] (fun s65 wx => s65 = .bool y ∧ ∃ d, wx = wk.drewN d)
              case first =>
                by_cases hkl : k < T.length
                · have t3 : (k : Int) < (T.length : Int) := by omega
                  obtain ⟨g, o2, rfl, hat⟩ := HOX2.out.list.at k hkl
                  obtain ⟨qk, qv, e1, e2, r1, r2⟩ := hat
                  obtain ⟨qa, qc, rfl⟩ := r1.shape
                  have R1 : Hid (SliceIs wk (.slice qa (T.getD k ([], [])).1.length qc) (T.getD k ([], [])).1) := r1
                  have hy' : y = decide ((T.getD k ([], [])).1 = P.1) := by rw [← hy, decide_eq_true hkl]; rfl
                  subst hy'
                  clear r1 r2 e2 hy HY HPUT
                  generalize (T.getD k ([], [])).1 = q at *
                  go_quiet (first | (go_at_call 12; exact Calls.quiet_of_same (same_any _ _ _ _ _ (R1.out.drewN _) (HPK2.out.slice.drewN _))))
                  go_wp2_with fail
                  go_meet
                  case rel => exact ⟨rfl, nq, rfl⟩
                · have t3 : ¬ (k : Int) < (T.length : Int) := by omega
                  have hy' : y = false := by rw [← hy, decide_eq_false hkl]; rfl
                  subst hy'
                  clear hy
                  go_quiet (fail)
                  go_wp2_with fail
                  go_meet
                  case rel => exact ⟨rfl, nq, rfl⟩
              case rest =>
                obtain ⟨rfl, d, rfl⟩ := hcut
                clear hy
                have hgd := grown_drewN (grown_refl wk none) d
                have c7 := hgd.cell c5 (by simp)
                have c8 := hgd.cell c6 (by simp)
                have HPK3 : Hid (PartIs w.heap.size (wk.drewN d) (.slice xa P.1.length xc) P.1) := HPK2.out.kept hgd (.inl rfl)
                have HPV3 : Hid (PartIs w.heap.size (wk.drewN d) (.slice ya P.2.length yc) P.2) := HPV2.out.kept hgd (.inl rfl)
                have HOX3 : Hid (OwnP w.heap.size (wk.drewN d) (.slice ca T.length ccap) T) := HOX2.out.grownNone hgd
                have hgcd := grown_trans hgc hgd
                clear HPK2 HPV2 HOX2 hgc c5 c6 hgd
                generalize wk.drewN d = wx at *
                cases y with
                | true =>
                  have hY := HY.out
                  simp only [Bool.and_eq_true, decide_eq_true_eq] at hY
                  obtain ⟨hkl, hke⟩ := hY
                  have HN : Hid (mkT (l.take (m + 1)) = T.set k P) := by
                    show _ = _
                    rw [HT2.out, HPUT.out, if_pos ⟨hkl, hke⟩]
                  have hox := HOX3.out
                  rcases hox.cases with ⟨e, e0⟩ | ⟨g, cap', e, hbg, hglt, hcl, hcm, hfz⟩
                  · rw [e0] at hkl; simp at hkl
                  simp only [Value.slice.injEq] at e
                  obtain ⟨rfl, _, rfl⟩ := e
                  obtain ⟨g', o', e, hat⟩ := hox.list.at k hkl
                  simp only [Option.some.injEq, Addr.mk.injEq] at e
                  obtain ⟨rfl, rfl, _⟩ := e
                  obtain ⟨qk, qv, e1, e2, _, _⟩ := hat
                  rw [Nat.zero_add] at e1 e2
                  have fz1 := hfz (k * 2) (by omega)
                  have fz2 := hfz (k * 2 + 1) (by omega)
                  have t3 : (k : Int) < (T.length : Int) := by omega
                  have HSET : Hid (OwnP w.heap.size ((wx.setCell ⟨g, k * 2, none⟩ (.slice xa P.1.length xc)).setCell ⟨g, k * 2 + 1, none⟩ (.slice ya P.2.length yc)) (.slice (some ⟨g, 0, none⟩) T.length ccap) (T.set k P)) := hox.set k hkl _ _ P HPK3.out HPV3.out
                  clear hox hfz hke
                  go_wp2_with fail
                  go_roundw
                  case rel =>
                    first
                      | exact ⟨m + 1, T.set k P, by omega, by omega, by go_num, HN.out, by simp; omega, by simpa using HSET.out, grown_setNew (grown_setNew hgcd _ hbg _ _) _ hbg _ _⟩
                      | ((repeat apply Exists.intro); refine ⟨⟨m + 1, T.set k P, by omega, by omega, ?_, HN.out, by simp; omega, by simpa using HSET.out, grown_setNew (grown_setNew hgcd _ hbg _ _) _ hbg _ _⟩, rfl⟩; go_num)
                  case measure => simp [intOf]; omega
                | false =>
                  have HN : Hid (mkT (l.take (m + 1)) = T.take k ++ ([P] ++ T.drop k)) := by
                    show _ = _
                    rw [HT2.out, HPUT.out, if_neg]
                    intro h
                    have := HY.out
                    rw [decide_eq_true h.1, decide_eq_true h.2] at this
                    simp at this
                  have hszx := hgcd.size
                  have hka : (T.take k).length = k := by simp; omega
                  have S1 : Hid (PartsIs w.heap.size wx (.slice ca k ccap) (T.take k)) := HOX3.out.takes k hk
                  have hox := HOX3.out
                  rcases hox.cases with ⟨e, e0⟩ | ⟨g, cap', e, hbg, hglt, hcl, hcm, hfz⟩
                  · simp only [Value.slice.injEq] at e
                    obtain ⟨rfl, hT0, rfl⟩ := e
                    subst e0
                    obtain rfl : k = 0 := by simpa using hk
                    clear hox
                    have HN2 : Hid (mkT (l.take (m + 1)) = [P]) := by show _ = _; rw [HN.out]; rfl
                    go_upto_region 13 with (at_builtin; refine wpList_append_plistQ rfl _ _ rfl wx.heap.size w.heap.size hszx (.slice none 0 0) [] rfl (ownQ_nil _ _ _) none 0 0 [] rfl S1.out (by simp) (Nat.le_refl _) ?_; intro v1 w1 ho1 hg1)
                    rw [List.nil_append] at ho1
                    have hga : wx.grownBy w1 none := hg1
                    have c9 := hga.cell c7 (by simp)
                    have c10 := hga.cell c8 (by simp)
                    have HK1 : Hid (PartIs w.heap.size w1 (.slice xa P.1.length xc) P.1) := HPK3.out.kept hga (.inl rfl)
                    have HV1 : Hid (PartIs w.heap.size w1 (.slice ya P.2.length yc) P.2) := HPV3.out.kept hga (.inl rfl)
                    have hsz1 := hga.size
                    obtain ⟨a1, cap1, rfl⟩ := ho1.shape
                    go_upto_region 14 with (at_builtin; refine wpList_append_pairQ (w0 := w1) rfl _ _ rfl wx.heap.size w.heap.size hszx _ [] rfl ho1 _ _ P HK1.out HV1.out rfl w1.heap.size rfl rfl (by simp; try omega) hsz1 ?_; intro v2 w2 ho2 hg2)
                    have hgb : wx.grownBy w2 none := grown_ownQ (grown_alloc hga _) (ho1.alloc _) (Nat.le_refl _) hg2
                    have hsz2 := hgb.size
                    obtain ⟨a2, cap2, rfl⟩ := ho2.shape
                    clear c7 c8 c9 c10 ho1 hg1 hg2
                    have S3 : Hid (PartsIs w.heap.size w2 (.slice none 0 0) []) := (OwnP.takes (ownP_nil w.heap.size w2) 0 (by simp))
                    go_wp2_with (at_builtin; refine wpList_append_plistQ rfl _ _ rfl wx.heap.size w.heap.size hszx _ ([] ++ [P]) rfl ho2 none 0 0 [] rfl S3.out (by simp) hsz2 ?_; intro v3 w3 ho3 hg3)
                    have hgw3 : w.grownBy w3 none := grown_ownQ (grown_trans hgcd hgb) ho2 hszx hg3
                    rw [List.append_nil, List.nil_append] at ho3
                    go_roundw
                    case rel =>
                      first
                        | exact ⟨m + 1, [P], by omega, by omega, by go_num, HN2.out, by simp, ho3.p hszx, hgw3⟩
                        | ((repeat apply Exists.intro); refine ⟨⟨m + 1, [P], by omega, by omega, ?_, HN2.out, by simp, ho3.p hszx, hgw3⟩, rfl⟩; go_num)
                    case measure => simp [intOf]; omega
                  · simp only [Value.slice.injEq] at e
                    obtain ⟨rfl, _, rfl⟩ := e
                    clear hox hfz
                    have i9 : (k : Int) ≤ (ccap : Int) := by omega
                    have i8 : (k : Int) ≤ (T.length : Int) := by omega
                    go_upto_region 13 with (at_builtin; refine wpList_append_plistQ rfl _ _ rfl wx.heap.size w.heap.size hszx (.slice none 0 0) [] rfl (ownQ_nil _ _ _) (some ⟨g, 0, none⟩) k ccap (T.take k) rfl S1.out (by simp; omega) (Nat.le_refl _) ?_; intro v1 w1 ho1 hg1)
                    rw [List.nil_append] at ho1
                    have hga : wx.grownBy w1 none := hg1
                    have c9 := hga.cell c7 (by simp)
                    have c10 := hga.cell c8 (by simp)
                    have HK1 : Hid (PartIs w.heap.size w1 (.slice xa P.1.length xc) P.1) := HPK3.out.kept hga (.inl rfl)
                    have HV1 : Hid (PartIs w.heap.size w1 (.slice ya P.2.length yc) P.2) := HPV3.out.kept hga (.inl rfl)
                    have hsz1 := hga.size
                    obtain ⟨a1, cap1, rfl⟩ := ho1.shape
                    go_upto_region 14 with (at_builtin; refine wpList_append_pairQ (w0 := w1) rfl _ _ rfl wx.heap.size w.heap.size hszx _ (T.take k) rfl ho1 _ _ P HK1.out HV1.out rfl w1.heap.size rfl rfl (by simp; try omega) hsz1 ?_; intro v2 w2 ho2 hg2)
                    have hgb : wx.grownBy w2 none := grown_ownQ (grown_alloc hga _) (ho1.alloc _) (Nat.le_refl _) hg2
                    have hsz2 := hgb.size
                    obtain ⟨a2, cap2, rfl⟩ := ho2.shape
                    clear c7 c8 c9 c10 ho1 hg1 hg2
                    have hox2 := HOX3.out.grownNone hgb
                    have HO2 : Hid (OwnP w.heap.size w2 (.slice (some ⟨g, 0, none⟩) T.length ccap) T) := hox2
                    clear hox2
                    by_cases hck : k < ccap
                    · have S3 : Hid (PartsIs w.heap.size w2 (.slice (some ⟨g, k * 2, none⟩) (T.length - k) (ccap - k)) (T.drop k)) := HO2.out.drops k hk (k * 2) (ccap - k) rfl
                      have hck2 : ¬ ccap - k = 0 := by omega
                      have hck3 : ¬ ccap ≤ k := by omega
                      have hck4 : ¬ (ccap : Int) ≤ (k : Int) := by omega
                      clear HOX3 HO2 S1
                      go_wp2_with (at_builtin; refine wpList_append_plistQ rfl _ _ rfl wx.heap.size w.heap.size hszx _ (T.take k ++ [P]) rfl ho2 (some ⟨g, k * 2, none⟩) (T.length - k) (ccap - k) (T.drop k) rfl S3.out (by simp; omega) hsz2 ?_; intro v3 w3 ho3 hg3)
                      have hgw3 : w.grownBy w3 none := grown_ownQ (grown_trans hgcd hgb) ho2 hszx hg3
                      rw [List.append_assoc] at ho3
                      go_roundw
                      case rel =>
                        first
                          | exact ⟨m + 1, T.take k ++ ([P] ++ T.drop k), by omega, by omega, by go_num, HN.out, by simp; omega, ho3.p hszx, hgw3⟩
                          | ((repeat apply Exists.intro); refine ⟨⟨m + 1, T.take k ++ ([P] ++ T.drop k), by omega, by omega, ?_, HN.out, by simp; omega, ho3.p hszx, hgw3⟩, rfl⟩; go_num)
                      case measure => simp [intOf]; omega
                    · have hck1 : ccap = k := by omega
                      have hd : T.drop k = [] := List.drop_eq_nil_of_le (by omega)
                      have S3 : Hid (∀ n c, n = T.length - k → PartsIs w.heap.size w2 (.slice (some ⟨g, 0, none⟩) n c) (T.drop k)) := fun n c hn => ⟨[], some ⟨g, 0, none⟩, c, by rw [hn]; simp, by rw [hd]; rfl, by rw [hd]; intro i hi; simp at hi, .inr ⟨_, rfl, by simp [flat]⟩⟩
                      have hck2 : ccap - k = 0 := by omega
                      clear HOX3 HO2 S1 hd
                      go_wp2_with (at_builtin; refine wpList_append_plistQ rfl _ _ rfl wx.heap.size w.heap.size hszx _ (T.take k ++ [P]) rfl ho2 (some ⟨g, 0, none⟩) _ _ (T.drop k) rfl (S3.out _ _ (by omega)) (by simp; omega) hsz2 ?_; intro v3 w3 ho3 hg3)
                      have hgw3 : w.grownBy w3 none := grown_ownQ (grown_trans hgcd hgb) ho2 hszx hg3
                      rw [List.append_assoc] at ho3
                      go_roundw
                      case rel =>
                        first
                          | exact ⟨m + 1, T.take k ++ ([P] ++ T.drop k), by omega, by omega, by go_num, HN.out, by simp; omega, ho3.p hszx, hgw3⟩
                          | ((repeat apply Exists.intro); refine ⟨⟨m + 1, T.take k ++ ([P] ++ T.drop k), by omega, by omega, ?_, HN.out, by simp; omega, ho3.p hszx, hgw3⟩, rfl⟩; go_num)
                      case measure => simp [intOf]; omega
    · have HE : Hid (mkT (l.take n) = T) := by
        show _ = _
        rw [← hT]
        by_cases h : m < l.length
        · have : m = n := by omega
          rw [this]
        · have : m = l.length := by omega
          rw [this, List.take_length, List.take_of_length_le (by omega)]
      obtain ⟨ca, ccap, rfl⟩ := hown.shape
      by_cases h : m < l.length
      · have t1 : (m : Int) < (l.length : Int) := by omega
        have t2 : ¬ (m : Int) < (n : Int) := by omega
        go_wp2
        go_ret
        exact ⟨_, rfl, by rw [HE.out]; exact hown, hg⟩
      · have t1 : ¬ (m : Int) < (l.length : Int) := by omega
        go_wp2
        go_ret
        exact ⟨_, rfl, by rw [HE.out]; exact hown, hg⟩
end Go.Proofs.YtdpoickggdgddabDoor

/-
  What canopykeep.Pairs keeps.
-/
namespace Go.Proofs.YtdpoickggdgddabDoor
open Go.RowKit
def KMakeOK : Prop := ∀ (w : World) (v : Value) (l : PL) (n : Nat), PairsIs w v l → Fits l → n ≤ 60 →
    Calls Tryd.prog 4 #[v, .int .i64 (n : Int)] w fun e w' => ∃ v', e = .returned v' ∧ OwnP w.heap.size w' v' (mkT (l.take n)) ∧ w.grownBy w' none
end Go.Proofs.YtdpoickggdgddabDoor

/-
  canopykeep.Pairs makes a tree of items.
-/
namespace Go.Proofs.YtdpoickggdgddabDoor
theorem kmake_ok : KMakeOK := kpairs_any
end Go.Proofs.YtdpoickggdgddabDoor

/-
  What path.Check must keep.
-/
namespace Go.Proofs.YtdpoickggdgddabDoor
open Go.RowKit
/-- path.Check keeps P2.1. -/
def CheckOK : Prop := ∀ (w : World) (a : Option Addr) (n cap : Nat), Calls Tryd.prog 21 #[.slice a n cap] w fun e w' => e = .returned (.int .i64 (keyFaultF n)) ∧ w.grownBy w' none
end Go.Proofs.YtdpoickggdgddabDoor

/-
  path.Check, as it landed, keeps P2.1.
-/
namespace Go.Proofs.YtdpoickggdgddabDoor
open Go.RowKit
theorem check_ok : CheckOK := by
  intro w a n cap
  by_cases h1 : 1 ≤ n
  · by_cases h2 : n ≤ 16
    · rw [keyFaultF, if_pos ⟨h1, h2⟩]
      have t1 : ¬ (n : Int) < 1 := by omega
      have t2 : ¬ (n : Int) > 16 := by omega
      go_enter Tryd.func21, Tryd.ntmps21
      go_wp2
      go_ret
      exact ⟨rfl, grown_refl _ _⟩
    · rw [keyFaultF, if_neg (by omega)]
      have t1 : ¬ (n : Int) < 1 := by omega
      have t2 : (n : Int) > 16 := by omega
      go_enter Tryd.func21, Tryd.ntmps21
      go_wp2
      go_ret
      exact ⟨rfl, grown_refl _ _⟩
  · rw [keyFaultF, if_neg (by omega)]
    have t1 : (n : Int) < 1 := by omega
    go_enter Tryd.func21, Tryd.ntmps21
    go_wp2
    go_ret
    exact ⟨rfl, grown_refl _ _⟩
end Go.Proofs.YtdpoickggdgddabDoor

/-
  tree.checkPair and tree.checkWith, as they landed.
-/
namespace Go.Proofs.YtdpoickggdgddabDoor
open Go.RowKit
theorem checkPair_any (w : World) (ak av : Option Addr) (p : Pr) (ck cv : Nat) :
    Calls Tryd.prog 15 #[.agg #[.slice ak p.1.length ck, .slice av p.2.length cv]] w fun e w' => e = .returned (.int .i64 (pairFaultF p)) ∧ w.grownBy w' none := by
  by_cases h : 32 < p.2.length
  · rw [pairFaultF, if_pos h]
    have t1 : (p.2.length : Int) > 32 := by omega
    go_enter Tryd.func15, Tryd.ntmps15
    go_wp2
    go_ret
    exact ⟨rfl, World.grownBy_alloc _ _ _⟩
  · rw [pairFaultF, if_neg h]
    have t1 : ¬ (p.2.length : Int) > 32 := by omega
    have CK : Hid CheckOK := check_ok
    go_enter Tryd.func15, Tryd.ntmps15
    go_wp2_with fail
    refine (CK.out _ _ _ _).mono ?_
    rintro e w1 ⟨rfl, hg1⟩
    go_wp2
    go_ret
    exact ⟨rfl, grown_trans (World.grownBy_alloc _ _ _) hg1⟩
end Go.Proofs.YtdpoickggdgddabDoor

/-
  The walk of bytes.Compare, over two slices as they are handed over.
-/
namespace Go.Proofs.YtdpoickggdgddabDoor
open Go.RowKit
/-- -1, 0 or 1. -/
def cmpF (a b : List UInt8) : Int := if klt a b = true then -1 else if a = b then 0 else 1
theorem cmp_klt : ∀ a b : List UInt8, Lib.compareBytes a b = cmpF a b
  | [], [] => rfl
  | [], y :: b => by
    have h : klt [] (y :: b) = true := by
      cases h : klt [] (y :: b) with
      | true => rfl
      | false => have := klt_total _ _ h (by simp); rw [klt_nil] at this; cases this
    rw [cmpF, if_pos h]; rfl
  | x :: a, [] => by rw [cmpF, if_neg (by rw [klt_nil]; simp), if_neg (by simp)]; rfl
  | x :: a, y :: b => by
    have ih := cmp_klt a b
    rw [Lib.compareBytes, ih]
    unfold cmpF
    rw [klt_cons]
    by_cases h1 : x < y
    · simp [h1]
    · by_cases h2 : y < x
      · have h3 : x ≠ y := by intro e; subst e; exact h1 h2
        simp [h1, h2, h3]
      · have h3 : x = y := by
          have e1 := UInt8.not_lt.1 h1
          have e2 := UInt8.not_lt.1 h2
          exact UInt8.le_antisymm e2 e1
        subst h3
        simp [h1]
theorem cmpF_lt (a b : List UInt8) (h : klt a b = true) : cmpF a b = -1 := by rw [cmpF, if_pos h]
theorem cmpF_eq (a : List UInt8) : cmpF a a = 0 := by rw [cmpF, if_neg (by rw [klt_irrefl]; simp), if_pos rfl]
theorem cmpF_gt (a b : List UInt8) (h : klt a b = false) (hne : a ≠ b) : cmpF a b = 1 := by rw [cmpF, if_neg (by rw [h]; simp), if_neg hne]
theorem cmpF_range (a b : List UInt8) : -1 ≤ cmpF a b ∧ cmpF a b ≤ 1 := by
  unfold cmpF
  by_cases h1 : klt a b = true
  · rw [if_pos h1]; omega
  · rw [if_neg h1]
    by_cases h2 : a = b
    · rw [if_pos h2]; omega
    · rw [if_neg h2]; omega
theorem cmpF_neg (a b : List UInt8) : decide (cmpF a b < 0) = klt a b := by
  cases h : klt a b with
  | true => rw [cmpF_lt a b h]; rfl
  | false =>
    by_cases h2 : a = b
    · subst h2; rw [cmpF_eq]; rfl
    · rw [cmpF_gt a b h h2]; rfl
theorem cmpF_zero (a b : List UInt8) : (cmpF a b == 0) = decide (a = b) := by
  by_cases h2 : a = b
  · subst h2; rw [cmpF_eq]; simp
  · cases h : klt a b with
    | true => rw [cmpF_lt a b h]; simp [h2]
    | false => rw [cmpF_gt a b h h2]; simp [h2]
theorem run_bytesOf (w : World) (v : Value) (a : List UInt8) (h : SliceIs w v a) : (Extern.Bytes.bytesOf v).run Tryd.prog w = .ok ⟨a.toArray⟩ w := by
  obtain ⟨ad, cap, rfl, hc, h⟩ := h
  have key : ∀ x : Addr, (∀ j y, (a.map fun c => (c.toNat : Int))[j]? = some y → w.cell? (x.add j) = some (.int .u8 y)) → (Extern.Bytes.bytesOf (.slice (some x) a.length cap)).run Tryd.prog w = .ok ⟨a.toArray⟩ w := by
    intro x hx
    have hl := Lib.run_loadBytesX (P := Tryd.prog) w (a.map fun c => (c.toNat : Int)) x .empty hx
    rw [List.length_map] at hl
    have e : (⟨ByteArray.empty.data ++ (Lib.bytesOf (a.map fun c => (c.toNat : Int))).toArray⟩ : ByteArray) = ⟨a.toArray⟩ := by
      apply ByteArray.ext
      show (#[] : Array UInt8) ++ (Lib.bytesOf (a.map fun c => (c.toNat : Int))).toArray = a.toArray
      simp only [Lib.bytesOf, List.map_map, Array.empty_append, Array.mk.injEq]
      congr 1
      exact (List.map_congr_left fun c _ => by simp).trans (List.map_id a)
    rw [e] at hl
    simpa only [Extern.Bytes.bytesOf] using hl
  rcases h with ⟨rfl, h⟩ | ⟨b, o, rfl, h⟩
  · cases ad with
    | none => rfl
    | some x => exact key x fun j y hy => by simp at hy
  · refine key ⟨b, o, none⟩ fun j y hy => ?_
    rw [List.getElem?_map] at hy
    cases hj : a[j]? with
    | none => rw [hj] at hy; simp at hy
    | some c =>
      rw [hj] at hy
      simp at hy
      subst hy
      have hlt : j < a.length := (List.getElem?_eq_some_iff.1 hj).1
      rw [addr_add, h j hlt]
      simp [hj]
theorem run_compare (w : World) (v u : Value) (a b : List UInt8) (hv : SliceIs w v a) (hu : SliceIs w u b) :
    (Extern.BytealgCompare.compare #[v, u]).run Tryd.prog w = .ok (.int .i64 (cmpF a b)) w := by
  change Sem.run Tryd.prog (do pure (goInt (Extern.BytealgCompare.cmp (← Extern.Bytes.bytesOf v) (← Extern.Bytes.bytesOf u)))) w = _
  simp only [Sem.run_bind, Sem.run_pure, run_bytesOf w v a hv, run_bytesOf w u b hu, Result.andThen]
  rw [Lib.cmp_eq, cmp_klt]
  rfl
set_option maxRecDepth 100000 in
set_option maxHeartbeats 1000000 in
theorem compare_any (w : World) (v u : Value) (a b : List UInt8) (hv : SliceIs w v a) (hu : SliceIs w u b) :
    Calls Tryd.prog 20 #[v, u] w fun e w' => e = .returned (.int .i64 (cmpF a b)) ∧ w' = w := by
  have hrun := run_compare w v u a b hv hu
  obtain ⟨va, vc, rfl⟩ : ∃ x c, v = .slice x a.length c := by obtain ⟨x, c, e, _⟩ := hv; exact ⟨x, c, e⟩
  obtain ⟨ua, uc, rfl⟩ : ∃ x c, u = .slice x b.length c := by obtain ⟨x, c, e, _⟩ := hu; exact ⟨x, c, e⟩
  have HR : Hid ((Extern.BytealgCompare.compare #[.slice va a.length vc, .slice ua b.length uc]).run Tryd.prog w = .ok (.int .i64 (cmpF a b)) w) := hrun
  clear hrun hv hu
  go_enter Tryd.func20, Tryd.ntmps20
  go_wp2
  rw [run_callFunc_extern Tryd.func27 (by kernel_rfl) (by kernel_rfl) (by kernel_rfl) (e := Extern.BytealgCompare.compare) (by kernel_rfl), HR.out]
  simp only [Result.andThen]
  rw [Oper.upon_value]
  go_wp2
  go_ret
  exact ⟨rfl, rfl⟩
end Go.Proofs.YtdpoickggdgddabDoor

/-
  What tree.Check must keep.
-/
namespace Go.Proofs.YtdpoickggdgddabDoor
open Go.RowKit
/-- tree.Check keeps P3.1. -/
def TCheckOK : Prop := ∀ (w : World) (v : Value) (l : PL), PairsIs w v l → Fits l → Calls Tryd.prog 14 #[v] w fun e w' => e = .returned (.int .i64 (pairsFaultF l)) ∧ w.grownBy w' none
end Go.Proofs.YtdpoickggdgddabDoor

/-
  tree.Check, as it landed, keeps P3.1.
-/
namespace Go.Proofs.YtdpoickggdgddabDoor
open Go.RowKit
set_option maxRecDepth 100000 in
set_option maxHeartbeats 1000000 in
theorem tcheck_ok : TCheckOK := by
  intro w v l hv hl
  obtain ⟨a, cap, rfl⟩ := hv.shape
  have hll := hl.len
  by_cases h60 : 60 < l.length
  · rw [pairsFault_long l h60]
    have t1 : (l.length : Int) > 60 := by omega
    go_enter Tryd.func14, Tryd.ntmps14
    go_wp2
    go_ret
    exact ⟨rfl, grown_refl _ _⟩
  · have t1 : ¬ (l.length : Int) > 60 := by omega
    go_enter Tryd.func14, Tryd.ntmps14
    go_wp2_with fail
    go_loopw [11] (fun i wr => ∃ m : Nat, m ≤ l.length ∧ i = .int .i64 (m : Int) ∧ w.grownBy wr none ∧ ∀ j, j < m → faultAt l j = 0) (fun i _ => l.length - (intOf i).toNat)
    case atStart => exact ⟨0, by omega, rfl, grown_refl _ _, fun j hj => by omega⟩
    case round =>
      obtain ⟨m, hm, rfl, hgr, hok⟩ := hrel
      have HOK : Hid (∀ j, j < m → faultAt l j = 0) := hok
      clear hok
      by_cases hlt : m < l.length
      · obtain ⟨b, o, rfl, hat⟩ := hv.at m hlt
        obtain ⟨vk, vv, c1, c2, s1, s2⟩ := hat.grown hgr
        generalize hP : l.getD m ([], []) = P at s1 s2
        have HA : Hid (faultAt l m = if pairFaultF P = 0 then (if 0 < m ∧ klt (l.getD (m - 1) ([], [])).1 P.1 = false then 3 else 0) else pairFaultF P) := by
          show _ = _
          unfold faultAt
          rw [hP]
        obtain ⟨ak, ck, rfl, hck, hrk⟩ := s1
        obtain ⟨av, cv, rfl, hcv, hrv⟩ := s2
        have s1 : SliceIs wr (.slice ak P.1.length ck) P.1 := ⟨ak, ck, rfl, hck, hrk⟩
        clear hrk hrv hat hP
        have i1 : (m : Int) < (l.length : Int) := by omega
        go_wp2_with fail
        have hga : wr.grownBy (wr.alloc (.cells #[.slice ak P.1.length ck, .slice av P.2.length cv] 28)) none := World.grownBy_alloc _ _ _
        refine (checkPair_any _ _ _ P _ _).mono ?_
        rintro e w1 ⟨rfl, hg1⟩
        have hg2 := grown_trans hga hg1
        obtain ⟨cA, _, _, _⟩ := pair_room hg1 (heap_alloc_new wr (.cells #[.slice ak P.1.length ck, .slice av P.2.length cv] 28))
        by_cases hf : pairFaultF P = 0
        · rw [hf]
          have s1 := s1.grown hg2
          have hgw := grown_trans hgr hg2
          clear c1 c2
          by_cases h0 : m = 0
          · subst h0
            have HZ : Hid (faultAt l 0 = 0) := by show _ = _; rw [HA.out, if_pos hf, if_neg (by simp)]
            go_wp2_with fail
            go_quiet (fail)
            all_goals go_wp2_with fail
            go_roundw
            case rel =>
              have hs : ∀ j, j < 0 + 1 → faultAt l j = 0 := fun j hj => by
                obtain rfl : j = 0 := by omega
                exact HZ.out
              exact ⟨1, by omega, rfl, grown_drewN hgw _, hs⟩
            case measure => simp [intOf]; omega
          · obtain ⟨n, rfl⟩ : ∃ n, m = n + 1 := ⟨m - 1, by omega⟩
            obtain ⟨b2, o2, e, hat⟩ := hv.at n (by omega)
            cases e
            obtain ⟨qk, qv, d1, d2, r1, r2⟩ := hat.grown hgw
            clear d2 r2 hat
            have HA2 : Hid (faultAt l (n + 1) = if klt (l.getD n ([], [])).1 P.1 = false then 3 else 0) := by
              show _ = _
              rw [HA.out, if_pos hf]
              simp
            generalize (l.getD n ([], [])).1 = q at *
            have i0 : IntKind.i64.wrap (n : Int) = (n : Int) := by rw [IntKind.wrap_i64]; omega
            have R1 : Hid (SliceIs w1 qk q) := r1
            have S1 : Hid (SliceIs w1 (.slice ak P.1.length ck) P.1) := s1
            have i2 : (n : Int) < (l.length : Int) := by omega
            have i3 : ((n + 1 : Nat) : Int) > 0 := by omega
            have hcr := cmpF_neg q P.1
            have CM : Hid (∀ k, Calls Tryd.prog 20 #[qk, .slice ak P.1.length ck] (w1.drewN k) fun e w' => e = .returned (.int .i64 (cmpF q P.1)) ∧ w' = w1.drewN k) := fun k => compare_any _ _ _ _ _ (R1.out.drewN k) (S1.out.drewN k)
            generalize cmpF q P.1 = z at *
            have HCR : Hid (decide (z < 0) = klt q P.1) := hcr
            clear s1 r1 hcr
            go_wp2_with fail
            go_quiet (first | (go_at_call 20; exact Calls.quiet_of_same (CM.out _)))
            cases hk : klt q P.1 with
            | true =>
              have HZ : Hid (faultAt l (n + 1) = 0) := by show _ = _; rw [HA2.out, hk]; simp
              have hz : z < 0 := by have := HCR.out; rw [hk] at this; simpa using this
              clear hk
              go_wp2_with fail
              go_roundw
              case rel =>
                have hs : ∀ j, j < n + 1 + 1 → faultAt l j = 0 := fun j hj => by
                  by_cases hjm : j = n + 1
                  · subst hjm; exact HZ.out
                  · exact HOK.out j (by omega)
                first
                  | exact ⟨n + 1 + 1, by omega, by go_num, grown_drewN hgw _, hs⟩
                  | ((repeat apply Exists.intro); refine ⟨⟨n + 1 + 1, by omega, ?_, grown_drewN hgw _, hs⟩, rfl⟩; go_num)
              case measure => simp [intOf]; omega
            | false =>
              have HZ : Hid (pairsFaultF l = 3) := by
                have e : faultAt l (n + 1) = 3 := by rw [HA2.out, hk]; simp
                show _ = _
                rw [← e]
                exact pairsFault_at l (n + 1) hlt (by omega) HOK.out (by rw [e]; decide)
              have hz : 0 ≤ z := by have := HCR.out; rw [hk] at this; simpa using this
              clear hk
              go_wp2
              go_ret
              exact ⟨by rw [HZ.out]; rfl, grown_drewN hgw _⟩
        · have HF : Hid (pairsFaultF l = pairFaultF P) := by
            have e : faultAt l m = pairFaultF P := by rw [HA.out, if_neg hf]
            show _ = _
            rw [← e]
            exact pairsFault_at l m hlt (by omega) HOK.out (by rw [e]; exact hf)
          generalize pairFaultF P = z at *
          have hz : (z != 0) = true := by simpa using hf
          go_wp2
          go_ret
          exact ⟨by rw [HF.out]; rfl, grown_trans hgr hg2⟩
      · obtain rfl : m = l.length := by omega
        have HP : Hid (pairsFaultF l = 0) := pairsFault_none l (by omega) HOK.out
        go_wp2
        go_ret
        exact ⟨by rw [HP.out]; rfl, hgr⟩
end Go.Proofs.YtdpoickggdgddabDoor

/-
  The place of a key among pairs that rise, and what Get, Put, Delete and Range are by it. No program is named.
-/
namespace Go.Proofs.YtdpoickggdgddabDoor
/-- How many pairs stand ahead of a key. -/
def posF (l : PL) (k : List UInt8) : Nat := (l.takeWhile fun p => klt p.1 k).length
/-- Has a pair the key? -/
def hasF (l : PL) (k : List UInt8) : Bool := decide (posF l k < l.length ∧ (l.getD (posF l k) ([], [])).1 = k)
/-- How many do not stand behind it. -/
def nextF (l : PL) (k : List UInt8) : Nat := if hasF l k = true then posF l k + 1 else posF l k
theorem pos_le (l : PL) (k : List UInt8) : posF l k ≤ l.length := by
  induction l with
  | nil => simp [posF]
  | cons p r ih =>
    unfold posF at ih ⊢
    rw [List.takeWhile_cons]
    cases h : klt p.1 k with
    | true => simpa using ih
    | false => simp
theorem pos_at : ∀ (l : PL) (k : List UInt8) (i : Nat), i ≤ l.length → (∀ j, j < i → klt (l.getD j ([], [])).1 k = true) → (i < l.length → klt (l.getD i ([], [])).1 k = false) → posF l k = i
  | [], k, i, h, _, _ => by
    obtain rfl : i = 0 := by simpa using h
    rfl
  | p :: r, k, 0, _, _, h2 => by
    have := h2 (by simp)
    simp only [List.getD_cons_zero] at this
    simp [posF, this]
  | p :: r, k, i + 1, h, h1, h2 => by
    have h0 := h1 0 (by omega)
    simp only [List.getD_cons_zero] at h0
    have := pos_at r k i (by simpa using h) (fun j hj => by simpa using h1 (j + 1) (by omega)) (fun hi => by simpa using h2 (by simpa using hi))
    unfold posF at this ⊢
    rw [List.takeWhile_cons_of_pos (p := fun p : Pr => klt p.1 k) h0]
    simpa using this
theorem pos_lt : ∀ (l : PL) (k : List UInt8) (j : Nat), j < posF l k → klt (l.getD j ([], [])).1 k = true
  | [], k, j, h => by simp [posF] at h
  | p :: r, k, j, h => by
    cases hk : klt p.1 k with
    | false => simp [posF, hk] at h
    | true =>
      cases j with
      | zero => simpa using hk
      | succ j =>
        unfold posF at h
        rw [List.takeWhile_cons_of_pos (p := fun p : Pr => klt p.1 k) hk] at h
        have := pos_lt r k j (by unfold posF; simpa using h)
        simpa using this
theorem pos_not : ∀ (l : PL) (k : List UInt8), posF l k < l.length → klt (l.getD (posF l k) ([], [])).1 k = false
  | [], k, h => by simp at h
  | p :: r, k, h => by
    cases hk : klt p.1 k with
    | false => simp [posF, hk]
    | true =>
      have e : posF (p :: r) k = posF r k + 1 := by unfold posF; rw [List.takeWhile_cons_of_pos (p := fun p : Pr => klt p.1 k) hk]; simp
      rw [e] at h ⊢
      have := pos_not r k (by simpa using h)
      simpa using this
theorem klt_pos (l : PL) (k : List UInt8) (hr : Rises l) (j : Nat) (hj : j < l.length) : klt (l.getD j ([], [])).1 k = decide (j < posF l k) := by
  by_cases h : j < posF l k
  · rw [decide_eq_true h]; exact pos_lt l k j h
  · rw [decide_eq_false h]
    have h0 := pos_not l k (by omega)
    by_cases e : j = posF l k
    · rw [e]; exact h0
    · cases hk : klt (l.getD j ([], [])).1 k with
      | false => rfl
      | true =>
        have := klt_trans _ _ _ (rises_step l hr (posF l k) j (by omega) hj) hk
        rw [this] at h0; cases h0
theorem has_pos {l : PL} {k : List UInt8} (h : hasF l k = true) : posF l k < l.length ∧ (l.getD (posF l k) ([], [])).1 = k := by
  simpa only [hasF, decide_eq_true_eq] using h
theorem next_le (l : PL) (k : List UInt8) : posF l k ≤ nextF l k ∧ nextF l k ≤ l.length ∧ nextF l k ≤ posF l k + 1 := by
  have := pos_le l k
  unfold nextF
  by_cases h : hasF l k = true
  · rw [if_pos h]; have := (has_pos h).1; omega
  · rw [if_neg h]; omega
theorem key_pos (l : PL) (k : List UInt8) (hr : Rises l) (j : Nat) (hj : j < l.length) (he : (l.getD j ([], [])).1 = k) : hasF l k = true ∧ j = posF l k := by
  have hp : posF l k = j := by
    refine pos_at l k j (by omega) (fun i hi => ?_) (fun _ => ?_)
    · rw [← he]; exact rises_step l hr i j hi hj
    · rw [he]; exact klt_irrefl k
  refine ⟨?_, hp.symm⟩
  rw [hasF, hp]
  exact decide_eq_true ⟨hj, he⟩
theorem get_pos (l : PL) (k : List UInt8) (hr : Rises l) : getF l k = if hasF l k = true then some (l.getD (posF l k) ([], [])).2 else none := by
  by_cases h : hasF l k = true
  · rw [if_pos h]
    obtain ⟨h1, h2⟩ := has_pos h
    refine get_at l k _ h1 (fun j hj e => ?_) h2
    have := pos_lt l k j hj
    rw [e, klt_irrefl] at this; cases this
  · rw [if_neg h]
    exact get_none l k fun j hj e => h (key_pos l k hr j hj e).1
theorem put_next (l : PL) (p : Pr) : putL l p = l.take (posF l p.1) ++ ([p] ++ l.drop (nextF l p.1)) := by
  rw [put_pos l p (posF l p.1) (pos_le l p.1) (fun j hj => pos_lt l p.1 j hj) (pos_not l p.1)]
  by_cases h : posF l p.1 < l.length ∧ (l.getD (posF l p.1) ([], [])).1 = p.1
  · rw [if_pos h, nextF, if_pos (by rw [hasF]; exact decide_eq_true h), List.set_eq_take_append_cons_drop, if_pos h.1]
    rfl
  · rw [if_neg h, nextF, if_neg (by rw [hasF]; simpa using h)]
theorem put_many (l : PL) (p : Pr) : (putL l p).length = posF l p.1 + 1 + (l.length - nextF l p.1) := by
  rw [put_next]
  have h1 := pos_le l p.1
  simp
  omega
theorem put_room (l : PL) (p : Pr) (hl : l.length ≤ 60) : (60 < (putL l p).length) ↔ (posF l p.1 = nextF l p.1 ∧ l.length = 60) := by
  rw [put_many]
  have := next_le l p.1
  omega
theorem filter_drop (l : PL) (f : Pr → Bool) (n : Nat) (hn : n ≤ l.length) (h1 : ∀ j, j < n → f (l.getD j ([], [])) = false) (h2 : ∀ j, n ≤ j → j < l.length → f (l.getD j ([], [])) = true) : l.filter f = l.drop n := by
  have e : l = l.take n ++ l.drop n := (List.take_append_drop n l).symm
  have ha : (l.take n).filter f = [] := by
    rw [List.filter_eq_nil_iff]
    intro q hq
    obtain ⟨j, hj, rfl⟩ := List.mem_iff_getElem.1 hq
    have hjn : j < n := by simp at hj; omega
    have := h1 j hjn
    rw [List.getElem_take]
    rw [show l[j]'(by omega) = l.getD j ([], []) by simp [show j < l.length by omega], this]
    simp
  have hb : (l.drop n).filter f = l.drop n := by
    rw [List.filter_eq_self]
    intro q hq
    obtain ⟨j, hj, rfl⟩ := List.mem_iff_getElem.1 hq
    have hjn : n + j < l.length := by simp at hj; omega
    rw [List.getElem_drop, show l[n + j] = l.getD (n + j) ([], []) by simp [hjn]]
    exact h2 _ (by omega) hjn
  conv => lhs; rw [e]
  rw [List.filter_append, ha, hb, List.nil_append]
theorem filter_take (l : PL) (f : Pr → Bool) (n : Nat) (hn : n ≤ l.length) (h1 : ∀ j, j < n → f (l.getD j ([], [])) = true) (h2 : ∀ j, n ≤ j → j < l.length → f (l.getD j ([], [])) = false) : l.filter f = l.take n := by
  have e : l = l.take n ++ l.drop n := (List.take_append_drop n l).symm
  have hb : (l.drop n).filter f = [] := by
    rw [List.filter_eq_nil_iff]
    intro q hq
    obtain ⟨j, hj, rfl⟩ := List.mem_iff_getElem.1 hq
    have hjn : n + j < l.length := by simp at hj; omega
    rw [List.getElem_drop, show l[n + j] = l.getD (n + j) ([], []) by simp [hjn], h2 _ (by omega) hjn]
    simp
  have ha : (l.take n).filter f = l.take n := by
    rw [List.filter_eq_self]
    intro q hq
    obtain ⟨j, hj, rfl⟩ := List.mem_iff_getElem.1 hq
    have hjn : j < n := by simp at hj; omega
    rw [List.getElem_take, show l[j]'(by omega) = l.getD j ([], []) by simp [show j < l.length by omega]]
    exact h1 j hjn
  conv => lhs; rw [e]
  rw [List.filter_append, ha, hb, List.append_nil]
theorem del_next (l : PL) (k : List UInt8) (hr : Rises l) : delL l k = l.take (posF l k) ++ l.drop (nextF l k) := by
  by_cases h : hasF l k = true
  · obtain ⟨h1, h2⟩ := has_pos h
    have e : l = l.take (posF l k) ++ (l.getD (posF l k) ([], []) :: l.drop (posF l k + 1)) := by
      conv => lhs; rw [← List.take_append_drop (posF l k) l, List.drop_eq_getElem_cons h1]
      simp [h1]
    have hne : ∀ j, j < l.length → j ≠ posF l k → (l.getD j ([], [])).1 ≠ k := fun j hj hn e => hn (key_pos l k hr j hj e).2
    have ha : (l.take (posF l k)).filter (fun q => !(q.1 == k)) = l.take (posF l k) := by
      rw [List.filter_eq_self]
      intro q hq
      obtain ⟨j, hj, rfl⟩ := List.mem_iff_getElem.1 hq
      have hjn : j < posF l k := by simp at hj; omega
      rw [List.getElem_take, show l[j]'(by omega) = l.getD j ([], []) by simp [show j < l.length by omega]]
      simpa using hne j (by omega) (by omega)
    have hb : (l.drop (posF l k + 1)).filter (fun q => !(q.1 == k)) = l.drop (posF l k + 1) := by
      rw [List.filter_eq_self]
      intro q hq
      obtain ⟨j, hj, rfl⟩ := List.mem_iff_getElem.1 hq
      have hjn : posF l k + 1 + j < l.length := by simp at hj; omega
      rw [List.getElem_drop, show l[posF l k + 1 + j] = l.getD (posF l k + 1 + j) ([], []) by simp [hjn]]
      simpa using hne _ hjn (by omega)
    rw [nextF, if_pos h, delL]
    conv => lhs; rw [e]
    rw [List.filter_append, List.filter_cons_of_neg (by simpa using h2), ha, hb]
  · rw [nextF, if_neg h, List.take_append_drop, delL, List.filter_eq_self]
    intro q hq
    obtain ⟨j, hj, rfl⟩ := List.mem_iff_getElem.1 hq
    have := fun e => h (key_pos l k hr j hj e).1
    rw [show l.getD j ([], []) = l[j] by simp [hj]] at this
    simpa using this
theorem behind_next (l : PL) (k : List UInt8) (hr : Rises l) (j : Nat) (hj : j < l.length) : klt k (l.getD j ([], [])).1 = decide (nextF l k ≤ j) := by
  have hp := klt_pos l k hr j hj
  have hn := next_le l k
  by_cases h1 : j < posF l k
  · rw [decide_eq_true h1] at hp
    rw [klt_asymm _ _ hp, decide_eq_false (by omega)]
  · rw [decide_eq_false h1] at hp
    by_cases e : (l.getD j ([], [])).1 = k
    · obtain ⟨h2, h3⟩ := key_pos l k hr j hj e
      rw [e, klt_irrefl, nextF, if_pos h2, decide_eq_false (by omega)]
    · rw [klt_total _ _ hp e]
      by_cases h : hasF l k = true
      · rw [nextF, if_pos h, decide_eq_true (by
          by_cases hjp : j = posF l k
          · exact absurd (by rw [hjp]; exact (has_pos h).2) e
          · omega)]
      · rw [nextF, if_neg h, decide_eq_true (by omega)]
theorem range_next (l : PL) (f t : List UInt8) (hr : Rises l) : rangeL l f t = (l.take (max (posF l f) (nextF l t))).drop (posF l f) := by
  have h1 := pos_le l f
  have h2 := next_le l t
  have e : rangeL l f t = (l.filter fun q => !klt t q.1).filter fun q => !klt q.1 f := by
    rw [rangeL, List.filter_filter]
  rw [e, filter_take l _ (nextF l t) h2.2.1 (fun j hj => by rw [behind_next l t hr j (by omega), decide_eq_false (by omega)]; rfl) (fun j hj hjl => by rw [behind_next l t hr j hjl, decide_eq_true hj]; rfl)]
  have hd : ∀ (n : Nat), n ≤ l.length → (l.take n).filter (fun q => !klt q.1 f) = (l.take n).drop (posF l f) := by
    intro n hn
    by_cases hc : posF l f ≤ n
    · refine filter_drop _ _ _ (by simp; omega) (fun j hj => ?_) (fun j hj hjl => ?_)
      · have : (l.take n).getD j ([], []) = l.getD j ([], []) := by simp [show j < n by omega]
        rw [this, klt_pos l f hr j (by omega), decide_eq_true hj]; rfl
      · have hjn : j < n := by simp at hjl; omega
        have : (l.take n).getD j ([], []) = l.getD j ([], []) := by simp [hjn]
        rw [this, klt_pos l f hr j (by omega), decide_eq_false (by omega)]; rfl
    · rw [List.drop_eq_nil_of_le (by simp; omega), List.filter_eq_nil_iff]
      intro q hq
      obtain ⟨j, hj, rfl⟩ := List.mem_iff_getElem.1 hq
      have hjn : j < n := by simp at hj; omega
      rw [List.getElem_take, show l[j]'(by omega) = l.getD j ([], []) by simp [show j < l.length by omega], klt_pos l f hr j (by omega), decide_eq_true (by omega)]
      simp
  rw [hd _ h2.2.1]
  by_cases hc : posF l f ≤ nextF l t
  · rw [Nat.max_eq_right hc]
  · rw [Nat.max_eq_left (by omega), List.drop_eq_nil_of_le (by simp; omega), List.drop_eq_nil_of_le (by simp; omega)]
end Go.Proofs.YtdpoickggdgddabDoor
