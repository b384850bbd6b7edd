/-
  Texts of this proof, joined: RCopyQ, RForC.
-/
import Derived.Test.YtpmfbfflacbmjaaRCopy
import Derived.Test.YtpmfbfflacbmjaaPart2
import Derived.Test.YtpmfbfflacbmjaaPart4
import Derived.Test.YtpmfbfflacbmjaaPart8
import Derived.Deep.RegionHeld3
import Derived.Deep.RegionWith
import Derived.Handy
/-
  The walk of the document's answer: PairsCopy, where all is new.
-/
namespace Go.Proofs.Ytpmfbfflacbmjaa
open Go.RowKit
set_option maxRecDepth 100000 in
set_option maxHeartbeats 1000000 in
theorem pairsCopy_new (w : World) (v : Value) (l : PL) (hv : PairsIs w v l) (hl : l.length * 48 ≤ 140737488355328) (hls : ∀ i, i < l.length → (l.getD i ([], [])).1.length ≤ 140737488355328 ∧ (l.getD i ([], [])).2.length ≤ 140737488355328) :
    Calls Try.prog 84 #[v] w fun e w' => ∃ v', e = .returned v' ∧ PairsB 0 w' v' l ∧ w.grownBy w' none := by
  obtain ⟨a, cap, rfl⟩ := hv.shape
  go_enter Try.func84, Try.ntmps84
  go_wp2_with fail
  go_loopw [3, 4] (fun cv i wr => ∃ m : Nat, m ≤ l.length ∧ i = .int .i64 (m : Int) ∧ OwnQ w.heap.size 0 wr cv (l.take m) ∧ w.grownBy wr none) (fun _ i _ => l.length - (intOf i).toNat)
  case atStart => exact ⟨0, by omega, rfl, ownQ_nil _ _ _, grown_refl _ _⟩
  case round =>
    obtain ⟨m, hm, rfl, hown, hg⟩ := hrel
    by_cases hlt : m < l.length
    · obtain ⟨b, o, rfl, hat⟩ := hv.at m hlt
      obtain ⟨vk, vv, c1, c2, s1, s2⟩ := hat.grown hg
      have HT : Hid (l.take (m + 1) = l.take m ++ [l.getD m ([], [])]) := by
        show _ = _
        rw [List.take_succ_eq_append_getElem hlt]; simp [hlt]
      have hTl : (l.take m).length = m := by simp; omega
      obtain ⟨hl1, hl2⟩ := hls m hlt
      generalize l.getD m ([], []) = P at *
      generalize l.take m = T at *
      have CP : Hid (Calls Try.prog 95 #[.agg #[vk, vv]] wr fun e w' => ∃ vk vv, e = .returned (.agg #[vk, vv]) ∧ Own wr.heap.size w' vk P.1 ∧ Own wr.heap.size w' vv P.2 ∧ wr.grownBy w' none) := rpairCopy_any wr _ P ⟨vk, vv, rfl, s1, s2⟩ hl1 hl2
      obtain ⟨ak, ck, rfl, _⟩ := s1
      obtain ⟨av, cv, rfl, _⟩ := s2
      obtain ⟨ca, ccap, rfl⟩ := hown.shape
      rw [hTl] at hown ⊢
      clear hat hls
      have i1 : (m : Int) < (l.length : Int) := by omega
      go_wp2_with fail
      refine CP.out.mono ?_
      rintro e w1 ⟨xk, xv, rfl, ok, ov, hg1⟩
      obtain ⟨xa, xc, rfl⟩ := ok.shape
      obtain ⟨ya, yc, rfl⟩ := ov.shape
      clear c1 c2 CP
      have hsz := (grown_trans hg hg1).size
      have hown1 : OwnQ w.heap.size 0 (w1.alloc (.cells #[.slice xa P.1.length xc, .slice ya P.2.length yc] 85)) (.slice ca m ccap) T := (hown.grownNone hg1).alloc _
      have HK : Hid (PartIs 0 (w1.alloc (.cells #[.slice xa P.1.length xc, .slice ya P.2.length yc] 85)) (.slice xa P.1.length xc) P.1) := (ok.alloc _).part
      have HV : Hid (PartIs 0 (w1.alloc (.cells #[.slice xa P.1.length xc, .slice ya P.2.length yc] 85)) (.slice ya P.2.length yc) P.2) := (ov.alloc _).part
      clear ok ov hown
      go_wp2_with (at_builtin; refine wpList_append_pairQ (w0 := w1.alloc (.cells #[.slice xa P.1.length xc, .slice ya P.2.length yc] 85)) rfl _ _ rfl w.heap.size 0 (Nat.zero_le _) (.slice ca m ccap) T rfl hown1 _ _ P HK.out HV.out rfl (w1.heap.size + 1) rfl (by simp) (by omega) (by simp; omega) ?_; intro v2 w2 ho2 hg2)
      have hgw := grown_ownQ (grown_alloc (grown_alloc (grown_trans hg hg1) _) _) (hown1.alloc _) (Nat.le_refl _) hg2
      go_roundw
      case rel => exact ⟨m + 1, by omega, by go_num, by rw [HT.out]; exact ho2, hgw⟩
      case measure => simp [intOf]; omega
    · obtain rfl : m = l.length := by omega
      rw [List.take_length] at hown
      obtain ⟨pa, pcap, rfl⟩ := hown.shape
      go_wp2
      go_ret
      exact ⟨_, rfl, hown.pairsB, hg⟩
end Go.Proofs.Ytpmfbfflacbmjaa

/-
  The walk of the document's answer to P5: ForestCopy.
-/
namespace Go.Proofs.Ytpmfbfflacbmjaa
open Go.RowKit
set_option maxRecDepth 100000 in
set_option maxHeartbeats 2000000 in
theorem forestCopy_any (w : World) (v : Value) (l : FL) (hv : TensIs w v l) (hl : FitsT l) :
    Calls Try.prog 51 #[v] w fun e w' => ∃ v', e = .returned v' ∧ OwnT w.heap.size w' v' l ∧ w.grownBy w' none := by
  obtain ⟨a, cap, rfl⟩ := hv.shape
  have hmany := hl.many
  have HF : Hid (FitsT l) := hl
  clear hl
  go_enter Try.func51, Try.ntmps51
  go_wp2_with fail
  go_loopw [3, 4] (fun cv i wr => ∃ m : Nat, m ≤ l.length ∧ i = .int .i64 (m : Int) ∧ OwnT w.heap.size wr cv (l.take m) ∧ w.grownBy wr none) (fun _ i _ => l.length - (intOf i).toNat)
  case atStart => exact ⟨0, by omega, rfl, ownT_nil _ _, grown_refl _ _⟩
  case round =>
    obtain ⟨m, hm, rfl, hown, hg⟩ := hrel
    by_cases hlt : m < l.length
    · obtain ⟨b, o, rfl, hat⟩ := hv.at m hlt
      have hbw : b < w.heap.size := by obtain ⟨_, _, c, _⟩ := hat; exact cell_lt c
      obtain ⟨vn, vp, c1, c2, s1, s2⟩ := hat.grown hg
      have HT : Hid (l.take (m + 1) = l.take m ++ [l.getD m ([], [])]) := by
        show _ = _
        rw [List.take_succ_eq_append_getElem hlt]; simp [hlt]
      have hTl : (l.take m).length = m := by simp; omega
      obtain ⟨hl1, hl2⟩ := HF.out.each m hlt
      generalize l.getD m ([], []) = P at *
      generalize l.take m = T at *
      have JO : Hid (∀ w', wr.grownBy w' none → Calls Try.prog 44 #[vn, .slice none 0 0] w' fun e w'' => ∃ v', e = .returned v' ∧ Own w'.heap.size w'' v' P.1 ∧ w'.grownBy w'' none) := fun w' hg' => by
        have := joined_gen w' vn (.slice none 0 0) P.1 [] (s1.grown hg') (sliceIs_nil _) (by simp; omega)
        rw [List.append_nil] at this
        exact this
      have PC : Hid (∀ w', wr.grownBy w' none → Calls Try.prog 84 #[vp] w' fun e w'' => ∃ v', e = .returned v' ∧ PairsB 0 w'' v' P.2 ∧ w'.grownBy w'' none) := fun w' hg' => pairsCopy_new w' vp P.2 (s2.grown hg') hl2.many hl2.each
      obtain ⟨ak, ck, rfl⟩ := s1.shape
      obtain ⟨av, cv, rfl⟩ := s2.shape
      obtain ⟨ca, ccap, rfl⟩ := hown.shape
      rw [hTl] at hown ⊢
      have HOW : Hid (OwnT w.heap.size wr (.slice ca m ccap) T) := hown
      clear hat hl1 hl2 s1 s2 hown
      have i1 : (m : Int) < (l.length : Int) := by omega
      have hsz := hg.size
      have e1 : wr.drew.cell? ⟨b, o + m * 2, none⟩ = some (.slice ak P.1.length ck) := c1
      have e2 : wr.drew.cell? ⟨b, o + m * 2 + 1, none⟩ = some (.slice av P.2.length cv) := c2
      have hgd := grown_drew (grown_refl wr none)
      go_upto_region 5 with fail
      go_region_held3 (fun w' => w'.cell? ⟨b, o + m * 2, none⟩ = some (.slice ak P.1.length ck) ∧ w'.cell? ⟨b, o + m * 2 + 1, none⟩ = some (.slice av P.2.length cv))
        (first | with_reducible exact ⟨e1, e2⟩ | with_reducible exact ⟨f1, f2⟩ | with_reducible exact ⟨f3, f4⟩ | with_reducible exact ⟨(World.grownBy_alloc _ _ none).cell f3 (by simp), (World.grownBy_alloc _ _ none).cell f4 (by simp)⟩ | with_reducible exact ⟨f5, f6⟩)
        (first
          | (go_at_call 44; with_reducible refine (JO.out _ hgd).mono ?_; rintro e w2 ⟨v2, rfl, ho2, hg2⟩; obtain ⟨xa, xc, rfl⟩ := ho2.shape; have hgd2 := grown_trans hgd hg2; have f1 := hgd2.cell c1 (by simp); have f2 := hgd2.cell c2 (by simp))
          | (go_at_call 84; with_reducible refine (PC.out _ hgd2).mono ?_; rintro e w3 ⟨v3, rfl, ho3, hg3⟩; obtain ⟨ya, yc, rfl⟩ := ho3.shape; have hgd3 := grown_trans hgd2 hg3; have f3 := hgd3.cell c1 (by simp); have f4 := hgd3.cell c2 (by simp))
          | (refine step_append_ten (by rfl) _ _ (by rfl) w.heap.size (.slice ca m ccap) T (by rfl) ((HOW.out.grownNone hgd3).alloc _) (.slice xa P.1.length xc) (.slice ya P.2.length yc) P ((ho2.grownNone hg3).alloc _).part ((ho3.up _).grown (World.grownBy_alloc _ _ _)) w3.heap.size (heap_alloc_new w3 _) (by rfl) (by omega) (by have := hgd3.size; simp; omega) ?_
             intro v4 w4 ho4 hg4
             have f5 := hg4.cell ((World.grownBy_alloc _ _ none).cell f3 (by simp)) (fun e => absurd (HOW.out.lt _ e.symm).1 (Nat.not_le_of_lt hbw))
             have f6 := hg4.cell ((World.grownBy_alloc _ _ none).cell f4 (by simp)) (fun e => absurd (HOW.out.lt _ e.symm).1 (Nat.not_le_of_lt hbw))))
      have hgw : w.grownBy w4 none := grown_ownT (grown_alloc (grown_trans hg hgd3) _) ((HOW.out.grownNone hgd3).alloc _) (Nat.le_refl _) hg4
      have HO4 : Hid (OwnT w.heap.size w4 v4 (T ++ [P])) := ho4
      clear e1 e2 f1 f2 f3 f4 f5 f6 ho2 ho3 ho4 hg4 hgd3 hgd2 hgd hg3 hg2 hg JO PC c1 c2 HOW
      go_wp2_with fail
      go_roundw
      case rel => exact ⟨m + 1, by omega, by go_num, by rw [HT.out]; exact HO4.out, hgw⟩
      case measure => simp [intOf]; omega
    · obtain rfl : m = l.length := by omega
      rw [List.take_length] at hown
      obtain ⟨pa, pcap, rfl⟩ := hown.shape
      go_wp2
      go_ret
      exact ⟨_, rfl, hown, hg⟩
end Go.Proofs.Ytpmfbfflacbmjaa
