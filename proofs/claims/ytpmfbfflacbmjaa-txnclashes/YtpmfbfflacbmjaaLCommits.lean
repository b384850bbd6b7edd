/-
  The walk of canopylaw's commits.
-/
import Derived.Test.YtpmfbfflacbmjaaLCmtN
import Derived.Test.YtpmfbfflacbmjaaPart2
namespace Go.Proofs.Ytpmfbfflacbmjaa
open Go.RowKit
set_option maxRecDepth 100000 in
set_option maxHeartbeats 2000000 in
theorem commits_any (w : World) (v : Value) (l : List Cmt) (hv : CommitsIs w v l) (hl : FitsCs l) :
    Calls Try.prog 29 #[v] w fun e w' => ∃ v', e = .returned v' ∧ OwnC w.heap.size w' v' l ∧ w.grownBy w' none := by
  obtain ⟨a, cap, rfl⟩ := hv.shape
  have hmany := hl.many
  have HF : Hid (∀ i, i < l.length → FitsC (l.getD i noCmt)) := hl.each
  have HV : Hid (CommitsIs w (.slice a l.length cap) l) := hv
  clear hl hv
  go_enter Try.func29, Try.ntmps29
  go_wp2_with fail
  go_loopw [3, 4] (fun cv i wr => ∃ m : Nat, m ≤ l.length ∧ i = .int .i64 (m : Int) ∧ OwnC w.heap.size wr cv (l.take m) ∧ w.grownBy wr none) (fun _ i _ => l.length - (intOf i).toNat)
  case atStart => exact ⟨0, by omega, rfl, ownC_nil _ _, grown_refl _ _⟩
  case round =>
    obtain ⟨m, hm, rfl, hown, hg⟩ := hrel
    obtain ⟨ca, ccap, rfl⟩ := hown.shape
    by_cases hlt : m < l.length
    · obtain ⟨b, o, rfl, hat⟩ := HV.out.at m hlt
      obtain ⟨vs, c1, c2, s1⟩ := hat.grown hg
      have HT : Hid (l.take (m + 1) = l.take m ++ [l.getD m noCmt]) := by
        show _ = _
        rw [List.take_succ_eq_append_getElem hlt]; simp [hlt]
      have hTl : (l.take m).length = m := by simp; omega
      have hpf := HF.out m hlt
      generalize l.getD m noCmt = C at *
      generalize l.take m = T at *
      have CP : Hid (Calls Try.prog 70 #[.agg #[.int .i64 C.turn, vs]] wr fun e w' => ∃ x, e = .returned (.agg #[.int .i64 C.turn, x]) ∧ OwnV wr.heap.size 0 w' x C.writes ∧ wr.grownBy w' none) := commitV_any wr _ C ⟨vs, rfl, s1⟩ hpf.writes
      obtain ⟨a1, k1, rfl⟩ := s1.shape
      rw [hTl] at hown ⊢
      have HOW : Hid (OwnC w.heap.size wr (.slice ca m ccap) T) := hown
      have i1 : (m : Int) < (l.length : Int) := by omega
      clear hat s1 hpf hown
      go_wp2_with fail
      refine CP.out.mono ?_
      rintro e w1 ⟨x, rfl, h1, hg1⟩
      obtain ⟨xa, xn, xc, rfl⟩ := h1.any
      have hgw1 := grown_trans hg hg1
      obtain ⟨W2, HW2, hga, B2⟩ := alloc_namedN w1 (.cells #[.int .i64 C.turn, .slice xa xn xc] 93)
      obtain ⟨y0, y1, _, _⟩ := pair_room (grown_refl W2 none) B2.out
      obtain ⟨W3, HW3, hg3, B3⟩ := alloc_namedN W2 (.cells #[.int .i64 C.turn, .slice xa xn xc] 93)
      have hg13 := grown_trans hga hg3
      have HO3 : Hid (OwnC w.heap.size W3 (.slice ca m ccap) T) := HOW.out.grownNone (grown_trans hg1 hg13)
      have H1 : Hid (WritesB w.heap.size W3 (.slice xa xn xc) C.writes) := (h1.grownNone hg13).writesB.mono (Nat.zero_le _)
      have hgw3 := grown_trans hgw1 hg13
      have hl32 : (T.length + 1) * 32 ≤ 140737488355328 := by omega
      have HBS : Hid (w.heap.size ≤ W3.heap.size) := hgw3.size
      clear h1 c1 c2 CP
      go_upto_region 6 with fail
      rw [← HW2.out]
      go_wp2_with (at_builtin; rw [← HW3.out]; refine wpList_append_cmt rfl _ _ rfl w.heap.size (.slice ca m ccap) T rfl HO3.out (.slice xa xn xc) C H1.out W2.heap.size B3.out rfl hl32 HBS.out ?_; intro v4 w4 ho4 hg4)
      have hgw4 : w.grownBy w4 none := grown_ownC hgw3 HO3.out (Nat.le_refl _) hg4
      go_roundw
      case rel => exact ⟨m + 1, by omega, by go_num, by rw [HT.out]; exact ho4, hgw4⟩
      case measure => simp [intOf]; omega
    · obtain rfl : m = l.length := by omega
      rw [List.take_length] at hown
      rw [List.take_length]
      go_wp2
      go_ret
      exact ⟨_, rfl, hown, hg⟩
end Go.Proofs.Ytpmfbfflacbmjaa
