/-
  The walk of canopykeep.LinesBack, over what the code must keep.
-/
import Derived.Test.YtpefggkhjocanaaDoorLnRd
import Derived.Test.YtpefggkhjocanaaDoorLnSh
import Derived.Test.YtpefggkhjocanaaDoorKActs
import Derived.Test.YtpefggkhjocanaaDoorKSame
import Derived.BigQuiet
namespace Go.Proofs.YtpefggkhjocanaaDoor
open Go.RowKit
theorem smallA_fits {l : List Ac} (h : SmallA l) (hl : l.length ≤ 1000) : FitsA l :=
  ⟨by omega, fun i hi => ac_fits (h _ (by rw [show l.getD i noAc = l[i] by simp [hi]]; exact List.getElem_mem hi)).1⟩
set_option maxRecDepth 100000 in
set_option maxHeartbeats 4000000 in
theorem linesBack_walk (hR : LnReadOK) (hS : LnShowOK) (w : World) (hWT : LnT w) (v : Value) (l : List Ft) (hv : FeatsIs w v l) (hf : FitsFt l) :
    Calls Tryd.prog 5 #[v] w fun e w' => e = .returned (.bool true) ∧ w.grownBy w' none := by
  have KA : Hid (Calls Tryd.prog 14 #[v, .int .i64 30] w fun e w' => ∃ (cs : List Ac) (v' : Value), e = .returned v' ∧ OwnA w.heap.size w' v' cs ∧ SmallA cs ∧ cs.length ≤ 30 ∧ w.grownBy w' none) := kacts_any w v l 30 (by omega) hv hf
  have HR : Hid LnReadOK := hR
  have HS : Hid LnShowOK := hS
  obtain ⟨a, cap, rfl⟩ := hv.shape
  have HWT : Hid (∀ W, w.grownBy W none → LnT W) := fun W h => hWT.grown h
  clear hR hS hv hf hWT
  go_enter Tryd.func5, Tryd.ntmps5
  go_wp2_with fail
  refine KA.out.mono ?_
  rintro e w1 ⟨cs, v1, rfl, ho1, hsm, hl30, hg1⟩
  have HL1 : Hid (ActsIs w1 v1 cs) := ho1.list
  obtain ⟨a1, k1, rfl⟩ := ho1.shape
  have hok : ∀ x ∈ cs, ActOK x := fun x hx => (hsm x hx).1
  obtain ⟨s1, s2, s3⟩ := show_ok hok (by omega)
  have hbl : (showB cs).length ≤ 2000000 := by have := showB_len cs 80 hsm; omega
  obtain ⟨r1, r2, r3⟩ := read_show hok (by omega) hbl
  have SH : Hid (Calls Tryd.prog 9 #[.slice a1 cs.length k1] w1 fun e w'' => e = .returned (.tuple #[.string (textOf (showB cs)), .int .i64 0, .int .i64 0]) ∧ w1.grownBy w'' none) := by
    have := HS.out w1 _ cs (HWT.out w1 hg1).toWrdT HL1.out (smallA_fits hsm (by omega))
    rw [s1, s2, s3] at this
    exact this
  have RD : Hid (∀ W, w.grownBy W none → Calls Tryd.prog 12 #[.string (textOf (showB cs))] W fun e w' => ∃ x, e = .returned (.tuple #[x, .int .i64 0, .int .i64 0]) ∧ ActsIs w' x cs ∧ W.grownBy w' none) := fun W hg => by
    have := HR.out W (textOf (showB cs)) (HWT.out W hg)
    rw [tl_text, r1, r2, r3] at this
    exact this
  clear ho1 hsm hok s1 s2 s3 r1 r2 r3 hbl HR HS KA HWT
  generalize textOf (showB cs) = TX at *
  go_wp2_with fail
  refine SH.out.mono ?_
  rintro e w2 ⟨rfl, hg2⟩
  go_wp2_with fail
  refine (RD.out _ (grown_trans hg1 hg2)).mono ?_
  rintro e w3 ⟨x3, rfl, h3, hg3⟩
  have HL3 : Hid (ActsIs w3 x3 cs) := h3
  have HL13 : Hid (ActsIs w3 (.slice a1 cs.length k1) cs) := HL1.out.grown (grown_trans hg2 hg3)
  obtain ⟨a3, k3, rfl⟩ := h3.shape
  have hgw3 := grown_trans hg1 (grown_trans hg2 hg3)
  clear h3 RD SH HL1
  go_wp2_with fail
  go_loopw [10] (fun i wr => ∃ m : Nat, m ≤ cs.length ∧ i = .int .i64 (m : Int) ∧ w3.grownBy wr none) (fun i _ => cs.length - (intOf i).toNat)
  case atStart => exact ⟨0, by omega, rfl, grown_refl _ _⟩
  case round =>
    obtain ⟨m, hm, rfl, hg⟩ := hrel
    by_cases hlt : m < cs.length
    · obtain ⟨b, o, rfl, hat⟩ := HL13.out.at m hlt
      obtain ⟨b2, o2, rfl, hat2⟩ := HL3.out.at m hlt
      obtain ⟨vd, c1, c2, c3, c4, s1⟩ := hat.grown hg
      obtain ⟨ud, d1, d2, d3, d4, r1⟩ := hat2.grown hg
      generalize cs.getD m noAc = P at *
      have S1 : Hid (∀ w', wr.grownBy w' none → Calls Tryd.prog 15 #[vd, ud] w' fun e w'' => e = .returned (.bool true) ∧ w'' = w') := fun w' hg' => by
        have := same_any w' vd ud P.data P.data (s1.grown hg') (r1.grown hg')
        rw [decide_eq_true rfl] at this
        exact this
      obtain ⟨a1, k1, rfl⟩ := s1.shape
      obtain ⟨t1, q1, rfl⟩ := r1.shape
      have i1 : (m : Int) < (cs.length : Int) := by omega
      have hgd := grown_drew (grown_refl wr none)
      generalize P.data.length = n1 at *
      generalize P.kind = pk at *
      generalize P.sess = ps at *
      generalize P.keep = pq at *
      clear hat hat2 s1 r1
      go_upto_region 9 with fail
      go_quiet (first
        | (go_at_call_of 15 (Value.slice a1 n1 k1); exact Calls.quiet_of_same (S1.out _ (grown_drewN (grown_refl wr none) _))))
      go_wp2_with fail
      go_roundw
      case rel => exact ⟨m + 1, by omega, by go_num, grown_drewN hg _⟩
      case measure => simp [intOf]; omega
    · obtain rfl : m = cs.length := by omega
      go_wp2
      go_ret
      exact ⟨rfl, grown_trans hgw3 hg⟩
end Go.Proofs.YtpefggkhjocanaaDoor
