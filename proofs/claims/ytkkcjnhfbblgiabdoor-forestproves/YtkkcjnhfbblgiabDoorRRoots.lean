/-
  The walk of the document's answer to P5.5: rootsOf.
-/
import Derived.Test.YtkkcjnhfbblgiabDoorRRoot
import Derived.Test.YtkkcjnhfbblgiabDoorRJoined
import Derived.Test.YtkkcjnhfbblgiabDoorPart13
import Derived.Test.YtkkcjnhfbblgiabDoorTenMem
import Derived.Test.YtkkcjnhfbblgiabDoorPart2
namespace Go.Proofs.YtkkcjnhfbblgiabDoor
open Go.RowKit
set_option maxRecDepth 100000 in
set_option maxHeartbeats 1000000 in
theorem rootsOf_any (w : World) (v : Value) (l : FL) (hv : TensIs w v l) (hF : Forest l) :
    Calls Tryd.prog 29 #[v] w fun e w' => ∃ v', e = .returned v' ∧ PairsIs w' v' (rootsF l) ∧ w.grownBy w' none := by
  obtain ⟨a, cap, rfl⟩ := hv.shape
  have HF : Hid (Forest l) := hF
  have hroom := hF.room
  clear hF
  go_enter Tryd.func29, Tryd.ntmps29
  go_wp2_with fail
  go_loopw [3, 4] (fun cv i wr => ∃ m : Nat, m ≤ l.length ∧ i = .int .i64 (m : Int) ∧ OwnQ w.heap.size 0 wr cv (rootsF (l.take m)) ∧ w.grownBy wr none) (fun _ i _ => l.length - (intOf i).toNat)
  case atStart => exact ⟨0, by omega, rfl, ownQ_nil _ _ _, grown_refl _ _⟩
  case round =>
    obtain ⟨m, hm, rfl, hown, hg⟩ := hrel
    by_cases hlt : m < l.length
    · obtain ⟨b, o, rfl, hat⟩ := hv.at m hlt
      obtain ⟨vn, vp, c1, c2, s1, s2⟩ := hat.grown hg
      have HT : Hid (rootsF (l.take (m + 1)) = rootsF (l.take m) ++ [((l.getD m ([], [])).1, rootL (l.getD m ([], [])).2)]) := roots_take l m hlt
      have hten := HF.out.tens l[m] (List.getElem_mem hlt)
      rw [show l[m] = l.getD m ([], []) by simp [hlt]] at hten
      have hTl : (rootsF (l.take m)).length = m := by rw [roots_len]; simp; omega
      generalize l.getD m ([], []) = P at *
      generalize rootsF (l.take m) = T at *
      have RO : Hid (Calls Tryd.prog 56 #[vp] wr fun e w' => ∃ x, e = .returned x ∧ OwnE w' x (rootL P.2) ∧ wr.grownBy w' none) := rootOf_own P.2.length wr vp P.2 (Nat.le_refl _) s2 hten.2.2
      have JN : Hid (∀ w', wr.grownBy w' none → Calls Tryd.prog 46 #[vn, .slice none 0 0] w' fun e w'' => ∃ v', e = .returned v' ∧ Own w'.heap.size w'' v' P.1 ∧ w'.grownBy w'' none) := fun w' hg' => by
        have := joined_gen w' vn (.slice none 0 0) P.1 [] (s1.grown hg') (sliceIs_nil _) (by have := hten.1.2; simp; omega)
        rw [List.append_nil] at this
        exact this
      obtain ⟨na, nc, rfl⟩ := s1.shape
      obtain ⟨pa, pc, rfl⟩ := s2.shape
      obtain ⟨ca, ccap, rfl⟩ := hown.shape
      rw [hTl] at hown ⊢
      generalize rootL P.2 = D at *
      have i1 : (m : Int) < (l.length : Int) := by omega
      have HO : Hid (OwnQ w.heap.size 0 wr (.slice ca m ccap) T) := hown
      clear hat s1 s2 hten hown
      go_wp2_with fail
      refine RO.out.mono ?_
      rintro e w1 ⟨x1, rfl, hx1, hg1⟩
      have HX1 : Hid (OwnE w1 x1 D) := hx1
      obtain ⟨ob, hox⟩ := hx1
      obtain ⟨xa, xc, rfl⟩ := hox.shape
      have d1 := hg1.cell c1 (by simp)
      have hgw1 := grown_trans hg hg1
      clear hox c1 c2
      go_wp2_with fail
      refine (JN.out _ hg1).mono ?_
      rintro e w2 ⟨x2, rfl, ho2, hg2⟩
      obtain ⟨ya, yc, rfl⟩ := ho2.shape
      have hgw2 := grown_trans hgw1 hg2
      have hown2 : OwnQ w.heap.size 0 w2 (.slice ca m ccap) T := (HO.out.grownNone hg1).grownNone hg2
      have HK : Hid (PartIs 0 w2 (.slice ya P.1.length yc) P.1) := ho2.part
      have HV : Hid (PartIs 0 w2 (.slice xa D.length xc) D) := by
        obtain ⟨ob, h⟩ := HX1.out
        exact (h.grownNone hg2).part
      have HO2 : Hid (OwnQ w.heap.size 0 w2 (.slice ca m ccap) T) := hown2
      have hsz := hgw2.size
      have hl48 : (T.length + 1) * 48 ≤ 140737488355328 := by omega
      clear ho2 hown2 d1
      go_wp2_with (at_builtin; refine wpList_append_pairQ (w0 := w2) rfl _ _ rfl w.heap.size 0 (Nat.zero_le _) (.slice ca m ccap) T rfl HO2.out (.slice ya P.1.length yc) (.slice xa D.length xc) (P.1, D) HK.out HV.out rfl w2.heap.size rfl rfl hl48 hsz ?_; intro v4 w4 ho4 hg4)
      have hgw4 := grown_ownQ (grown_alloc hgw2 _) (HO2.out.alloc _) (Nat.le_refl _) hg4
      go_roundw
      case rel => exact ⟨m + 1, by omega, by go_num, by rw [HT.out]; exact ho4, hgw4⟩
      case measure => simp [intOf]; omega
    · obtain rfl : m = l.length := by omega
      rw [List.take_length] at hown
      obtain ⟨pa, pcap, rfl⟩ := hown.shape
      have HO : Hid (PairsIs wr (.slice pa (rootsF l).length pcap) (rootsF l)) := hown.list
      generalize (rootsF l).length = n at *
      clear hown
      go_wp2
      go_ret
      exact ⟨_, rfl, HO.out, hg⟩
end Go.Proofs.YtkkcjnhfbblgiabDoor
