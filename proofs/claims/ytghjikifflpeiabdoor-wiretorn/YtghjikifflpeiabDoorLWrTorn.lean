/-
  The walk of canopykeep.WireTorn, over what the code must keep.
-/
import Derived.Test.YtghjikifflpeiabDoorRqEn
import Derived.Test.YtghjikifflpeiabDoorRqDe
import Derived.Test.YtghjikifflpeiabDoorKReq
import Derived.Test.YtghjikifflpeiabDoorPicked
import Derived.Test.YtghjikifflpeiabDoorBSlice
namespace Go.Proofs.YtghjikifflpeiabDoor
open Go.RowKit
set_option maxRecDepth 100000 in
set_option maxHeartbeats 4000000 in
theorem wireTorn_walk (hE : RqEncOK) (hD : RqDecOK) (w : World) (v : Value) (c : Rq) (cut : Int) (hT : PrtT w) (hv : RqIs w v c) (hf : RqFits c) (hn0 : -9223372036854775808 ≤ cut) (hn1 : cut ≤ 9223372036854775807) :
    Calls Tryd.prog 4 #[v, .int .i64 cut] w fun e w' => e = .returned (.bool true) ∧ w.grownBy w' none := by
  obtain ⟨n1, n2, k1, k2, l1, l2, v1, v2, rfl⟩ := hv.agg
  obtain ⟨W0, HW0, hg0, B0⟩ := alloc_namedR w (.cells #[.int .i64 c.kind, .slice n1 c.name.length n2, .slice k1 c.key.length k2, .slice l1 c.last.length l2, .slice v1 c.value.length v2] 32)
  obtain ⟨⟨c0, c1, c2, c3, c4⟩, hfz, _⟩ := five_room (grown_refl W0 none) B0.out
  clear hfz
  have HT : Hid (PrtT W0) := hT.grown hg0
  have KR : Hid (Calls Tryd.prog 10 #[.agg #[.int .i64 c.kind, .slice n1 c.name.length n2, .slice k1 c.key.length k2, .slice l1 c.last.length l2, .slice v1 c.value.length v2]] W0 fun e w' => ∃ k : Nat, k < 8 ∧ ∃ x, e = .returned x ∧ RqIs w' x (rqOf k c.name c.key c.last c.value) ∧ W0.grownBy w' none) := kreq_any W0 _ c (hv.grown hg0) hf
  have HOK : Hid (∀ k, k < 8 → RqOK (rqOf k c.name c.key c.last c.value)) := fun k hk => rqOf_ok k hk _ _ _ _
  have HE : Hid RqEncOK := hE
  have HD : Hid RqDecOK := hD
  have PKK : Hid (∀ (m : Int) w', 0 < m → m ≤ 2000000 → Calls Tryd.prog 11 #[.int .i64 cut, .int .i64 m] w' fun e w'' => ∃ k : Nat, e = .returned (.int .i64 (k : Int)) ∧ (k : Int) < m ∧ w'' = w') := fun m w' h1 h2 => picked_any cut m w' hn0 hn1 h1 h2
  clear hE hD hn0 hn1
  clear hv hf hT
  generalize c.kind = CK at *
  generalize c.name.length = x0 at *
  generalize c.key.length = x1 at *
  generalize c.last.length = x2 at *
  generalize c.value.length = x3 at *
  go_enter Tryd.func4, Tryd.ntmps4
  go_upto_region 1 with fail
  rw [← HW0.out]
  obtain ⟨IB, hIB⟩ : ∃ IB, IB = w.heap.size := ⟨_, rfl⟩
  rw [← hIB] at B0 c0 c1 c2 c3 c4 ⊢
  clear hIB HW0
  go_wp2_with fail
  refine KR.out.mono ?_
  rintro e w1 ⟨k, hk, x, rfl, h1, hg1⟩
  have ho := HOK.out k hk
  obtain ⟨P, hP⟩ : ∃ P, P = rqOf k c.name c.key c.last c.value := ⟨_, rfl⟩
  rw [← hP] at h1 ho
  have HP : Hid (RqOK P) := ho
  have HY : Hid (RqIs w1 x P) := h1
  obtain ⟨p1, p2, p3, p4, p5, p6, p7, p8, rfl⟩ := h1.agg
  clear hk hP HOK KR ho h1 c0 c1 c2 c3 c4
  have hz := (req_iff P).2 HP.out
  have hlen := reqB_len HP.out
  have EN : Hid (Calls Tryd.prog 8 #[.agg #[.int .i64 P.kind, .slice p1 P.name.length p2, .slice p3 P.key.length p4, .slice p5 P.last.length p6, .slice p7 P.value.length p8]] w1 fun e w' => ∃ x, e = .returned (.tuple #[x, .int .i64 0]) ∧ SliceIs w' x (reqB P) ∧ w1.grownBy w' none) := by
    have h := HE.out w1 _ P (HT.out.grown hg1) HY.out (rq_fits HP.out)
    rw [hz, show rencB P = reqB P by rw [rencB, if_pos hz]] at h
    exact h
  have DE : Hid (∀ w' u (k : Nat), W0.grownBy w' none → k < (reqB P).length → SliceIs w' u ((reqB P).take k) → Calls Tryd.prog 7 #[u] w' fun e w'' => ∃ x, e = .returned (.tuple #[x, .int .i64 14]) ∧ RqIs w'' x (wdecR ((reqB P).take k)) ∧ w'.grownBy w'' none) := fun w' u k hg hk h => by
    have h := HD.out w' u _ (HT.out.grown hg) h (by rw [List.length_take]; omega)
    rw [req_torn HP.out k hk] at h
    exact h
  obtain ⟨BB, hBB⟩ : ∃ BB, BB = reqB P := ⟨_, rfl⟩
  rw [← hBB] at EN DE hlen
  have PK : Hid (∀ w', Calls Tryd.prog 11 #[.int .i64 cut, .int .i64 (BB.length : Int)] w' fun e w'' => ∃ k : Nat, e = .returned (.int .i64 (k : Int)) ∧ (k : Int) < (BB.length : Int) ∧ w'' = w') := fun w' => PKK.out _ w' (by omega) (by omega)
  have i1 : ¬ (BB.length : Int) < 1 := by omega
  have i2 : (1 : Int) ≤ (BB.length : Int) := by omega
  have i3 : decide ((BB.length : Int) < 1) = false := decide_eq_false i1
  clear hz hBB HE HD HP PKK
  go_wp2_with fail
  refine EN.out.mono ?_
  rintro e w2 ⟨y, rfl, h2, hg2⟩
  have HB : Hid (SliceIs w2 y BB) := h2
  obtain ⟨ya, yc, rfl⟩ := h2.shape
  have hcap := h2.cap.1
  have hg02 := grown_trans hg1 hg2
  clear h2
  go_wp2_with fail
  refine (PK.out _).mono ?_
  rintro e w3 ⟨k, rfl, hk, hw⟩
  rw [hw]
  clear hw w3
  obtain ⟨a1, s1, r1, r2⟩ := bslice_h ya yc BB k (by omega) hcap
  have r1w := r1 w2
  have HQ : Hid (SliceIs w2 (.slice a1 k s1) (BB.take k)) := r2 _ HB.out
  clear r1 r2
  go_wp2_with fail
  refine (DE.out _ _ k hg02 (by omega) HQ.out).mono ?_
  rintro e w4 ⟨u, rfl, h4, hg4⟩
  obtain ⟨q1, q2, q3, q4, q5, q6, q7, q8, rfl⟩ := h4.agg
  generalize wdecR (BB.take k) = R4 at *
  clear h4
  go_wp2
  go_ret
  exact ⟨rfl, grown_trans hg0 (grown_alloc (grown_trans hg02 hg4) _)⟩
end Go.Proofs.YtghjikifflpeiabDoor
