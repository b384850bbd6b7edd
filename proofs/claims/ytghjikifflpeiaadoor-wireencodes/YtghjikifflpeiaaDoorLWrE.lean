/-
  The walk of canopylaw.WireEncodes, over what the code must keep.
-/
import Derived.Test.YtghjikifflpeiaaDoorRqEn
import Derived.Test.YtghjikifflpeiaaDoorRRq2
import Derived.Test.YtghjikifflpeiaaDoorLReq
import Derived.Test.YtghjikifflpeiaaDoorLSame
namespace Go.Proofs.YtghjikifflpeiaaDoor
open Go.RowKit
set_option maxRecDepth 100000 in
set_option maxHeartbeats 2000000 in
theorem wireEncodes_walk (hC : RqEncOK) (w : World) (v : Value) (r : Rq) (hT : PrtT w) (hv : RqIs w v r) (hf : RqFits r) :
    Calls Tryd.prog 4 #[v] w fun e w' => e = .returned (.bool true) ∧ w.grownBy w' none := by
  obtain ⟨n1, n2, k1, k2, l1, l2, v1, v2, rfl⟩ := hv.agg
  obtain ⟨W0, HW0, hg0, B0⟩ := alloc_namedR w (.cells #[.int .i64 r.kind, .slice n1 r.name.length n2, .slice k1 r.key.length k2, .slice l1 r.last.length l2, .slice v1 r.value.length v2] 24)
  obtain ⟨⟨c0, c1, c2, c3, c4⟩, hfz, _⟩ := five_room (grown_refl W0 none) B0.out
  clear hfz
  have HV : Hid (RqIs W0 (.agg #[.int .i64 r.kind, .slice n1 r.name.length n2, .slice k1 r.key.length k2, .slice l1 r.last.length l2, .slice v1 r.value.length v2]) r) := hv.grown hg0
  have HT : Hid (PrtT W0) := hT.grown hg0
  have RQ : Hid (Calls Tryd.prog 10 #[.agg #[.int .i64 r.kind, .slice n1 r.name.length n2, .slice k1 r.key.length k2, .slice l1 r.last.length l2, .slice v1 r.value.length v2]] W0 fun e w' => ∃ x, e = .returned x ∧ RqIs w' x r ∧ W0.grownBy w' none) := requests_any W0 _ r HV.out hf
  have CK : Hid (∀ w' u, W0.grownBy w' none → RqIs w' u r → Calls Tryd.prog 12 #[u] w' fun e w'' => ∃ x, e = .returned (.tuple #[x, .int .i64 (reqE r)]) ∧ SliceIs w'' x (rencB r) ∧ w'.grownBy w'' none) := fun w' u hg h => hC w' u r (HT.out.grown hg) h hf
  have RF : Hid (∀ w', W0.grownBy w' none → Calls Tryd.prog 13 #[.agg #[.int .i64 r.kind, .slice n1 r.name.length n2, .slice k1 r.key.length k2, .slice l1 r.last.length l2, .slice v1 r.value.length v2]] w' fun e w'' => ∃ x, e = .returned (.tuple #[x, .int .i64 (reqE r)]) ∧ SliceIs w'' x (rencB r) ∧ w'.grownBy w'' none) := fun w' hg => requestBytes_any w' _ r (HV.out.grown hg) hf
  generalize reqE r = z at *
  generalize rencB r = R at *
  have hzz : (z == z) = true := by simp
  clear hv hf hT
  generalize r.kind = K at *
  generalize r.name.length = x0 at *
  generalize r.key.length = x1 at *
  generalize r.last.length = x2 at *
  generalize r.value.length = x3 at *
  go_enter Tryd.func4, Tryd.ntmps4
  go_upto_region 1 with fail
  rw [← HW0.out]
  obtain ⟨IB, hIB⟩ : ∃ IB, IB = w.heap.size := ⟨_, rfl⟩
  rw [← hIB] at B0 c0 c1 c2 c3 c4 ⊢
  clear hIB
  go_wp2_with fail
  refine RQ.out.mono ?_
  rintro e w1 ⟨x, rfl, h1, hg1⟩
  have HX : Hid (RqIs w1 x r) := h1
  obtain ⟨a1, a2, b1, b2, d1, d2, e1, e2, rfl⟩ := h1.agg
  clear h1 c0 c1 c2 c3 c4
  go_wp2_with fail
  refine (CK.out _ _ hg1 HX.out).mono ?_
  rintro e w2 ⟨y, rfl, h2, hg2⟩
  have HY : Hid (SliceIs w2 y R) := h2
  obtain ⟨ya, yc, rfl⟩ := h2.shape
  have hg02 := grown_trans hg1 hg2
  obtain ⟨⟨c0, c1, c2, c3, c4⟩, hfz, _⟩ := five_room hg02 B0.out
  clear hfz h2
  go_wp2_with fail
  refine (RF.out _ hg02).mono ?_
  rintro e w3 ⟨u, rfl, h3, hg3⟩
  obtain ⟨ua, uc, rfl⟩ := h3.shape
  have SB : Hid (Calls Tryd.prog 14 #[.slice ya R.length yc, .slice ua R.length uc] w3 fun e w' => e = .returned (.bool true) ∧ w' = w3) := by
    have := sameBytes_any w3 _ _ R R (HY.out.grown hg3) h3
    rw [decide_eq_true rfl] at this
    exact this
  clear h3
  generalize R.length = rl at *
  go_wp2_with fail
  refine SB.out.mono ?_
  rintro e w4 ⟨rfl, hw⟩
  rw [hw]
  clear hw
  go_wp2
  go_ret
  exact ⟨rfl, grown_trans hg0 (grown_trans hg02 hg3)⟩
end Go.Proofs.YtghjikifflpeiaaDoor
