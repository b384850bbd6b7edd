/-
  The walk of canopykeep.WireFixed, over what the code must keep.
-/
import Derived.Test.YtghjikifflpeiabDoorRqEn
import Derived.Test.YtghjikifflpeiabDoorRqDe
import Derived.Test.YtghjikifflpeiabDoorKSame
import Derived.Test.YtghjikifflpeiabDoorWireG
namespace Go.Proofs.YtghjikifflpeiabDoor
open Go.RowKit
set_option maxRecDepth 100000 in
set_option maxHeartbeats 4000000 in
theorem wireFixed_walk (hE : RqEncOK) (hD : RqDecOK) (w : World) (v : Value) (b : List UInt8) (hT : PrtT w) (hv : SliceIs w v b) (hl : b.length ≤ 140737488355328) :
    Calls Tryd.prog 3 #[v] w fun e w' => e = .returned (.bool true) ∧ w.grownBy w' none := by
  obtain ⟨a, cap, rfl⟩ := hv.shape
  have HV : Hid (SliceIs w (.slice a b.length cap) b) := hv
  have HT : Hid (PrtT w) := hT
  have DE : Hid (∀ w' u, w.grownBy w' none → SliceIs w' u b → Calls Tryd.prog 7 #[u] w' fun e w'' => ∃ x, e = .returned (.tuple #[x, .int .i64 (wdecE b)]) ∧ RqIs w'' x (wdecR b) ∧ w'.grownBy w'' none) := fun w' u hg h => hD w' u b (hT.grown hg) h hl
  by_cases hz : wdecE b = 0
  · obtain ⟨f1, f2⟩ := req_fixed hz
    have hf := rq_fits ((req_iff _).1 f1)
    have EN : Hid (∀ w' u, w.grownBy w' none → RqIs w' u (wdecR b) → Calls Tryd.prog 8 #[u] w' fun e w'' => ∃ x, e = .returned (.tuple #[x, .int .i64 0]) ∧ SliceIs w'' x b ∧ w'.grownBy w'' none) := fun w' u hg h => by
      have h := hE w' u _ (hT.grown hg) h hf
      rw [f1, show rencB (wdecR b) = b by rw [rencB, if_pos f1, f2]] at h
      exact h
    rw [hz] at DE
    generalize wdecR b = P at *
    clear f1 f2 hf hz hv hT hE hD
    go_enter Tryd.func3, Tryd.ntmps3
    go_wp2_with (at_builtin; refine wpList_append_bytes rfl _ _ rfl w.heap.size (.slice none 0 0) [] rfl (own_nil _ _) a b.length cap b rfl HV.out (by simp; omega) (Nat.le_refl _) ?_; intro v1 w1 ho1 hg1; rw [List.nil_append] at ho1; have HO1 : Hid (SliceIs w1 v1 b) := ho1.slice; have hg01 : w.grownBy w1 none := hg1; obtain ⟨a1, d1, rfl⟩ := ho1.shape; clear ho1 hg1)
    refine (DE.out _ _ hg01 HO1.out).mono ?_
    rintro e w2 ⟨y, rfl, h2, hg2⟩
    obtain ⟨p1, p2, p3, p4, p5, p6, p7, p8, rfl⟩ := h2.agg
    obtain ⟨W2, HW2, hgA2, B2⟩ := alloc_namedR w2 (.cells #[.int .i64 P.kind, .slice p1 P.name.length p2, .slice p3 P.key.length p4, .slice p5 P.last.length p6, .slice p7 P.value.length p8] 24)
    have HY : Hid (RqIs W2 (.agg #[.int .i64 P.kind, .slice p1 P.name.length p2, .slice p3 P.key.length p4, .slice p5 P.last.length p6, .slice p7 P.value.length p8]) P) := h2.grown hgA2
    have hg02 := grown_trans hg01 (grown_trans hg2 hgA2)
    clear h2
    go_upto_region 2 with fail
    rw [← HW2.out]
    obtain ⟨JB, hJB⟩ : ∃ JB, JB = w2.heap.size := ⟨_, rfl⟩
    rw [← hJB] at B2 ⊢
    clear hJB HW2
    obtain ⟨⟨c0, c1, c2, c3, c4⟩, hfz, _⟩ := five_room (grown_refl W2 none) B2.out
    clear hfz
    go_wp2_with fail
    refine (EN.out _ _ hg02 HY.out).mono ?_
    rintro e w3 ⟨u, rfl, h3, hg3⟩
    obtain ⟨ua, uc, rfl⟩ := h3.shape
    have hg03 := grown_trans hg02 hg3
    have SB : Hid (Calls Tryd.prog 9 #[.slice a b.length cap, .slice ua b.length uc] w3 fun e w' => e = .returned (.bool true) ∧ w' = w3) := by
      have := same_any w3 _ _ b b (HV.out.grown hg03) h3
      rw [decide_eq_true rfl] at this
      exact this
    clear h3
    go_wp2_with fail
    refine SB.out.mono ?_
    rintro e w4 ⟨rfl, hw⟩
    rw [hw]
    clear hw
    go_wp2
    go_ret
    exact ⟨rfl, hg03⟩
  · have hr := wdecR_bad hz
    rw [hr] at DE
    have hzb : (wdecE b != 0) = true := by simpa using hz
    generalize wdecE b = z at *
    clear hr hz hv hT hE hD
    go_enter Tryd.func3, Tryd.ntmps3
    go_wp2_with (at_builtin; refine wpList_append_bytes rfl _ _ rfl w.heap.size (.slice none 0 0) [] rfl (own_nil _ _) a b.length cap b rfl HV.out (by simp; omega) (Nat.le_refl _) ?_; intro v1 w1 ho1 hg1; rw [List.nil_append] at ho1; have HO1 : Hid (SliceIs w1 v1 b) := ho1.slice; have hg01 : w.grownBy w1 none := hg1; obtain ⟨a1, d1, rfl⟩ := ho1.shape; clear ho1 hg1)
    refine (DE.out _ _ hg01 HO1.out).mono ?_
    rintro e w2 ⟨y, rfl, h2, hg2⟩
    obtain ⟨p1, p2, p3, p4, p5, p6, p7, p8, rfl⟩ := h2.agg
    obtain ⟨W2, HW2, hgA2, B2⟩ := alloc_namedR w2 (.cells #[.int .i64 0, .slice p1 0 p2, .slice p3 0 p4, .slice p5 0 p6, .slice p7 0 p8] 24)
    have hg02 := grown_trans hg01 (grown_trans hg2 hgA2)
    clear h2
    rw [show noRq.kind = 0 from rfl, show noRq.name.length = 0 from rfl, show noRq.key.length = 0 from rfl, show noRq.last.length = 0 from rfl, show noRq.value.length = 0 from rfl]
    go_upto_region 2 with fail
    rw [← HW2.out]
    obtain ⟨⟨c0, c1, c2, c3, c4⟩, hfz, _⟩ := five_room (grown_refl W2 none) B2.out
    clear hfz
    go_wp2
    go_ret
    exact ⟨rfl, hg02⟩
end Go.Proofs.YtghjikifflpeiabDoor
