/-
  The walk of canopykeep.CommitFixed, over what the code must keep.
-/
import Derived.Test.YtkheombfjgjedabPart3
import Derived.Test.YtkheombfjgjedabKSame
namespace Go.Proofs.Ytkheombfjgjedab
open Go.RowKit
theorem alloc_named8 (w : World) (o : Obj) : ∃ W : World, Hid (W = w.alloc o) ∧ w.grownBy W none ∧ Hid (W.heap[w.heap.size]? = some o) := ⟨w.alloc o, rfl, World.grownBy_alloc _ _ _, heap_alloc_new w o⟩
set_option maxRecDepth 100000 in
theorem commitFixed_walk (hD : TpDecOK) (hE : TpEncOK) (w : World) (v : Value) (b : List UInt8) (hv : SliceIs w v b) (hl : b.length ≤ 140737488355328) :
    Calls Try.prog 4 #[v] w fun e w' => e = .returned (.bool true) ∧ w.grownBy w' none := by
  obtain ⟨a, cap, rfl⟩ := hv.shape
  have HV : Hid (SliceIs w (.slice a b.length cap) b) := hv
  have DE : Hid (∀ w' x, SliceIs w' x b → Calls Try.prog 10 #[x] w' fun e w'' => ∃ y, e = .returned (.tuple #[y, .int .i64 (decE b)]) ∧ CommitIs w'' y (decC b) ∧ w'.grownBy w'' none) := fun w' x h => hD w' x b h hl
  by_cases hz : decE b = 0
  · obtain ⟨q1, q2⟩ := commit_fixed hz
    rw [hz] at DE
    have EN : Hid (∀ w' x, CommitIs w' x (decC b) → Calls Try.prog 9 #[x] w' fun e w'' => ∃ y, e = .returned (.tuple #[y, .int .i64 0]) ∧ SliceIs w'' y b ∧ w'.grownBy w'' none) := fun w' x h => by
      have h := hE w' x (decC b) h (commit_fits q1)
      rw [q1, show encF (decC b) = b by rw [encF, if_pos q1, q2]] at h
      exact h
    generalize decC b = C at *
    clear hv hD hE hz q1 q2
    go_enter Try.func4, Try.ntmps4
    go_wp2_with (at_builtin; refine wpList_append_bytes rfl _ _ rfl w.heap.size (.slice none 0 0) [] rfl (own_nil _ _) a b.length cap b rfl HV.out (by simp; omega) (Nat.le_refl _) ?_; intro v1 w1 ho1 hg1; rw [List.nil_append] at ho1; have HO1 : Hid (SliceIs w1 v1 b) := ho1.slice; have hgw1 : w.grownBy w1 none := hg1; obtain ⟨oa, oc, rfl⟩ := ho1.shape; clear ho1 hg1)
    refine (DE.out _ _ HO1.out).mono ?_
    rintro e w2 ⟨y, rfl, hy, hg2⟩
    obtain ⟨ya, yc, rfl⟩ := hy.agg
    obtain ⟨W2, HW2, hgA2, B2⟩ := alloc_named8 w2 (.cells #[.int .i64 C.turn, .slice ya C.writes.length yc] 27)
    have HY : Hid (CommitIs W2 (.agg #[.int .i64 C.turn, .slice ya C.writes.length yc]) C) := hy.grown hgA2
    have hg02 := grown_trans hgw1 (grown_trans hg2 hgA2)
    clear hy
    go_upto_region 2 with fail
    rw [← HW2.out]
    obtain ⟨c0, c1, _, _⟩ := pair_room (grown_refl W2 none) B2.out
    go_wp2_with fail
    refine (EN.out _ _ HY.out).mono ?_
    rintro e w3 ⟨z, rfl, hz3, hg3⟩
    obtain ⟨za, zc, rfl⟩ := hz3.shape
    have hg03 := grown_trans hg02 hg3
    have SM : Hid (Calls Try.prog 13 #[.slice za b.length zc, .slice a b.length cap] w3 fun e w' => e = .returned (.bool true) ∧ w' = w3) := by
      have := same_any w3 _ _ b b hz3 (HV.out.grown hg03)
      rw [decide_eq_true rfl] at this
      exact this
    clear hz3
    go_wp2_with fail
    refine SM.out.mono ?_
    rintro e w4 ⟨rfl, rfl⟩
    go_wp2
    go_ret
    exact ⟨rfl, hg03⟩
  · rw [decC_bad hz] at DE
    have hz' : (decE b != 0) = true := by simpa using hz
    generalize decE b = z at *
    clear hv hD hE hz
    go_enter Try.func4, Try.ntmps4
    go_wp2_with (at_builtin; refine wpList_append_bytes rfl _ _ rfl w.heap.size (.slice none 0 0) [] rfl (own_nil _ _) a b.length cap b rfl HV.out (by simp; omega) (Nat.le_refl _) ?_; intro v1 w1 ho1 hg1; rw [List.nil_append] at ho1; have HO1 : Hid (SliceIs w1 v1 b) := ho1.slice; have hgw1 : w.grownBy w1 none := hg1; obtain ⟨oa, oc, rfl⟩ := ho1.shape; clear ho1 hg1)
    refine (DE.out _ _ HO1.out).mono ?_
    rintro e w2 ⟨y, rfl, ⟨ys, rfl, hy⟩, hg2⟩
    obtain ⟨ya, yc, rfl⟩ := hy.shape
    obtain ⟨W2, HW2, hgA2, B2⟩ := alloc_named8 w2 (.cells #[.int .i64 0, .slice ya 0 yc] 27)
    have hg02 := grown_trans hgw1 (grown_trans hg2 hgA2)
    clear hy
    go_upto_region 2 with fail
    rw [show (.cells #[.int .i64 noCmt.turn, .slice ya noCmt.writes.length yc] 27 : Obj) = .cells #[.int .i64 0, .slice ya 0 yc] 27 from rfl, ← HW2.out]
    obtain ⟨c0, c1, _, _⟩ := pair_room (grown_refl W2 none) B2.out
    go_wp2
    go_ret
    exact ⟨rfl, hg02⟩
end Go.Proofs.Ytkheombfjgjedab
