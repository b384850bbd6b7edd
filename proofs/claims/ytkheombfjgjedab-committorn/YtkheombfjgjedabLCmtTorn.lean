/-
  The walk of canopykeep.CommitTorn, over what the code must keep.
-/
import Derived.Test.YtkheombfjgjedabPart3
import Derived.Test.YtkheombfjgjedabKWrites
import Derived.Test.YtkheombfjgjedabPicked
import Derived.Test.YtkheombfjgjedabPart2
namespace Go.Proofs.Ytkheombfjgjedab
open Go.RowKit
theorem alloc_named9 (w : World) (o : Obj) : ∃ W : World, Hid (W = w.alloc o) ∧ w.grownBy W none ∧ Hid (W.heap[w.heap.size]? = some o) := ⟨w.alloc o, rfl, World.grownBy_alloc _ _ _, heap_alloc_new w o⟩
set_option maxRecDepth 100000 in
theorem commitTorn_walk (hD : TpDecOK) (hE : TpEncOK) (hC : TpCheckOK) (w : World) (v : Value) (l : List Plc) (cut : Int) (hv : PlacesIs w v l) (hl : FitsQ l) (hn0 : -9223372036854775808 ≤ cut) (hn1 : cut ≤ 9223372036854775807) :
    Calls Try.prog 5 #[v, .int .i64 cut] w fun e w' => e = .returned (.bool true) ∧ w.grownBy w' none := by
  have KW : Hid (Calls Try.prog 8 #[v, .int .i64 10] w fun e w' => ∃ v', e = .returned v' ∧ OwnW w.heap.size w' v' ((l.take 10).map writeF) ∧ w.grownBy w' none) := kwrites_any w v l 10 hv hl (by omega)
  have hok : ∀ x ∈ (l.take 10).map writeF, writeE x = 0 := fun x hx => by
    obtain ⟨p, _, rfl⟩ := List.mem_map.1 hx
    exact writeF_ok p
  have hwl : ((l.take 10).map writeF).length ≤ 10 := by simp; omega
  obtain ⟨a, cap, rfl⟩ := hv.shape
  generalize (l.take 10).map writeF = ws at *
  by_cases h0 : ws.length = 0
  · have e0 : commitE ⟨1, []⟩ = 1 := by decide
    have CK : Hid (∀ w', Calls Try.prog 12 #[.agg #[.int .i64 1, .slice none 0 0]] w' fun e w'' => e = .returned (.int .i64 1) ∧ w'.grownBy w'' none) := fun w' => by
      have h := hC w' _ ⟨1, []⟩ ⟨_, rfl, writesIs_nil w'⟩ ⟨by show -9223372036854775808 ≤ (1 : Int) ∧ (1 : Int) ≤ 9223372036854775807; omega, ⟨by simp, fun i hi => by simp at hi⟩⟩
      rw [e0] at h
      exact h
    have hws : ws = [] := List.eq_nil_of_length_eq_zero h0
    subst hws
    clear hv hl hD hE hC hok e0 h0
    go_enter Try.func5, Try.ntmps5
    go_wp2_with fail
    refine KW.out.mono ?_
    rintro e w1 ⟨v1, rfl, h1, hg1⟩
    obtain ⟨ca, cc, rfl⟩ := h1.shape
    clear h1
    go_wp2_with fail
    refine (CK.out _).mono ?_
    rintro e w2 ⟨rfl, hg2⟩
    go_wp2
    go_ret
    exact ⟨rfl, grown_trans hg1 hg2⟩
  · have hce : commitE ⟨1, ws⟩ = 0 := (commit_iff _).2 ⟨by show 1 ≤ (1 : Int) ∧ (1 : Int) ≤ 1048576; omega, by show 1 ≤ ws.length ∧ ws.length ≤ 10; omega, hok⟩
    obtain ⟨z1, z2⟩ := commit_size hce
    have EN : Hid (∀ w' x, WritesIs w' x ws → Calls Try.prog 9 #[.agg #[.int .i64 1, x]] w' fun e w'' => ∃ y, e = .returned (.tuple #[y, .int .i64 0]) ∧ SliceIs w'' y (commitB ⟨1, ws⟩) ∧ w'.grownBy w'' none) := fun w' x h => by
      have h := hE w' _ ⟨1, ws⟩ ⟨_, rfl, h⟩ (commit_fits hce)
      rw [hce, show encF ⟨1, ws⟩ = commitB ⟨1, ws⟩ by rw [encF, if_pos hce]] at h
      exact h
    have DE : Hid (∀ w' x (k : Nat), k < (commitB ⟨1, ws⟩).length → SliceIs w' x ((commitB ⟨1, ws⟩).take k) → Calls Try.prog 10 #[x] w' fun e w'' => ∃ ya yn yc yt, e = .returned (.tuple #[.agg #[.int .i64 yt, .slice ya yn yc], .int .i64 14]) ∧ w'.grownBy w'' none) := fun w' x k hk h => by
      have h := hD w' x _ h (by simp; omega)
      rw [commit_torn hce k hk] at h
      refine h.mono ?_
      rintro e w'' ⟨y, rfl, hy, hg⟩
      obtain ⟨ya, yc, rfl⟩ := hy.agg
      exact ⟨ya, _, yc, _, rfl, hg⟩
    have hB4 : 4 ≤ (commitB ⟨1, ws⟩).length := by omega
    obtain ⟨B, hB⟩ : ∃ B, B = commitB ⟨1, ws⟩ := ⟨_, rfl⟩
    rw [← hB] at EN DE z2 hB4
    have PK : Hid (∀ w', Calls Try.prog 7 #[.int .i64 cut, .int .i64 (B.length : Int)] w' fun e w'' => ∃ k : Nat, e = .returned (.int .i64 (k : Int)) ∧ (k : Int) < (B.length : Int) ∧ w'' = w') := fun w' => picked_any cut _ w' hn0 hn1 (by omega) (by omega)
    have i0 : ¬ (ws.length : Int) = 0 := by omega
    have i1 : (B.length : Int) > 1 := by omega
    clear hv hl hD hE hC hok hce z1 hB
    go_enter Try.func5, Try.ntmps5
    go_wp2_with fail
    refine KW.out.mono ?_
    rintro e w1 ⟨v1, rfl, h1, hg1⟩
    obtain ⟨ca, cc, rfl⟩ := h1.shape
    have HW1 : Hid (WritesIs w1 (.slice ca ws.length cc) ws) := h1.list
    clear h1
    go_wp2_with fail
    refine (EN.out _ _ HW1.out).mono ?_
    rintro e w2 ⟨y, rfl, hy, hg2⟩
    obtain ⟨ya, yc, rfl⟩ := hy.shape
    have HY : Hid (SliceIs w2 (.slice ya B.length yc) B) := hy
    have hcap := hy.cap.1
    clear hy
    go_wp2_with fail
    refine (PK.out _).mono ?_
    rintro e w3 ⟨k, rfl, hk, rfl⟩
    obtain ⟨a1, c1, p1, p2⟩ := bslice_h ya yc B k (by omega) hcap
    have p1w := p1 w3
    have HP : Hid (SliceIs w3 (.slice a1 k c1) (B.take k)) := p2 _ HY.out
    clear p1 p2
    go_wp2_with fail
    refine (DE.out _ _ k (by omega) HP.out).mono ?_
    rintro e w4 ⟨za, zn, zc, zt, rfl, hg4⟩
    go_wp2
    go_ret
    exact ⟨rfl, grown_alloc (grown_trans hg1 (grown_trans hg2 hg4)) _⟩
end Go.Proofs.Ytkheombfjgjedab
