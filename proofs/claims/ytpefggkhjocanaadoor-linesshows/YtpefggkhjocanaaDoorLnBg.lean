/-
  A page of package lines: room is made ahead; its text is taken.
-/
import Derived.Test.YtpefggkhjocanaaDoorLnBd
import Derived.Test.YtpefggkhjocanaaDoorLnBs
import Derived.Lib.MakeNoZero
import Derived.BigQuiet
namespace Go.Proofs.YtpefggkhjocanaaDoor
open Go.RowKit
set_option maxRecDepth 100000 in
set_option maxHeartbeats 2000000 in
theorem growIn_any (B b n : Nat) (w : World) (hB : B ≤ b) (hbk : w.heap[b]? = some (.cells #[.pointer (some ⟨b, 0, none⟩), .slice none 0 0] 48 (0, 0))) (hBw : B ≤ w.heap.size) (hn : n ≤ 281474976710656) :
    Calls Tryd.prog 31 #[.pointer (some ⟨b, 0, none⟩), .int .i64 (n : Int)] w fun e w' => e = .returned (.tuple #[]) ∧ PageIs B b [] w' ∧ Below B w w' := by
  obtain ⟨cs, hrun, hle, hmax⟩ := Lib.run_makeNoZero (P := Tryd.prog) w.drew #[3] 34 5 Tryd.underlying34 n hn
  have hlt : b < w.heap.size := (Array.getElem?_eq_some_iff.1 hbk).1
  have hw : IntKind.i64.wrap (IntKind.i64.wrap 0 + (n : Int)) = n := by
    rw [IntKind.wrap_i64, IntKind.wrap_i64]; omega
  have hcall : (callFunc 46 #[.int .i64 (IntKind.i64.wrap (IntKind.i64.wrap 0 + (n : Int)))]).run Tryd.prog w.drew = .ok (.value (.slice (some ⟨w.drew.heap.size, 0, none⟩) n cs.size)) (w.drew.drew.drew.alloc (.cells cs 5)) := by
    rw [hw, run_callFunc_extern Tryd.func46 (by kernel_rfl) (by kernel_rfl) (by kernel_rfl) (e := Extern.BytealgMakeNoZero.makeNoZero #[3] #[34]) (by kernel_rfl), hrun]
    rfl
  have c1 : w.drew.cell? ⟨b, 1, none⟩ = some (.slice none 0 0) := by
    have : w.drew.heap[b]? = _ := hbk
    rw [Lib.cell_of_heap this]; rfl
  have hb2 : (w.alloc (.cells cs 5)).heap[b]? = _ := (Lib.alloc_old w _ b hlt).trans hbk
  have c2 : (w.alloc (.cells cs 5)).cell? ⟨b, 1, none⟩ = some (.slice none 0 0) := by rw [Lib.cell_of_heap hb2]; rfl
  have f2 : (w.alloc (.cells cs 5)).frozen? ⟨b, 1, none⟩ = false := Lib.frozen_of_heap hb2 1
  have hcopy : ∀ W : World, (Builtin.copy_ #[34, 34] 3 #[.slice (some ⟨w.heap.size, 0, none⟩) 0 cs.size, .slice none 0 0]).run Tryd.prog W = .ok (goInt 0) W :=
    fun W => run_copy_none W 34 34 3 5 _ _ 0 cs.size 0 0 Tryd.underlying34 size5 rfl
  have hfin := Lib.grown_fresh (T := 48) (e := 5) (cs := cs) hB hbk hBw (hmax (by unfold maxLen; omega)) pageT5
  have HF : Hid (PageIs B b [] ((w.alloc (.cells cs 5)).setCell ⟨b, 1, none⟩ (.slice (some ⟨w.heap.size, 0, none⟩) 0 cs.size)).drew.drew.drew ∧ Below B w ((w.alloc (.cells cs 5)).setCell ⟨b, 1, none⟩ (.slice (some ⟨w.heap.size, 0, none⟩) 0 cs.size)).drew.drew.drew) := ⟨.inr hfin.1, hfin.2⟩
  clear hw hfin hrun hmax hb2 hlt
  go_enter Tryd.func31, Tryd.ntmps31
  go_wp2
  go_region
  all_goals (go_wp2; go_end0; exact ⟨rfl, HF.out⟩)
set_option maxRecDepth 100000 in
set_option maxHeartbeats 2000000 in
/-- strings.Builder's Grow at a page that is new. -/
theorem grow_any (B b n : Nat) (w : World) (hB : B ≤ b) (hbk : w.heap[b]? = some (.cells #[.pointer none, .slice none 0 0] 48 (0, 0))) (hBw : B ≤ w.heap.size) (hn : n ≤ 281474976710656) :
    Calls Tryd.prog 19 #[.pointer (some ⟨b, 0, none⟩), .int .i64 (n : Int)] w fun e w' => e = .returned (.tuple #[]) ∧ PageIs B b [] w' ∧ (n = 0 → PageNil B b w') ∧ Below B w w' := by
  have hp : PageIs B b [] w := .inl ⟨hB, .slice none 0 0, hbk, World.ownsRow_nil _ _ _ _, by simp [Value.ownBlock]⟩
  have CC : Hid (Calls Tryd.prog 30 #[.pointer (some ⟨b, 0, none⟩)] w fun e w' => e = .returned (.tuple #[]) ∧ w' = w.setCell ⟨b, 0, none⟩ (.pointer (some ⟨b, 0, none⟩))) := copyNew_any b w (by rw [Lib.cell_of_heap hbk]; rfl) (by simp [World.shape?, hbk]) (Lib.frozen_of_heap hbk 0)
  obtain ⟨w1, hw1⟩ : ∃ w1, w1 = w.setCell ⟨b, 0, none⟩ (.pointer (some ⟨b, 0, none⟩)) := ⟨_, rfl⟩
  have hb1 : w1.heap[b]? = some (.cells #[.pointer (some ⟨b, 0, none⟩), .slice none 0 0] 48 (0, 0)) := by rw [hw1]; simp [World.setCell, Array.getElem?_modify, hbk]
  have hbl : Below B w w1 := by rw [hw1]; exact (Below.refl B w).setCell (p := ⟨b, 0, none⟩) hB _
  have hp1 : PageIs B b [] w1 := .inr ⟨hB, .slice none 0 0, hb1, World.ownsRow_nil _ _ _ _, by simp [Value.ownBlock]⟩
  have hs1 := hbl.size
  have GI : Hid (∀ k, Calls Tryd.prog 31 #[.pointer (some ⟨b, 0, none⟩), .int .i64 (n : Int)] (w1.drewN k) fun e w' => e = .returned (.tuple #[]) ∧ PageIs B b [] w' ∧ Below B (w1.drewN k) w') := fun k => growIn_any B b n (w1.drewN k) hB hb1 (by show B ≤ w1.heap.size; omega) hn
  have c1 : w1.cell? ⟨b, 1, none⟩ = some (.slice none 0 0) := by rw [Lib.cell_of_heap hb1]; rfl
  rw [← hw1] at CC
  have HB1 : Hid (w1.heap[b]? = some (.cells #[.pointer (some ⟨b, 0, none⟩), .slice none 0 0] 48 (0, 0))) := hb1
  clear hw1 hb1 hs1 hp
  by_cases h0 : n = 0
  · subst h0
    go_enter Tryd.func19, Tryd.ntmps19
    go_wp2_with fail
    refine CC.out.mono ?_
    rintro e w2 ⟨rfl, hw⟩
    rw [hw]
    clear hw
    go_upto_region 3 with fail
    go_quiet (fail)
    go_wp2
    go_end0
    exact ⟨rfl, hp1, fun _ => ⟨hB, HB1.out⟩, ⟨hbl.os, hbl.tape, hbl.output, hbl.size, hbl.block⟩⟩
  · have i1 : ¬ (n : Int) < 0 := by omega
    have i2 : (0 : Int) < (n : Int) := by omega
    have i3 : 0 < n := by omega
    go_enter Tryd.func19, Tryd.ntmps19
    go_wp2_with fail
    refine CC.out.mono ?_
    rintro e w2 ⟨rfl, hw⟩
    rw [hw]
    clear hw
    go_upto_region 3 with fail
    go_quiet (fail)
    go_wp2_with fail
    refine (GI.out _).mono ?_
    rintro e w3 ⟨rfl, hp3, hb3⟩
    go_wp2
    go_end0
    exact ⟨rfl, hp3, fun e => absurd e h0, hbl.trans ⟨hb3.os, hb3.tape, hb3.output, hb3.size, hb3.block⟩⟩
end Go.Proofs.YtpefggkhjocanaaDoor
