/-
  The walk of parities of the document's answer.
-/
import Derived.Test.YtdpoickggdgddaaDoorRLanes
namespace Go.Proofs.YtdpoickggdgddaaDoor
open Go.RowKit
/-- Twenty-five lanes, by their places. -/
def outL (g : Nat → BitVec 64) : List (BitVec 64) := (List.range 25).map g
theorem outL_len (g : Nat → BitVec 64) : (outL g).length = 25 := by simp [outL]
theorem outL_congr (g g' : Nat → BitVec 64) (h : ∀ j, j < 25 → g j = g' j) : outL g = outL g' := by
  unfold outL
  exact List.map_congr_left fun j hj => h j (List.mem_range.1 hj)
theorem outL_set (g : Nat → BitVec 64) (i : Nat) (v : BitVec 64) : (outL g).set i v = outL fun j => if j = i then v else g j := by
  apply List.ext_getElem?
  intro k
  rw [List.getElem?_set]
  simp only [outL, List.getElem?_map, List.length_map, List.length_range]
  by_cases hk : k < 25
  · rw [List.getElem?_range hk]
    by_cases he : i = k
    · subst he; simp [hk]
    · simp [he, show ¬ k = i from fun h => he h.symm]
  · rw [List.getElem?_eq_none (by simp; omega)]
    simp
    intro h; omega
theorem make25 (W : World) : (Instr.makeSlice 70 (.int .i64 25) (.int .i64 25)).run Tryd.prog W = .ok (.slice (some ⟨W.heap.size, 0, none⟩) 25 25) (W.alloc (.cells (icellsOf (outL fun _ => 0)) 3)) := by kernel_rfl
def parF (st : List (BitVec 64)) (i : Nat) : BitVec 64 := st.getD i 0 ^^^ colTo st ((i % 5 + 4) % 5) 5 ^^^ rotl (colTo st ((i % 5 + 1) % 5) 5) 1
theorem par_step (st : List (BitVec 64)) (x y : Nat) (hx : x < 5) :
    (outL fun j => if j % 5 < x ∨ (j % 5 = x ∧ j / 5 < y) then parF st j else 0).set (x + 5 * y) (parF st (x + 5 * y)) = outL fun j => if j % 5 < x ∨ (j % 5 = x ∧ j / 5 < y + 1) then parF st j else 0 := by
  rw [outL_set]
  refine outL_congr _ _ fun j _ => ?_
  by_cases he : j = x + 5 * y
  · subst he
    rw [if_pos rfl, if_pos (by omega)]
  · rw [if_neg he]
    by_cases h1 : j % 5 < x ∨ (j % 5 = x ∧ j / 5 < y)
    · rw [if_pos h1, if_pos (by omega)]
    · rw [if_neg h1, if_neg (by omega)]
set_option maxRecDepth 100000 in
set_option maxHeartbeats 1000000 in
theorem parities_any (w : World) (b : Nat) (st : List (BitVec 64)) (h : ILanes 25 w b st) :
    Calls Tryd.prog 46 #[.slice (some ⟨b, 0, none⟩) 25 25] w fun e w' => e = .returned (.slice (some ⟨w.heap.size, 0, none⟩) 25 25) ∧ ILanes 25 w' w.heap.size (outL (parF st)) ∧ w.grownBy w' none := by
  have hmk := make25
  have hbn : b ≠ w.heap.size := Nat.ne_of_lt h.lt
  go_enter Tryd.func46, Tryd.ntmps46
  go_wp2_with fail
  go_loopw [4] (fun i wr => ∃ x : Nat, x ≤ 5 ∧ i = .int .i64 (x : Int) ∧ ILanes 25 wr b st ∧ ILanes 25 wr w.heap.size (outL fun j => if j % 5 < x then parF st j else 0) ∧ w.grownBy wr none) (fun i _ => 5 - (intOf i).toNat)
  case atStart => exact ⟨0, by omega, rfl, h.alloc _, ILanes.new w 3 _ (outL_len _), grown_alloc (grown_refl _ _) _⟩
  case round =>
    clear hmk
    obtain ⟨x, hx, rfl, hst, ho, hg⟩ := hrel
    by_cases hlt : x < 5
    · have e1 : ((x : Int) + 4) % 5 = (((x + 4) % 5 : Nat) : Int) := by omega
      have e2 : ((x : Int) + 1) % 5 = (((x + 1) % 5 : Nat) : Int) := by omega
      have E1 : Hid (((x : Int) + 4) % 5 = (((x + 4) % 5 : Nat) : Int)) := e1
      have E2 : Hid (((x : Int) + 1) % 5 = (((x + 1) % 5 : Nat) : Int)) := e2
      clear e1 e2
      go_wp2_with fail
      rw [E1.out]
      refine (column_any _ b st hst _ (by omega)).mono ?_
      rintro e w1 ⟨rfl, rfl⟩
      go_wp2_with fail
      rw [E2.out]
      refine (column_any _ b st hst _ (by omega)).mono ?_
      rintro e w2 ⟨rfl, rfl⟩
      go_wp2_with fail
      have HPX : Hid (∀ y, y < 5 → parF st (x + 5 * y) = st.getD (x + 5 * y) 0 ^^^ colTo st ((x + 4) % 5) 5 ^^^ rotl (colTo st ((x + 1) % 5) 5) 1) := by
        intro y hy
        unfold parF
        rw [show (x + 5 * y) % 5 = x by omega]
      generalize colTo st ((x + 4) % 5) 5 = ca at *
      generalize colTo st ((x + 1) % 5) 5 = cb at *
      clear E1 E2
      go_loopw [7] (fun i wr => ∃ y : Nat, y ≤ 5 ∧ i = .int .i64 (y : Int) ∧ ILanes 25 wr b st ∧ ILanes 25 wr w.heap.size (outL fun j => if j % 5 < x ∨ (j % 5 = x ∧ j / 5 < y) then parF st j else 0) ∧ w.grownBy wr none) (fun i _ => 5 - (intOf i).toNat)
      case atStart =>
        refine ⟨0, by omega, rfl, hst, ?_, hg⟩
        rw [outL_congr _ (fun j => if j % 5 < x then parF st j else 0) (fun j _ => by simp)]
        exact ho
      case round =>
        clear hst ho hg h
        obtain ⟨y, hy, rfl, hst, ho, hg⟩ := hrel
        by_cases hly : y < 5
        · have c0 := hst.cell (x + 5 * y) (by omega)
          have d0 := ho.cell (x + 5 * y) (by omega)
          have hf := ho.frozen (x + 5 * y)
          have HP := HPX.out y hly
          have HPH : Hid (parF st (x + 5 * y) = st.getD (x + 5 * y) 0 ^^^ ca ^^^ rotl cb 1) := HP
          clear HP
          have HST : Hid (ILanes 25 wr b st) := hst
          have HO : Hid (ILanes 25 wr w.heap.size (outL fun j => if j % 5 < x ∨ (j % 5 = x ∧ j / 5 < y) then parF st j else 0)) := ho
          generalize (outL fun j => if j % 5 < x ∨ (j % 5 = x ∧ j / 5 < y) then parF st j else 0).getD (x + 5 * y) 0 = oo at *
          generalize st.getD (x + 5 * y) 0 = sv at *
          clear hst ho HPX
          have e1 : ((x : Int) + 5 * (y : Int)).toNat = x + 5 * y := by omega
          have i1 : (x : Int) + 5 * (y : Int) < 25 := by omega
          have i2 : (0 : Int) ≤ (x : Int) + 5 * (y : Int) := by omega
          have w1 : IntKind.i64.wrap (5 * (y : Int)) = 5 * (y : Int) := by rw [IntKind.wrap_i64]; omega
          have w2 : IntKind.i64.wrap ((x : Int) + 5 * (y : Int)) = (x : Int) + 5 * (y : Int) := by rw [IntKind.wrap_i64]; omega
          go_wp2_with fail
          go_region_with (go_at_call 53; refine (turned_any cb 1 (by omega) _).mono ?_; rintro e w' ⟨rfl, m, rfl⟩)
          all_goals go_wp2_with fail
          all_goals
            go_roundw
            case rel =>
              rw [bits_xor_I, bits_xor_I, ← HPH.out]
              refine ⟨y + 1, by omega, by go_num, (HST.out.drewN _).setOther _ hbn _ _, ?_, grown_setNew (grown_drewN hg _) _ (Nat.le_refl _) _ _⟩
              rw [← par_step st x y hlt]
              exact (HO.out.drewN _).set _ _
            case measure => simp [intOf]; omega
        · obtain rfl : y = 5 := by omega
          go_wp2_with fail
          go_roundw
          case rel =>
            have ho2 : ILanes 25 wr w.heap.size (outL fun j => if j % 5 < x + 1 then parF st j else 0) := by
              rw [outL_congr _ (fun j => if j % 5 < x ∨ (j % 5 = x ∧ j / 5 < 5) then parF st j else 0) (fun j hj => by
                by_cases h1 : j % 5 < x
                · rw [if_pos (by omega), if_pos (.inl h1)]
                · by_cases h2 : j % 5 = x
                  · rw [if_pos (by omega), if_pos (.inr ⟨h2, by omega⟩)]
                  · rw [if_neg (by omega), if_neg (by omega)])]
              exact ho
            first
              | exact ⟨x + 1, by omega, by go_num, hst, ho2, hg⟩
              | ((repeat apply Exists.intro); exact ⟨⟨x + 1, by omega, by go_num, hst, ho2, hg⟩, rfl⟩)
          case measure => simp [intOf]; omega
    · obtain rfl : x = 5 := by omega
      go_wp2
      go_ret
      refine ⟨rfl, ?_, hg⟩
      rw [outL_congr (parF st) (fun j => if j % 5 < 5 then parF st j else 0) (fun j _ => by rw [if_pos (by omega)])]
      exact ho
end Go.Proofs.YtdpoickggdgddaaDoor
