/-
  The walk of rows of the document's answer.
-/
import Derived.Test.YtdpoickggdgddaaDoorRPar
namespace Go.Proofs.YtdpoickggdgddaaDoor
open Go.RowKit
/-- A lane, and what the two behind it in its row say. -/
def rowF (st : List (BitVec 64)) (i : Nat) : BitVec 64 := st.getD i 0 ^^^ (~~~ st.getD ((i % 5 + 1) % 5 + 5 * (i / 5)) 0 &&& st.getD ((i % 5 + 2) % 5 + 5 * (i / 5)) 0)
theorem row_step (st : List (BitVec 64)) (x y : Nat) (hx : x < 5) :
    (outL fun j => if j % 5 < x ∨ (j % 5 = x ∧ j / 5 < y) then rowF st j else 0).set (x + 5 * y) (rowF st (x + 5 * y)) = outL fun j => if j % 5 < x ∨ (j % 5 = x ∧ j / 5 < y + 1) then rowF st j else 0 := by
  rw [outL_set]
  refine outL_congr _ _ fun j _ => ?_
  by_cases he : j = x + 5 * y
  · subst he
    rw [if_pos rfl, if_pos (by omega)]
  · rw [if_neg he]
    by_cases h1 : j % 5 < x ∨ (j % 5 = x ∧ j / 5 < y)
    · rw [if_pos h1, if_pos (by omega)]
    · rw [if_neg h1, if_neg (by omega)]
set_option maxRecDepth 100000 in
set_option maxHeartbeats 1000000 in
theorem rowsR_any (w : World) (b : Nat) (st : List (BitVec 64)) (h : ILanes 25 w b st) :
    Calls Tryd.prog 48 #[.slice (some ⟨b, 0, none⟩) 25 25] w fun e w' => e = .returned (.slice (some ⟨w.heap.size, 0, none⟩) 25 25) ∧ ILanes 25 w' w.heap.size (outL (rowF st)) ∧ w.grownBy w' none := by
  have hmk := make25
  have hbn : b ≠ w.heap.size := Nat.ne_of_lt h.lt
  go_enter Tryd.func48, Tryd.ntmps48
  go_wp2_with fail
  go_loopw [4] (fun i wr => ∃ x : Nat, x ≤ 5 ∧ i = .int .i64 (x : Int) ∧ ILanes 25 wr b st ∧ ILanes 25 wr w.heap.size (outL fun j => if j % 5 < x then rowF st j else 0) ∧ w.grownBy wr none) (fun i _ => 5 - (intOf i).toNat)
  case atStart => exact ⟨0, by omega, rfl, h.alloc _, ILanes.new w 3 _ (outL_len _), grown_alloc (grown_refl _ _) _⟩
  case round =>
    clear hmk
    obtain ⟨x, hx, rfl, hst, ho, hg⟩ := hrel
    by_cases hlt : x < 5
    · go_wp2_with fail
      go_loopw [5] (fun i wr => ∃ y : Nat, y ≤ 5 ∧ i = .int .i64 (y : Int) ∧ ILanes 25 wr b st ∧ ILanes 25 wr w.heap.size (outL fun j => if j % 5 < x ∨ (j % 5 = x ∧ j / 5 < y) then rowF st j else 0) ∧ w.grownBy wr none) (fun i _ => 5 - (intOf i).toNat)
      case atStart =>
        refine ⟨0, by omega, rfl, hst, ?_, hg⟩
        rw [outL_congr _ (fun j => if j % 5 < x then rowF st j else 0) (fun j _ => by simp)]
        exact ho
      case round =>
        clear hst ho hg h
        obtain ⟨y, hy, rfl, hst, ho, hg⟩ := hrel
        by_cases hly : y < 5
        · have c0 := hst.cell (x + 5 * y) (by omega)
          have c1 := hst.cell ((x + 1) % 5 + 5 * y) (by omega)
          have c2 := hst.cell ((x + 2) % 5 + 5 * y) (by omega)
          have d0 := ho.cell (x + 5 * y) (by omega)
          have hf := ho.frozen (x + 5 * y)
          have HP : Hid (rowF st (x + 5 * y) = st.getD (x + 5 * y) 0 ^^^ (~~~ st.getD ((x + 1) % 5 + 5 * y) 0 &&& st.getD ((x + 2) % 5 + 5 * y) 0)) := by
            show _ = _
            unfold rowF
            rw [show (x + 5 * y) % 5 = x by omega, show (x + 5 * y) / 5 = y by omega]
          have HST : Hid (ILanes 25 wr b st) := hst
          have HO : Hid (ILanes 25 wr w.heap.size (outL fun j => if j % 5 < x ∨ (j % 5 = x ∧ j / 5 < y) then rowF st j else 0)) := ho
          generalize (outL fun j => if j % 5 < x ∨ (j % 5 = x ∧ j / 5 < y) then rowF st j else 0).getD (x + 5 * y) 0 = oo at *
          generalize st.getD (x + 5 * y) 0 = s0 at *
          generalize st.getD ((x + 1) % 5 + 5 * y) 0 = s1 at *
          generalize st.getD ((x + 2) % 5 + 5 * y) 0 = s2 at *
          clear hst ho
          have hn := not_I s1
          have b1 := I_lo s1
          have b2 := I_hi s1
          have HNOT : Hid (-1 - I s1 = I (~~~ s1)) := hn
          clear hn
          have f1 : ((x : Int) + 1) % 5 = (((x + 1) % 5 : Nat) : Int) := by omega
          have f2 : ((x : Int) + 2) % 5 = (((x + 2) % 5 : Nat) : Int) := by omega
          have h1 : (x + 1) % 5 < 5 := Nat.mod_lt _ (by decide)
          have h2 : (x + 2) % 5 < 5 := Nat.mod_lt _ (by decide)
          generalize (x + 1) % 5 = x1 at *
          generalize (x + 2) % 5 = x2 at *
          have e1 : ((x : Int) + 5 * (y : Int)).toNat = x + 5 * y := by omega
          have e2 : ((x1 : Int) + 5 * (y : Int)).toNat = x1 + 5 * y := by omega
          have e3 : ((x2 : Int) + 5 * (y : Int)).toNat = x2 + 5 * y := by omega
          have i1 : (x : Int) + 5 * (y : Int) < 25 := by omega
          have i2 : (x1 : Int) + 5 * (y : Int) < 25 := by omega
          have i3 : (x2 : Int) + 5 * (y : Int) < 25 := by omega
          go_wp2_with fail
          go_region
          all_goals go_wp2_with fail
          go_roundw
          case rel =>
            rw [HNOT.out, bits_and_I, bits_xor_I, ← HP.out]
            refine ⟨y + 1, by omega, by go_num, (HST.out.setOther _ hbn _ _).drew, ?_, grown_drew (grown_setNew hg _ (Nat.le_refl _) _ _)⟩
            rw [← row_step st x y hlt]
            exact (HO.out.set _ _).drew
          case measure => simp [intOf]; omega
        · obtain rfl : y = 5 := by omega
          go_wp2_with fail
          go_roundw
          case rel =>
            have ho2 : ILanes 25 wr w.heap.size (outL fun j => if j % 5 < x + 1 then rowF st j else 0) := by
              rw [outL_congr _ (fun j => if j % 5 < x ∨ (j % 5 = x ∧ j / 5 < 5) then rowF st j else 0) (fun j hj => by
                by_cases h1 : j % 5 < x
                · rw [if_pos (by omega), if_pos (.inl h1)]
                · by_cases h2 : j % 5 = x
                  · rw [if_pos (by omega), if_pos (.inr ⟨h2, by omega⟩)]
                  · rw [if_neg (by omega), if_neg (by omega)])]
              exact ho
            first
              | exact ⟨x + 1, by omega, by go_num, hst, ho2, hg⟩
              | ((repeat apply Exists.intro); exact ⟨⟨x + 1, by omega, by go_num, hst, ho2, hg⟩, rfl⟩)
          case measure => simp [intOf]; omega
    · obtain rfl : x = 5 := by omega
      go_wp2
      go_ret
      refine ⟨rfl, ?_, hg⟩
      rw [outL_congr (rowF st) (fun j => if j % 5 < 5 then rowF st j else 0) (fun j _ => by rw [if_pos (by omega)])]
      exact ho
end Go.Proofs.YtdpoickggdgddaaDoor
