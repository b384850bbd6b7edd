/-
  The walk of roundNumbers of the document's answer.
-/
import Derived.Test.YtdpoickggdgddaaDoorRLanes
import Derived.Test.YtdpoickggdgddaaDoorMove
namespace Go.Proofs.YtdpoickggdgddaaDoor
open Go.RowKit
def ivals (st : List (BitVec 64)) : List Value := st.map fun x => Value.int .i64 (I x)
/-- The slice v of numbers is the call's own, and has these. -/
def OwnI (base : Nat) (w : World) (v : Value) (st : List (BitVec 64)) : Prop := w.ownsRow base 3 1 v st.length (ivals st)
theorem ownI_nil (base : Nat) (w : World) : OwnI base w (.slice none 0 0) [] := World.ownsRow_nil _ _ _ _
theorem OwnI.shape {base : Nat} {w : World} {v : Value} {st : List (BitVec 64)} (h : OwnI base w v st) : ∃ a cap, v = .slice a st.length cap := by
  rcases h.2 with ⟨rfl, h0⟩ | ⟨g, cap, cur, rfl, _⟩
  · exact ⟨none, 0, by rw [h0]⟩
  · exact ⟨_, cap, rfl⟩
theorem grown_ownI {w W w1 : World} {v : Value} {st : List (BitVec 64)} (h : w.grownBy W none) (ho : OwnI w.heap.size W v st) (hg : W.grownBy w1 v.ownBlock) : w.grownBy w1 none :=
  ⟨hg.os.trans h.os, hg.tape.trans h.tape, hg.output.trans h.output, Nat.le_trans h.size hg.size, fun i hi hn => (hg.block i (Nat.lt_of_lt_of_le hi h.size) (fun e => by have := (World.ownsRow.lt ho i e.symm).1; omega)).trans (h.block i hi hn)⟩
theorem info3 : (Tryd.prog.info? 3).map (fun i => (i.zero, i.size, i.bytes)) = some (some (.int .i64 0), 1, 8) := by kernel_rfl
/-- append(v, x) of one number. -/
theorem wpList_append_lane {w0 w : World} {ops : Array Oper} {rest : List Oper} {o : Oper} {a : Act} {Q : Exit → Act → World → Prop} (hgd : o.guard = none) (s x : Operand)
    (ho : o.op = .call { callee := .builtin .append, args := #[s, x], argTypes := #[70, 70] }) (base : Nat) (v : Value) (st : List (BitVec 64)) (hs : a.eval s = v) (y : BitVec 64) (hw : w = w0.alloc (.cells #[.int .i64 (I y)] 3)) (hown : OwnI base w0 v st)
    (hx : a.eval x = .slice (some ⟨w0.heap.size, 0, none⟩) 1 1) (hl : st.length ≤ 100000) (hbase : base ≤ w0.heap.size)
    (h : ∀ v' w', OwnI base w' v' (st ++ [y]) → w.grownBy w' v.ownBlock → wpList Tryd.prog ops Q rest (a.put o.dst v') w') : wpList Tryd.prog ops Q (o :: rest) a w := by
  subst hw
  obtain ⟨i0, hi, hz0, hz1, hz2⟩ := info_parts info3
  refine wpList_append_own _ hgd s x 70 ho base 3 i0 (.int .i64 0) 1 8 Tryd.underlying70 hi hz0 hz1 hz2 rfl (by decide) v st.length (ivals st) hs (World.ownsRow.alloc hown _) ⟨w0.heap.size, 0, none⟩ 1 1 [.int .i64 (I y)] hx rfl ?_ ?_ ?_ ?_ ?_ ?_
  · intro j u hj
    match j, hj with
    | 0, hj => simp at hj; subst hj; simp [Addr.add]
  · intro u hu; simp at hu; subst hu; rfl
  · unfold maxLen; omega
  · omega
  · simp; omega
  · intro v' w' h1 h2 _
    refine h v' w' ?_ h2
    unfold OwnI
    rw [List.length_append]
    simpa [ivals] using h1
/-- The register of eight bits. -/
def rNext (r : Nat) : Nat := if 255 < 2 * r then (2 * r - 256) ^^^ 113 else 2 * r
def rIter : Nat → Nat
  | 0 => 1
  | n + 1 => rNext (rIter n)
theorem rNext_lt (r : Nat) (h : r < 256) : rNext r < 256 := (by decide +kernel : ∀ r : Fin 256, rNext r.1 < 256) ⟨r, h⟩
theorem rIter_lt (n : Nat) : rIter n < 256 := by
  induction n with
  | zero => decide
  | succ n ih => exact rNext_lt _ ih
theorem rNext_bits (r : Nat) (h : r < 256) (h2 : 127 < r) : bits .xor .i64 (2 * (r : Int) - 256) 113 = (rNext r : Int) :=
  (by decide +kernel : ∀ r : Fin 256, 127 < r.1 → bits .xor .i64 (2 * (r.1 : Int) - 256) 113 = (rNext r.1 : Int)) ⟨r, h⟩ h2
def laneTo (m : Nat) : Nat → BitVec 64
  | 0 => 0
  | j + 1 => if rIter (7 * m + j) % 2 = 1 then laneTo m j + (1#64 <<< (2 ^ j - 1)) else laneTo m j
theorem lane_num (m : Nat) (h : m < 24) : laneTo m 7 = roundNumbersT.getD m 0 := (by decide +kernel : ∀ m : Fin 24, laneTo m.1 7 = roundNumbersT.getD m.1 0) ⟨m, h⟩
set_option maxRecDepth 100000 in
set_option maxHeartbeats 1000000 in
theorem numbers_any (w : World) :
    Calls Tryd.prog 45 #[] w fun e w' => ∃ v, e = .returned v ∧ OwnI w.heap.size w' v roundNumbersT ∧ w.grownBy w' none := by
  go_enter Tryd.func45, Tryd.ntmps45
  go_wp2_with fail
  go_loopw [1, 2, 3] (fun out r i wr => ∃ m : Nat, m ≤ 24 ∧ i = .int .i64 (m : Int) ∧ r = .int .i64 (rIter (7 * m) : Int) ∧ OwnI w.heap.size wr out (roundNumbersT.take m) ∧ w.grownBy wr none) (fun _ _ i _ => 24 - (intOf i).toNat)
  case atStart => exact ⟨0, by omega, rfl, rfl, ownI_nil _ _, grown_refl _ _⟩
  case round =>
    obtain ⟨m, hm, rfl, rfl, hown, hg⟩ := hrel
    obtain ⟨oa, ocap, rfl⟩ := hown.shape
    by_cases hlt : m < 24
    · have HN : Hid (roundNumbersT.take (m + 1) = roundNumbersT.take m ++ [laneTo m 7]) := by
        show _ = _
        rw [List.take_succ_eq_append_getElem (show m < roundNumbersT.length from hlt), lane_num m hlt]
        simp [show m < roundNumbersT.length from hlt]
      have hl : (roundNumbersT.take m).length ≤ 24 := by simp; omega
      generalize roundNumbersT.take m = T at *
      have im : (m : Int) < 24 := by omega
      go_wp2_with fail
      go_loop [2, 4, 5, 6] (fun r l p jv => ∃ j : Nat, j ≤ 7 ∧ jv = .int .i64 (j : Int) ∧ r = .int .i64 (rIter (7 * m + j) : Int) ∧ l = .int .i64 (I (laneTo m j)) ∧ p = .int .i64 ((2 ^ j : Nat) : Int)) (fun _ _ _ jv => 7 - (intOf jv).toNat)
      case atStart => exact ⟨0, by omega, rfl, rfl, by rw [laneTo, I_zero], rfl⟩
      case round =>
        obtain ⟨j, hj, rfl, rfl, rfl, rfl⟩ := hrel
        by_cases hlj : j < 7
        · have hr := rIter_lt (7 * m + j)
          have hp1 : 2 ^ j ≤ 2 ^ 6 := Nat.pow_le_pow_right (by decide) (by omega)
          have hp0 : 0 < 2 ^ j := Nat.two_pow_pos j
          have HPS : Hid ((2 ^ (j + 1) : Nat) = 2 * 2 ^ j) := by show _ = _; rw [Nat.pow_succ]; omega
          have HRS : Hid (rIter (7 * m + (j + 1)) = rNext (rIter (7 * m + j))) := rfl
          have HLS : Hid (laneTo m (j + 1) = if rIter (7 * m + j) % 2 = 1 then laneTo m j + (1#64 <<< (2 ^ j - 1)) else laneTo m j) := rfl
          generalize rIter (7 * m + j) = R at *
          generalize laneTo m j = L at *
          generalize (2 ^ j : Nat) = P at *
          have HXB := rNext_bits R hr
          have HXH : Hid (127 < R → bits .xor .i64 (2 * (R : Int) - 256) 113 = (rNext R : Int)) := HXB
          clear HXB
          by_cases hodd : R % 2 = 1
          · have tod : ((R : Int) % 2 == 1) = true := by rw [beq_iff_eq]; omega
            have HL : Hid (wrap64 (I L + I (1#64 <<< (P - 1))) = I (laneTo m (j + 1))) := by show _ = _; rw [HLS.out, if_pos hodd, wrap64_eq, wrap_add_I]
            have ep : (P : Int) - 1 = ((P - 1 : Nat) : Int) := by omega
            have EP : Hid ((P : Int) - 1 = ((P - 1 : Nat) : Int)) := ep
            clear ep
            by_cases hbig : 127 < R
            · have tb : (255 : Int) < 2 * (R : Int) := by omega
              go_wp2_with fail
              rw [EP.out]
              refine (power_any (P - 1) (by omega) _).mono ?_
              rintro e w1 ⟨rfl, rfl⟩
              generalize I (1#64 <<< (P - 1)) = PW at *
              generalize I L = LL at *
              go_wp2_with fail
              go_round
              case rel => exact ⟨j + 1, by omega, by go_num, by rw [HRS.out, HXH.out hbig], by rw [HL.out], by rw [HPS.out]; go_num⟩
              case measure => simp [intOf]; omega
            · have tb : 2 * (R : Int) ≤ 255 := by omega
              have HX2 : Hid ((2 * (R : Int)) = (rNext R : Int)) := by show _ = _; unfold rNext; rw [if_neg (by omega)]; omega
              go_wp2_with fail
              rw [EP.out]
              refine (power_any (P - 1) (by omega) _).mono ?_
              rintro e w1 ⟨rfl, rfl⟩
              generalize I (1#64 <<< (P - 1)) = PW at *
              generalize I L = LL at *
              go_wp2_with fail
              go_round
              case rel => exact ⟨j + 1, by omega, by go_num, by rw [HRS.out, HX2.out], by rw [HL.out], by rw [HPS.out]; go_num⟩
              case measure => simp [intOf]; omega
          · have tod : ((R : Int) % 2 == 1) = false := by rw [beq_eq_false_iff_ne]; omega
            have HL : Hid (laneTo m (j + 1) = L) := by show _ = _; rw [HLS.out, if_neg hodd]
            by_cases hbig : 127 < R
            · have tb : (255 : Int) < 2 * (R : Int) := by omega
              go_wp2_with fail
              go_round
              case rel => exact ⟨j + 1, by omega, by go_num, by rw [HRS.out, HXH.out hbig], by rw [HL.out], by rw [HPS.out]; go_num⟩
              case measure => simp [intOf]; omega
            · have tb : 2 * (R : Int) ≤ 255 := by omega
              have HX2 : Hid ((2 * (R : Int)) = (rNext R : Int)) := by show _ = _; unfold rNext; rw [if_neg (by omega)]; omega
              go_wp2_with fail
              go_round
              case rel => exact ⟨j + 1, by omega, by go_num, by rw [HRS.out, HX2.out], by rw [HL.out], by rw [HPS.out]; go_num⟩
              case measure => simp [intOf]; omega
        · obtain rfl : j = 7 := by omega
          generalize laneTo m 7 = L at *
          have hsz := hg.size
          go_wp2_with (at_builtin; refine wpList_append_lane (w0 := wr) rfl (.tmp 32) (.tmp 34) rfl w.heap.size (.slice oa T.length ocap) T rfl L rfl hown rfl (by omega) hsz ?_; intro v1 w1 ho1 hg1)
          have hgw := grown_ownI (grown_alloc hg _) (World.ownsRow.alloc hown _) hg1
          go_roundw
          case rel =>
            have hr : rIter (7 * (m + 1)) = rIter (7 * m + 7) := rfl
            first
              | exact ⟨m + 1, by omega, by go_num, rfl, by rw [HN.out]; exact ho1, hgw⟩
              | ((repeat apply Exists.intro); exact ⟨⟨m + 1, by omega, by go_num, rfl, by rw [HN.out]; exact ho1, hgw⟩, rfl⟩)
          case measure => simp [intOf]; omega
    · obtain rfl : m = 24 := by omega
      go_wp2
      go_ret
      exact ⟨_, rfl, hown, hg⟩
end Go.Proofs.YtdpoickggdgddaaDoor
