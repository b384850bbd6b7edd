/-
  lines.linesOf, as it landed: the lines of a text, one behind the other.
-/
import Derived.RangeFuncNested
import Derived.RangeFuncBound
import Derived.RangeFuncCalls
import Derived.RangeFuncLeaves
import Derived.Shelf.Abstract
import Derived.Shelf.RegionOpen
import Derived.WalkKit
import Derived.OwnWalkIn
import Derived.TacticsInMore
import Derived.LoopNIn
import Derived.LoopIn
import Derived.Test.YtpefggkhjocanaaDoorLnLs
import Derived.Test.YtpefggkhjocanaaDoorLnBy
namespace Go.Proofs.YtpefggkhjocanaaDoor
open Go.RowKit Go.Shelf
attribute [local go_sem] Oper.semAt_some
/-- A line that a text has which may be read. -/
abbrev Ln := { x : List UInt8 // x.length ≤ 2000000 }
def sizeS : Value → Nat
  | .string s => s.size
  | _ => 0
theorem slice_ahead (W : World) (x : List UInt8) (e : Nat) (z : Int) (hz : z = (e : Int)) (h : e ≤ x.length) : (Instr.slice 9 (.string (textOf x)) none (some (.int .i64 z)) none).run Tryd.prog W = .ok (.string (textOf (x.take e))) W := by
  subst hz
  have hs : (textOf x).size = x.length := tl_size _
  rw [run_slice_string_h (P := Tryd.prog) W 9 (textOf x) Tryd.underlying9 .i64 (e : Int) (by omega) (by rw [hs]; omega)]
  congr 2
  apply tl_inj
  rw [tl_extract, tl_text, tl_text]
  simp
theorem slice_behind (W : World) (x : List UInt8) (e : Nat) (z : Int) (hz : z = (e : Int)) (h : e ≤ x.length) : (Instr.slice 9 (.string (textOf x)) (some (.int .i64 z)) none none).run Tryd.prog W = .ok (.string (textOf (x.drop e))) W := by
  subst hz
  have hs : (textOf x).size = x.length := tl_size _
  rw [run_slice_string_l (P := Tryd.prog) W 9 (textOf x) Tryd.underlying9 .i64 (e : Int) (by omega) (by rw [hs]; omega)]
  congr 2
  apply tl_inj
  rw [tl_extract, tl_text, tl_text, hs]
  simp
  exact List.take_of_length_le (by rw [List.length_drop]; exact Nat.le_refl _)
set_option maxRecDepth 100000 in
set_option maxHeartbeats 2000000 in
theorem lines1_in (n : Nat) (hn : 1 ≤ n) (l c : Nat) (t : List UInt8) (ht : t.length ≤ 2000000) (Kp : World → World → Prop)
    (J Jx : List Ln → World → Prop)
    (hY : ∀ pre x W, J pre W → pre.length < (splitL [] t).length → YieldAt Fence.wide (n - 1) Tryd.prog l #[.string (textOf x.1)] W fun e W' =>
      (e = .returned (.bool true) ∧ J (pre ++ [x]) W' ∧ Kp W W') ∨ (e = .returned (.bool false) ∧ Jx (pre ++ [x]) W'))
    (W : World) (hc : W.cell? ⟨c, 0, none⟩ = some (.string (textOf t))) (h0 : J [] W) :
    CallsIn Fence.wide n Tryd.prog 38 #[.func (.yield l) #[] #[], .pointer (some ⟨c, 0, none⟩)] W fun e W' => (∃ v, e = .returned v) ∧
      ((∃ ys : List Ln, ys.map (·.1) = splitL [] t ∧ J ys W') ∨ (∃ pre : List Ln, (∃ rest, splitL [] t = pre.map (·.1) ++ rest) ∧ Jx pre W')) := by
  refine callsIn_of_wp Tryd.func38 rfl trivial ?_ rfl
  simp only [Tryd.ntmps38, List.size_toArray, List.length_cons, List.length_nil, Nat.reduceAdd, Nat.reduceSub, Array.replicate_succ, Array.replicate_zero, List.push_toArray, List.append_toArray, List.nil_append, List.cons_append]
  gi_wp2
  gi_loopw [3] (fun p wr => ∃ (pre : List Ln) (r : List UInt8), p = .string (textOf r) ∧ splitL [] t = pre.map (·.1) ++ splitL [] r ∧ r.length ≤ 2000000 ∧ J pre wr)
    (fun p _ => sizeS p)
  case atStart => exact ⟨[], t, rfl, rfl, ht, h0⟩
  case round =>
    obtain ⟨pre, r, rfl, hsp, hrl, hJs⟩ := hrel
    by_cases hr : r = []
    · subst hr
      have hne : (textOf []).toList.isEmpty = true := by rw [textOf_list]; rfl
      have HJ : Hid (pre.map (·.1) = splitL [] t) := by show _ = _; rw [hsp, split_nil, List.append_nil]
      gi_wp2
      go_end0
      exact ⟨⟨_, rfl⟩, .inl ⟨pre, HJ.out, hJs⟩⟩
    · obtain ⟨s1, s2, s3⟩ := split_step hr
      have hne : (textOf r).toList.isEmpty = false := by rw [textOf_list]; simpa using hr
      have IX : Hid (Calls Tryd.prog 39 #[.string (textOf r), .int .u8 10] wr fun e w' => e = .returned (.int .i64 (Lib.indexByte r 10)) ∧ w' = wr) := indexByte_any wr r 10
      have hE : endL r = if Lib.indexByte r 10 = -1 then r.length else (Lib.indexByte r 10 + 1).toNat := rfl
      have hI := Lib.indexByte_ge r 10
      generalize Lib.indexByte r 10 = ix at *
      generalize endL r = E at *
      obtain ⟨X, hX⟩ : ∃ X : Ln, X.1 = r.take E := ⟨⟨r.take E, by rw [List.length_take]; omega⟩, rfl⟩
      have HSP : Hid (splitL [] t = (pre ++ [X]).map (fun x : Ln => x.1) ++ splitL [] (r.drop E)) := by
        show _ = _
        rw [hsp, s1, List.map_append, List.map_cons, hX, List.map_nil, List.append_assoc]
        rfl
      have HDL : Hid ((r.drop E).length ≤ 2000000) := by show _ ≤ _; rw [List.length_drop]; omega
      have HML : Hid ((r.drop E).length < r.length) := by show _ < _; rw [List.length_drop]; omega
      have hpl : pre.length < (splitL [] t).length := by rw [hsp, s1, List.length_append, List.length_map, List.length_cons]; omega
      obtain ⟨fn, tmps, assign, body, hy, hR⟩ := hY pre X wr hJs hpl
      rw [hX] at hy
      have SA : Hid ((Instr.slice 9 (.string (textOf r)) none (some (.int .i64 (E : Int))) none).run Tryd.prog wr = .ok (.string (textOf (r.take E))) wr) := slice_ahead wr r E _ rfl s3
      have SB : Hid (∀ W, (Instr.slice 9 (.string (textOf r)) (some (.int .i64 (E : Int))) none none).run Tryd.prog W = .ok (.string (textOf (r.drop E))) W) := fun W => slice_behind W r E _ rfl s3
      have y1 := SA.out
      clear hY hX s1 hpl hsp hr SA
      by_cases hx : ix = -1
      · subst hx
        have hE1 : E = r.length := by rw [hE, if_pos rfl]
        clear hE hI s2 s3
        gi_wp2_with fail
        refine ⟨trivial, (callsIn_wide.2 IX.out).mono ?_⟩
        rintro e w1 ⟨rfl, hw⟩
        subst w1
        have hE2 : (textOf r).size = E := by rw [tl_size, tl_text, hE1]
        clear hE1
        gi_wp2
        refine hR.mono ?_
        rintro e W3 (⟨rfl, hJ3, hk3⟩ | ⟨rfl, hJx3⟩)
        · have y2 := SB.out W3
          gi_wp2
          go_roundw
          case rel => exact ⟨pre ++ [X], r.drop E, rfl, HSP.out, HDL.out, hJ3⟩
          case measure =>
            have e1 : sizeS (.string (textOf (r.drop E))) = (r.drop E).length := tl_size _
            have e2 : sizeS (.string (textOf r)) = r.length := tl_size _
            have h := HML.out
            rw [← e1, ← e2] at h
            exact h
        · gi_wp2
          refine bodyPost_ret (results_none rfl _ _ _) rfl ?_
          exact ⟨⟨_, rfl⟩, .inr ⟨pre ++ [X], ⟨_, HSP.out⟩, hJx3⟩⟩
      · have hE1 : ix + 1 = (E : Int) := by rw [hE, if_neg hx]; omega
        have hw1 : IntKind.i64.wrap (E : Int) = (E : Int) := by rw [IntKind.wrap_i64]; omega
        have hz1 : ¬ (E : Int) = 0 := by omega
        have hz2 : ((E : Int) == 0) = false := by simp; omega
        have hz3 : ¬ E = 0 := by omega
        have hs3 : (E : Int) ≤ ((textOf r).size : Int) := by rw [tl_size, tl_text]; omega
        clear hE hI s2 s3 hx
        gi_wp2_with fail
        refine ⟨trivial, (callsIn_wide.2 IX.out).mono ?_⟩
        rintro e w1 ⟨rfl, hw⟩
        subst w1
        gi_wp2
        refine hR.mono ?_
        rintro e W3 (⟨rfl, hJ3, hk3⟩ | ⟨rfl, hJx3⟩)
        · have y2 := SB.out W3
          gi_wp2
          go_roundw
          case rel => exact ⟨pre ++ [X], r.drop E, rfl, HSP.out, HDL.out, hJ3⟩
          case measure =>
            have e1 : sizeS (.string (textOf (r.drop E))) = (r.drop E).length := tl_size _
            have e2 : sizeS (.string (textOf r)) = r.length := tl_size _
            have h := HML.out
            rw [← e1, ← e2] at h
            exact h
        · gi_wp2
          refine bodyPost_ret (results_none rfl _ _ _) rfl ?_
          exact ⟨⟨_, rfl⟩, .inr ⟨pre ++ [X], ⟨_, HSP.out⟩, hJx3⟩⟩
set_option maxHeartbeats 1000000 in
theorem linesOf_in (n : Nat) (t : List UInt8) (w : World) :
    CallsIn Fence.wide n Tryd.prog 26 #[.string (textOf t)] w fun e w' => e = .returned (.func (.func 38) #[] #[.pointer (some ⟨w.heap.size, 0, none⟩)]) ∧ w' = w.alloc (.cells #[.string (textOf t)] 9) := by
  refine callsIn_of_wp Tryd.func26 rfl trivial ?_ rfl
  simp only [Tryd.ntmps26, List.size_toArray, List.length_cons, List.length_nil, Nat.reduceAdd, Nat.reduceSub, Array.replicate_succ, Array.replicate_zero, List.push_toArray, List.append_toArray, List.nil_append, List.cons_append]
  gi_wp2
  go_ret
  exact ⟨rfl, rfl⟩
/-- The lines come one behind the other. -/
theorem lines_stops (n : Nat) (hn : 1 ≤ n) (c n₀ : Nat) (t : List UInt8) (ht : t.length ≤ 2000000) (w : World) (hcw : c < w.heap.size) (hc : w.cell? ⟨c, 0, none⟩ = some (.string (textOf t))) :
    SeqStopsK Fence.wide n Tryd.prog 38 #[.pointer (some ⟨c, 0, none⟩)] (fun x : Ln => #[.string (textOf x.1)]) (Below n₀) (fun ys => ys.map (fun x : Ln => x.1) = splitL [] t) (fun pre => ∃ rest, splitL [] t = pre.map (fun x : Ln => x.1) ++ rest) (splitL [] t).length w := fun l J Jx W hW _ _ hY h0 => by
  have hc' := (hW.cell (p := ⟨c, 0, none⟩) hcw).trans hc
  exact lines1_in n hn l c t ht (Below n₀) J Jx hY W hc' h0
end Go.Proofs.YtpefggkhjocanaaDoor
