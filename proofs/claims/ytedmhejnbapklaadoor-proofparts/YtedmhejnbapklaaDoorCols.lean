/-
  The walk of the columns' mixing.
-/
import Derived.Test.YtedmhejnbapklaaDoorLanes
namespace Go.Proofs.YtedmhejnbapklaaDoor
open Go.RowKit
def colAt (st : List (BitVec 64)) (x : Nat) : BitVec 64 := st.getD x 0 ^^^ st.getD (x + 5) 0 ^^^ st.getD (x + 10) 0 ^^^ st.getD (x + 15) 0 ^^^ st.getD (x + 20) 0
def colsTo (st : List (BitVec 64)) : Nat → List (BitVec 64)
  | 0 => [0, 0, 0, 0, 0]
  | k + 1 => (colsTo st k).set k (colAt st k)
def dOf (c : List (BitVec 64)) : List (BitVec 64) :=
  [c.getD 4 0 ^^^ rotl (c.getD 1 0) 1, c.getD 0 0 ^^^ rotl (c.getD 2 0) 1, c.getD 1 0 ^^^ rotl (c.getD 3 0) 1, c.getD 2 0 ^^^ rotl (c.getD 4 0) 1, c.getD 3 0 ^^^ rotl (c.getD 0 0) 1]
def addStep (d st : List (BitVec 64)) (k : Nat) : List (BitVec 64) :=
  let y := d.getD k 0
  ((((st.set k (st.getD k 0 ^^^ y)).set (k + 5) (st.getD (k + 5) 0 ^^^ y)).set (k + 10) (st.getD (k + 10) 0 ^^^ y)).set (k + 15) (st.getD (k + 15) 0 ^^^ y)).set (k + 20) (st.getD (k + 20) 0 ^^^ y)
def addTo (d st : List (BitVec 64)) : Nat → List (BitVec 64)
  | 0 => st
  | k + 1 => addStep d (addTo d st k) k
set_option maxRecDepth 100000 in
set_option maxHeartbeats 1000000 in
theorem cols_any (w : World) (b : Nat) (st : List (BitVec 64)) (h : St w b st) :
    Calls Tryd.prog 93 #[.pointer (some ⟨b, 0, none⟩)] w fun e w' => e = .returned (.tuple #[]) ∧ St w' b (addTo (dOf (colsTo st 5)) st 5) ∧ w.grownBy w' (some b) := by
  have hbn : b ≠ w.heap.size := Nat.ne_of_lt h.lt
  have h0 := h
  go_enter Tryd.func93, Tryd.ntmps93
  go_wp2_with fail
  go_loopw [6] (fun i wr => ∃ k : Nat, k ≤ 5 ∧ i = .int .i64 (k : Int) ∧ St wr b st ∧ Lanes 5 wr w.heap.size (colsTo st k) ∧ w.grownBy wr (some b)) (fun i _ => 5 - (intOf i).toNat)
  case atStart => exact ⟨0, by omega, rfl, h.alloc _, Lanes.new w 125 [0, 0, 0, 0, 0] rfl, grown_alloc (grown_refl _ _) _⟩
  case round =>
    obtain ⟨k, hk, rfl, hst, hcl, hg⟩ := hrel
    by_cases hlt : k < 5
    · have c0 := hst.cell k (by omega)
      have c1 := hst.cell (k + 5) (by omega)
      have c2 := hst.cell (k + 10) (by omega)
      have c3 := hst.cell (k + 15) (by omega)
      have c4 := hst.cell (k + 20) (by omega)
      have d0 := hcl.cell k hlt
      have hf := hcl.frozen k
      generalize hx0 : st.getD k 0 = x0 at *
      generalize hx1 : st.getD (k + 5) 0 = x1 at *
      generalize hx2 : st.getD (k + 10) 0 = x2 at *
      generalize hx3 : st.getD (k + 15) 0 = x3 at *
      generalize hx4 : st.getD (k + 20) 0 = x4 at *
      have HX : Hid (colAt st k = x0 ^^^ x1 ^^^ x2 ^^^ x3 ^^^ x4) := by show colAt st k = _; simp only [colAt, hx0, hx1, hx2, hx3, hx4]
      generalize hcc : colsTo st k = cc at *
      have HC : Hid (colsTo st k = cc) := hcc
      generalize hy : cc.getD k 0 = y at *
      clear hx0 hx1 hx2 hx3 hx4 hcc hy h
      have i1 : (k : Int) + 20 < 25 := by omega
      have i2 : (k : Int) < 5 := by omega
      go_wp2_with fail
      go_region
      all_goals go_wp2
      go_roundw
      case rel =>
        rw [bits_xor_U, bits_xor_U, bits_xor_U, bits_xor_U]
        have hlt' := hst.lt
        have hlt2 := hcl.lt
        refine ⟨k + 1, by omega, by go_num, (hst.setOther _ hbn _ _).drew, ?_, grown_drew (grown_setNew hg _ (Nat.le_refl _) _ _)⟩
        simp only [colsTo, HC.out, HX.out]
        exact (hcl.set k _).drew
      case measure => simp [intOf]; omega
    · obtain rfl : k = 5 := by omega
      have e0 := hcl.cell 0 (by omega)
      have e1 := hcl.cell 1 (by omega)
      have e2 := hcl.cell 2 (by omega)
      have e3 := hcl.cell 3 (by omega)
      have e4 := hcl.cell 4 (by omega)
      generalize hcc : colsTo st 5 = cc at *
      have HC : Hid (colsTo st 5 = cc) := hcc
      generalize hx0 : cc.getD 0 0 = x0 at *
      generalize hx1 : cc.getD 1 0 = x1 at *
      generalize hx2 : cc.getD 2 0 = x2 at *
      generalize hx3 : cc.getD 3 0 = x3 at *
      generalize hx4 : cc.getD 4 0 = x4 at *
      have HD : Hid (dOf cc = [x4 ^^^ rotl x1 1, x0 ^^^ rotl x2 1, x1 ^^^ rotl x3 1, x2 ^^^ rotl x4 1, x3 ^^^ rotl x0 1]) := by show dOf cc = _; simp only [dOf, hx0, hx1, hx2, hx3, hx4]
      clear hcc hx0 hx1 hx2 hx3 hx4 h
      have hwr := hcl.lt
      go_upto_region 6 with fail
      go_cut [4] (fun s4 wx => s4 = .pointer (some ⟨wr.heap.size, 0, none⟩) ∧ St wx b st ∧ Lanes 5 wx wr.heap.size (dOf cc) ∧ w.grownBy wx (some b))
      case first =>
        go_region_held3 (fun w' => w'.cell? ⟨w.heap.size, 0, none⟩ = some (.int .u64 (U x0)) ∧ w'.cell? ⟨w.heap.size, 1, none⟩ = some (.int .u64 (U x1)) ∧ w'.cell? ⟨w.heap.size, 2, none⟩ = some (.int .u64 (U x2)) ∧ w'.cell? ⟨w.heap.size, 3, none⟩ = some (.int .u64 (U x3)) ∧ w'.cell? ⟨w.heap.size, 4, none⟩ = some (.int .u64 (U x4))) (go_keep) (first | (go_at_call 96; refine (rot_any _ (1 : Int) (by omega) (by omega) _).mono ?_; rintro e w' ⟨rfl, rfl⟩))
        all_goals (go_wp2_with fail; go_meet; case rel => (rw [HD.out, bits_xor_U, bits_xor_U, bits_xor_U, bits_xor_U, bits_xor_U]; exact ⟨rfl, (hst.alloc _).drew, (Lanes.new wr 125 [x4 ^^^ rotl x1 1, x0 ^^^ rotl x2 1, x1 ^^^ rotl x3 1, x2 ^^^ rotl x4 1, x3 ^^^ rotl x0 1] rfl).drew, grown_drew (grown_alloc hg _)⟩))
      case rest =>
      obtain ⟨rfl, hst2, hd2, hg2⟩ := hcut
      clear e0 e1 e2 e3 e4 hst hcl hg
      have hbw : b ≠ wr.heap.size := by have := h0.lt; omega
      generalize hD : dOf cc = dd at *
      have HDD : Hid (dOf cc = dd) := hD
      clear hD HD
      generalize hdn : wr.heap.size = db at *
      clear hdn hwr
      go_wp2_with fail
      go_loopw [76] (fun i wr => ∃ k : Nat, k ≤ 5 ∧ i = .int .i64 (k : Int) ∧ St wr b (addTo dd st k) ∧ Lanes 5 wr db dd ∧ w.grownBy wr (some b)) (fun i _ => 5 - (intOf i).toNat)
      case atStart => exact ⟨0, by omega, rfl, hst2, hd2, hg2⟩
      case round =>
        clear hst2 hd2 hg2
        obtain ⟨k, hk, rfl, hst, hd, hg⟩ := hrel
        by_cases hlt : k < 5
        · have c0 := hst.cell k (by omega)
          have c1 := hst.cell (k + 5) (by omega)
          have c2 := hst.cell (k + 10) (by omega)
          have c3 := hst.cell (k + 15) (by omega)
          have c4 := hst.cell (k + 20) (by omega)
          have d0 := hd.cell k hlt
          have hf := hst.frozen
          generalize hS : addTo dd st k = S at *
          have HS : Hid (addTo dd st k = S) := hS
          generalize hy : dd.getD k 0 = y at *
          generalize hx0 : S.getD k 0 = x0 at *
          generalize hx1 : S.getD (k + 5) 0 = x1 at *
          generalize hx2 : S.getD (k + 10) 0 = x2 at *
          generalize hx3 : S.getD (k + 15) 0 = x3 at *
          generalize hx4 : S.getD (k + 20) 0 = x4 at *
          have HX : Hid (addStep dd S k = ((((S.set k (x0 ^^^ y)).set (k + 5) (x1 ^^^ y)).set (k + 10) (x2 ^^^ y)).set (k + 15) (x3 ^^^ y)).set (k + 20) (x4 ^^^ y)) := by show addStep dd S k = _; simp only [addStep, hy, hx0, hx1, hx2, hx3, hx4]
          clear hS hy hx0 hx1 hx2 hx3 hx4
          have i1 : (k : Int) + 20 < 25 := by omega
          have i2 : (k : Int) < 5 := by omega
          go_wp2_with fail
          go_region
          go_wp2_with fail
          go_region
          go_wp2_with fail
          go_region
          go_wp2_with fail
          go_region
          go_wp2_with fail
          go_region
          go_wp2_with fail
          go_roundw
          case rel =>
            rw [bits_xor_U, bits_xor_U, bits_xor_U, bits_xor_U, bits_xor_U]
            refine ⟨k + 1, by omega, by go_num, ?_, ?_, ?_⟩
            · simp only [addTo, HS.out, HX.out]
              exact (((((hst.set k _).set (k + 5) _).set (k + 10) _).set (k + 15) _).set (k + 20) _).drew.drew.drew.drew.drew
            · exact (((((hd.setOther b hbw.symm k _).setOther b hbw.symm (k + 5) _).setOther b hbw.symm (k + 10) _).setOther b hbw.symm (k + 15) _).setOther b hbw.symm (k + 20) _).drew.drew.drew.drew.drew
            · exact grown_drew (grown_drew (grown_drew (grown_drew (grown_drew (grown_set (grown_set (grown_set (grown_set (grown_set hg k _) (k + 5) _) (k + 10) _) (k + 15) _) (k + 20) _)))))
          case measure => simp [intOf]; omega
        · obtain rfl : k = 5 := by omega
          go_wp2
          go_end0
          refine ⟨rfl, ?_, hg⟩
          rw [HC.out, HDD.out]
          exact hst
end Go.Proofs.YtedmhejnbapklaaDoor
