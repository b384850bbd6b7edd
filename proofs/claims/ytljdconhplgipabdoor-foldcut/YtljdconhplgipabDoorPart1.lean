/-
  Texts of this proof, joined: Lanes, Cols, Move, Round, Take, Mem, Out, Pad, Sum, Own, Parts.
-/
import Derived.Test.YtljdconhplgipabDoorChecked
import Derived.Test.YtljdconhplgipabDoorBits
import Derived.WalkKit
import Derived.WalkSpells
import Derived.WalkLawsBesides
import Derived.BigRegion
import Derived.Deep.QuietTactic
import Derived.BigQuiet
import Derived.Deep.RegionHeld3
import Derived.Deep.DeepCutAuto
import Derived.Test.YtljdconhplgipabDoorBase
/-
  The state of the digest in memory, and the walks of bits.RotateLeft64 and of the rows' mixing.
-/
namespace Go.Proofs.YtljdconhplgipabDoor
open Go.RowKit
theorem rot_any (x : BitVec 64) (k : Int) (h0 : 0 ≤ k) (h : k < 64) (w : World) :
    Calls Tryd.prog 104 #[.int .u64 (U x), .int .i64 k] w fun e w' => e = .returned (.int .u64 (U (rotl x k.toNat))) ∧ w' = w := by
  have h63 := and63 k h0 h
  go_enter Tryd.func104, Tryd.ntmps104
  go_wp2
  go_ret
  refine ⟨?_, rfl⟩
  rw [show (64 - k).toNat = 64 - k.toNat by omega, wrap_shl_U, div_shr_U, bits_or_U]
  rfl

def lanesOf (st : List (BitVec 64)) : Array Value := (st.map fun x => Value.int .u64 (U x)).toArray
/-- Block b holds n lanes. -/
structure Lanes (n : Nat) (w : World) (b : Nat) (st : List (BitVec 64)) : Prop where
  len : st.length = n
  blk : ∃ t, w.heap[b]? = some (.cells (lanesOf st) t (0, 0))
section
variable {n : Nat} {w : World} {b : Nat} {st : List (BitVec 64)}
theorem Lanes.cell (h : Lanes n w b st) (i : Nat) (hi : i < n) : w.cell? ⟨b, i, none⟩ = some (.int .u64 (U (st.getD i 0))) := by
  obtain ⟨t, hb⟩ := h.blk
  simp [World.cell?, hb, lanesOf, List.getElem?_map, List.getElem?_eq_getElem (show i < st.length by have := h.len; omega)]
theorem Lanes.frozen (h : Lanes n w b st) (i : Nat) : w.frozen? ⟨b, i, none⟩ = false := by
  obtain ⟨t, hb⟩ := h.blk
  simp [World.frozen?, hb]
theorem Lanes.lt (h : Lanes n w b st) : b < w.heap.size := by
  obtain ⟨t, hb⟩ := h.blk
  exact (Array.getElem?_eq_some_iff.1 hb).1
theorem lanesOf_set (st : List (BitVec 64)) (i : Nat) (x : BitVec 64) : (lanesOf st).setIfInBounds i (.int .u64 (U x)) = lanesOf (st.set i x) := by
  simp [lanesOf]
theorem Lanes.set (h : Lanes n w b st) (i : Nat) (x : BitVec 64) : Lanes n (w.setCell ⟨b, i, none⟩ (.int .u64 (U x))) b (st.set i x) := by
  obtain ⟨t, hb⟩ := h.blk
  refine ⟨by simp [h.len], t, ?_⟩
  simp only [World.setCell, Array.getElem?_modify, if_true, hb, Option.map_some]
  simp [lanesOf_set]
theorem Lanes.setOther (h : Lanes n w b st) (c : Nat) (hc : b ≠ c) (i : Nat) (v : Value) : Lanes n (w.setCell ⟨c, i, none⟩ v) b st := by
  obtain ⟨t, hb⟩ := h.blk
  exact ⟨h.len, t, by rw [Below.heap_setCell _ _ _ _ hc]; exact hb⟩
theorem Lanes.drewN (h : Lanes n w b st) (k : Nat) : Lanes n (w.drewN k) b st := ⟨h.len, h.blk⟩
theorem Lanes.drew (h : Lanes n w b st) : Lanes n w.drew b st := ⟨h.len, h.blk⟩
theorem Lanes.alloc (h : Lanes n w b st) (o : Obj) : Lanes n (w.alloc o) b st := by
  obtain ⟨t, hb⟩ := h.blk
  exact ⟨h.len, t, by rw [Below.heap_alloc _ _ _ h.lt]; exact hb⟩
theorem Lanes.grown (h : Lanes n w b st) {w' : World} {r : Option Nat} (hg : w.grownBy w' r) (hr : some b ≠ r) : Lanes n w' b st := by
  obtain ⟨t, hb⟩ := h.blk
  exact ⟨h.len, t, by rw [hg.block b h.lt hr]; exact hb⟩
theorem Lanes.new (w : World) (t : TypeId) (st : List (BitVec 64)) (hl : st.length = n) : Lanes n (w.alloc (.cells (lanesOf st) t)) w.heap.size st :=
  ⟨hl, t, heap_alloc_new w _⟩
end
abbrev St := Lanes 25

def rowStep (st : List (BitVec 64)) (n : Nat) : List (BitVec 64) :=
  let a := st.getD n 0
  let b := st.getD (n + 1) 0
  let c := st.getD (n + 2) 0
  let d := st.getD (n + 3) 0
  let e := st.getD (n + 4) 0
  ((((st.set n (a ^^^ (c &&& ~~~b))).set (n + 1) (b ^^^ (d &&& ~~~c))).set (n + 2) (c ^^^ (e &&& ~~~d))).set (n + 3) (d ^^^ (a &&& ~~~e))).set (n + 4) (e ^^^ (b &&& ~~~a))
def rowsTo (st : List (BitVec 64)) : Nat → List (BitVec 64)
  | 0 => st
  | k + 1 => rowStep (rowsTo st k) (5 * k)
set_option maxRecDepth 100000 in
set_option maxHeartbeats 1000000 in
theorem rows_any (w : World) (b : Nat) (st : List (BitVec 64)) (h : St w b st) :
    Calls Tryd.prog 103 #[.pointer (some ⟨b, 0, none⟩)] w fun e w' => e = .returned (.tuple #[]) ∧ St w' b (rowsTo st 5) ∧ w.grownBy w' (some b) := by
  go_enter Tryd.func103, Tryd.ntmps103
  go_wp2
  go_loopw [2] (fun y wr => ∃ k : Nat, k ≤ 5 ∧ y = .int .i64 ((5 * k : Nat) : Int) ∧ St wr b (rowsTo st k) ∧ w.grownBy wr (some b)) (fun y _ => 25 - (intOf y).toNat)
  case atStart => exact ⟨0, by omega, rfl, h, grown_refl _ _⟩
  case round =>
    obtain ⟨k, hk, rfl, hst, hg⟩ := hrel
    by_cases hlt : k < 5
    · generalize hn : 5 * k = n
      have HN : Hid (5 * k = n) := hn
      clear hn
      have h25 : n + 4 < 25 := by have := HN.out; omega
      have hc := hst.cell
      have hf := hst.frozen
      have c0 := hc n (by omega)
      have c1 := hc (n + 1) (by omega)
      have c2 := hc (n + 2) (by omega)
      have c3 := hc (n + 3) (by omega)
      have c4 := hc (n + 4) (by omega)
      clear hc
      generalize hS : rowsTo st k = S at *
      have HS : Hid (rowsTo st k = S) := hS
      clear hS
      generalize hA : S.getD n 0 = A at *
      generalize hB : S.getD (n + 1) 0 = B at *
      generalize hC : S.getD (n + 2) 0 = C at *
      generalize hD : S.getD (n + 3) 0 = D at *
      generalize hE : S.getD (n + 4) 0 = E at *
      have HA : Hid (S.getD n 0 = A) := hA
      have HB : Hid (S.getD (n + 1) 0 = B) := hB
      have HC : Hid (S.getD (n + 2) 0 = C) := hC
      have HD : Hid (S.getD (n + 3) 0 = D) := hD
      have HE : Hid (S.getD (n + 4) 0 = E) := hE
      clear hA hB hC hD hE
      have i1 : (n : Int) + 4 < 25 := by omega
      go_wp2
      go_quiet (fail)
      go_wp2
      go_roundw
      case rel =>
        refine ⟨k + 1, by omega, by have := HN.out; congr 1; omega, ?_, ?_⟩
        · rw [bits_andNot_U, bits_andNot_U, bits_andNot_U, bits_andNot_U, bits_andNot_U, bits_xor_U, bits_xor_U, bits_xor_U, bits_xor_U, bits_xor_U]
          have e : rowsTo st (k + 1) = ((((S.set n (A ^^^ (C &&& ~~~B))).set (n + 1) (B ^^^ (D &&& ~~~C))).set (n + 2) (C ^^^ (E &&& ~~~D))).set (n + 3) (D ^^^ (A &&& ~~~E))).set (n + 4) (E ^^^ (B &&& ~~~A)) := by
            simp only [rowsTo, rowStep, HS.out, HN.out, HA.out, HB.out, HC.out, HD.out, HE.out]
          rw [e]
          exact (((((hst.drewN nq).set n _).set (n + 1) _).set (n + 2) _).set (n + 3) _).set (n + 4) _
        · exact grown_set (grown_set (grown_set (grown_set (grown_set (grown_drewN hg nq) n _) (n + 1) _) (n + 2) _) (n + 3) _) (n + 4) _
      case measure => simp [intOf]; omega
    · obtain rfl : k = 5 := by omega
      go_wp2
      go_end0
      exact ⟨rfl, hst, hg⟩
end Go.Proofs.YtljdconhplgipabDoor

/-
  The walk of the columns' mixing.
-/
namespace Go.Proofs.YtljdconhplgipabDoor
open Go.RowKit
def colAt (st : List (BitVec 64)) (x : Nat) : BitVec 64 := st.getD x 0 ^^^ st.getD (x + 5) 0 ^^^ st.getD (x + 10) 0 ^^^ st.getD (x + 15) 0 ^^^ st.getD (x + 20) 0
def colsTo (st : List (BitVec 64)) : Nat → List (BitVec 64)
  | 0 => [0, 0, 0, 0, 0]
  | k + 1 => (colsTo st k).set k (colAt st k)
def dOf (c : List (BitVec 64)) : List (BitVec 64) :=
  [c.getD 4 0 ^^^ rotl (c.getD 1 0) 1, c.getD 0 0 ^^^ rotl (c.getD 2 0) 1, c.getD 1 0 ^^^ rotl (c.getD 3 0) 1, c.getD 2 0 ^^^ rotl (c.getD 4 0) 1, c.getD 3 0 ^^^ rotl (c.getD 0 0) 1]
def addStep (d st : List (BitVec 64)) (k : Nat) : List (BitVec 64) :=
  let y := d.getD k 0
  ((((st.set k (st.getD k 0 ^^^ y)).set (k + 5) (st.getD (k + 5) 0 ^^^ y)).set (k + 10) (st.getD (k + 10) 0 ^^^ y)).set (k + 15) (st.getD (k + 15) 0 ^^^ y)).set (k + 20) (st.getD (k + 20) 0 ^^^ y)
def addTo (d st : List (BitVec 64)) : Nat → List (BitVec 64)
  | 0 => st
  | k + 1 => addStep d (addTo d st k) k
set_option maxRecDepth 100000 in
set_option maxHeartbeats 1000000 in
theorem cols_any (w : World) (b : Nat) (st : List (BitVec 64)) (h : St w b st) :
    Calls Tryd.prog 101 #[.pointer (some ⟨b, 0, none⟩)] w fun e w' => e = .returned (.tuple #[]) ∧ St w' b (addTo (dOf (colsTo st 5)) st 5) ∧ w.grownBy w' (some b) := by
  have hbn : b ≠ w.heap.size := Nat.ne_of_lt h.lt
  have h0 := h
  go_enter Tryd.func101, Tryd.ntmps101
  go_wp2_with fail
  go_loopw [6] (fun i wr => ∃ k : Nat, k ≤ 5 ∧ i = .int .i64 (k : Int) ∧ St wr b st ∧ Lanes 5 wr w.heap.size (colsTo st k) ∧ w.grownBy wr (some b)) (fun i _ => 5 - (intOf i).toNat)
  case atStart => exact ⟨0, by omega, rfl, h.alloc _, Lanes.new w 153 [0, 0, 0, 0, 0] rfl, grown_alloc (grown_refl _ _) _⟩
  case round =>
    obtain ⟨k, hk, rfl, hst, hcl, hg⟩ := hrel
    by_cases hlt : k < 5
    · have c0 := hst.cell k (by omega)
      have c1 := hst.cell (k + 5) (by omega)
      have c2 := hst.cell (k + 10) (by omega)
      have c3 := hst.cell (k + 15) (by omega)
      have c4 := hst.cell (k + 20) (by omega)
      have d0 := hcl.cell k hlt
      have hf := hcl.frozen k
      generalize hx0 : st.getD k 0 = x0 at *
      generalize hx1 : st.getD (k + 5) 0 = x1 at *
      generalize hx2 : st.getD (k + 10) 0 = x2 at *
      generalize hx3 : st.getD (k + 15) 0 = x3 at *
      generalize hx4 : st.getD (k + 20) 0 = x4 at *
      have HX : Hid (colAt st k = x0 ^^^ x1 ^^^ x2 ^^^ x3 ^^^ x4) := by show colAt st k = _; simp only [colAt, hx0, hx1, hx2, hx3, hx4]
      generalize hcc : colsTo st k = cc at *
      have HC : Hid (colsTo st k = cc) := hcc
      generalize hy : cc.getD k 0 = y at *
      clear hx0 hx1 hx2 hx3 hx4 hcc hy h
      have i1 : (k : Int) + 20 < 25 := by omega
      have i2 : (k : Int) < 5 := by omega
      go_wp2_with fail
      go_region
      all_goals go_wp2
      go_roundw
      case rel =>
        rw [bits_xor_U, bits_xor_U, bits_xor_U, bits_xor_U]
        have hlt' := hst.lt
        have hlt2 := hcl.lt
        refine ⟨k + 1, by omega, by go_num, (hst.setOther _ hbn _ _).drew, ?_, grown_drew (grown_setNew hg _ (Nat.le_refl _) _ _)⟩
        simp only [colsTo, HC.out, HX.out]
        exact (hcl.set k _).drew
      case measure => simp [intOf]; omega
    · obtain rfl : k = 5 := by omega
      have e0 := hcl.cell 0 (by omega)
      have e1 := hcl.cell 1 (by omega)
      have e2 := hcl.cell 2 (by omega)
      have e3 := hcl.cell 3 (by omega)
      have e4 := hcl.cell 4 (by omega)
      generalize hcc : colsTo st 5 = cc at *
      have HC : Hid (colsTo st 5 = cc) := hcc
      generalize hx0 : cc.getD 0 0 = x0 at *
      generalize hx1 : cc.getD 1 0 = x1 at *
      generalize hx2 : cc.getD 2 0 = x2 at *
      generalize hx3 : cc.getD 3 0 = x3 at *
      generalize hx4 : cc.getD 4 0 = x4 at *
      have HD : Hid (dOf cc = [x4 ^^^ rotl x1 1, x0 ^^^ rotl x2 1, x1 ^^^ rotl x3 1, x2 ^^^ rotl x4 1, x3 ^^^ rotl x0 1]) := by show dOf cc = _; simp only [dOf, hx0, hx1, hx2, hx3, hx4]
      clear hcc hx0 hx1 hx2 hx3 hx4 h
      have hwr := hcl.lt
      go_upto_region 6 with fail
      go_cut [4] (fun s4 wx => s4 = .pointer (some ⟨wr.heap.size, 0, none⟩) ∧ St wx b st ∧ Lanes 5 wx wr.heap.size (dOf cc) ∧ w.grownBy wx (some b))
      case first =>
        go_region_held3 (fun w' => w'.cell? ⟨w.heap.size, 0, none⟩ = some (.int .u64 (U x0)) ∧ w'.cell? ⟨w.heap.size, 1, none⟩ = some (.int .u64 (U x1)) ∧ w'.cell? ⟨w.heap.size, 2, none⟩ = some (.int .u64 (U x2)) ∧ w'.cell? ⟨w.heap.size, 3, none⟩ = some (.int .u64 (U x3)) ∧ w'.cell? ⟨w.heap.size, 4, none⟩ = some (.int .u64 (U x4))) (go_keep) (first | (go_at_call 104; refine (rot_any _ (1 : Int) (by omega) (by omega) _).mono ?_; rintro e w' ⟨rfl, rfl⟩))
        all_goals (go_wp2_with fail; go_meet; case rel => (rw [HD.out, bits_xor_U, bits_xor_U, bits_xor_U, bits_xor_U, bits_xor_U]; exact ⟨rfl, (hst.alloc _).drew, (Lanes.new wr 153 [x4 ^^^ rotl x1 1, x0 ^^^ rotl x2 1, x1 ^^^ rotl x3 1, x2 ^^^ rotl x4 1, x3 ^^^ rotl x0 1] rfl).drew, grown_drew (grown_alloc hg _)⟩))
      case rest =>
      obtain ⟨rfl, hst2, hd2, hg2⟩ := hcut
      clear e0 e1 e2 e3 e4 hst hcl hg
      have hbw : b ≠ wr.heap.size := by have := h0.lt; omega
      generalize hD : dOf cc = dd at *
      have HDD : Hid (dOf cc = dd) := hD
      clear hD HD
      generalize hdn : wr.heap.size = db at *
      clear hdn hwr
      go_wp2_with fail
      go_loopw [76] (fun i wr => ∃ k : Nat, k ≤ 5 ∧ i = .int .i64 (k : Int) ∧ St wr b (addTo dd st k) ∧ Lanes 5 wr db dd ∧ w.grownBy wr (some b)) (fun i _ => 5 - (intOf i).toNat)
      case atStart => exact ⟨0, by omega, rfl, hst2, hd2, hg2⟩
      case round =>
        clear hst2 hd2 hg2
        obtain ⟨k, hk, rfl, hst, hd, hg⟩ := hrel
        by_cases hlt : k < 5
        · have c0 := hst.cell k (by omega)
          have c1 := hst.cell (k + 5) (by omega)
          have c2 := hst.cell (k + 10) (by omega)
          have c3 := hst.cell (k + 15) (by omega)
          have c4 := hst.cell (k + 20) (by omega)
          have d0 := hd.cell k hlt
          have hf := hst.frozen
          generalize hS : addTo dd st k = S at *
          have HS : Hid (addTo dd st k = S) := hS
          generalize hy : dd.getD k 0 = y at *
          generalize hx0 : S.getD k 0 = x0 at *
          generalize hx1 : S.getD (k + 5) 0 = x1 at *
          generalize hx2 : S.getD (k + 10) 0 = x2 at *
          generalize hx3 : S.getD (k + 15) 0 = x3 at *
          generalize hx4 : S.getD (k + 20) 0 = x4 at *
          have HX : Hid (addStep dd S k = ((((S.set k (x0 ^^^ y)).set (k + 5) (x1 ^^^ y)).set (k + 10) (x2 ^^^ y)).set (k + 15) (x3 ^^^ y)).set (k + 20) (x4 ^^^ y)) := by show addStep dd S k = _; simp only [addStep, hy, hx0, hx1, hx2, hx3, hx4]
          clear hS hy hx0 hx1 hx2 hx3 hx4
          have i1 : (k : Int) + 20 < 25 := by omega
          have i2 : (k : Int) < 5 := by omega
          go_wp2_with fail
          go_region
          go_wp2_with fail
          go_region
          go_wp2_with fail
          go_region
          go_wp2_with fail
          go_region
          go_wp2_with fail
          go_region
          go_wp2_with fail
          go_roundw
          case rel =>
            rw [bits_xor_U, bits_xor_U, bits_xor_U, bits_xor_U, bits_xor_U]
            refine ⟨k + 1, by omega, by go_num, ?_, ?_, ?_⟩
            · simp only [addTo, HS.out, HX.out]
              exact (((((hst.set k _).set (k + 5) _).set (k + 10) _).set (k + 15) _).set (k + 20) _).drew.drew.drew.drew.drew
            · exact (((((hd.setOther b hbw.symm k _).setOther b hbw.symm (k + 5) _).setOther b hbw.symm (k + 10) _).setOther b hbw.symm (k + 15) _).setOther b hbw.symm (k + 20) _).drew.drew.drew.drew.drew
            · exact grown_drew (grown_drew (grown_drew (grown_drew (grown_drew (grown_set (grown_set (grown_set (grown_set (grown_set hg k _) (k + 5) _) (k + 10) _) (k + 15) _) (k + 20) _)))))
          case measure => simp [intOf]; omega
        · obtain rfl : k = 5 := by omega
          go_wp2
          go_end0
          refine ⟨rfl, ?_, hg⟩
          rw [HC.out, HDD.out]
          exact hst
end Go.Proofs.YtljdconhplgipabDoor

namespace Go.Proofs.YtljdconhplgipabDoor
open Go.RowKit
def laneWalkT : List Nat := [10, 7, 11, 17, 18, 3, 5, 16, 8, 21, 24, 4, 15, 23, 19, 13, 12, 2, 20, 14, 22, 9, 6, 1]
def laneTurnsT : List Nat := [1, 3, 6, 10, 15, 21, 28, 36, 45, 55, 2, 14, 27, 41, 56, 8, 25, 43, 62, 18, 39, 61, 20, 44]
def roundNumbersT : List (BitVec 64) := [0x0000000000000001, 0x0000000000008082, 0x800000000000808a, 0x8000000080008000, 0x000000000000808b, 0x0000000080000001, 0x8000000080008081, 0x8000000000008009, 0x000000000000008a, 0x0000000000000088, 0x0000000080008009, 0x000000008000000a, 0x000000008000808b, 0x800000000000008b, 0x8000000000008089, 0x8000000000008003, 0x8000000000008002, 0x8000000000000080, 0x000000000000800a, 0x800000008000000a, 0x8000000080008081, 0x8000000000008080, 0x0000000080000001, 0x8000000080008008]
theorem walk_lt (k : Nat) (h : k < 24) : laneWalkT.getD k 0 < 25 := (by decide : ∀ k : Fin 24, laneWalkT.getD k.1 0 < 25) ⟨k, h⟩
theorem turns_lt (k : Nat) (h : k < 24) : laneTurnsT.getD k 0 < 64 := (by decide : ∀ k : Fin 24, laneTurnsT.getD k.1 0 < 64) ⟨k, h⟩
/-- The three tables of the package, as their initialisers lay them. -/
structure Tabs (w : World) : Prop where
  nums : ∀ i, i < 24 → w.cell? ⟨1, i, none⟩ = some (.int .u64 (U (roundNumbersT.getD i 0)))
  walk : ∀ i, i < 24 → w.cell? ⟨2, i, none⟩ = some (.int .i64 ((laneWalkT.getD i 0 : Nat) : Int))
  turns : ∀ i, i < 24 → w.cell? ⟨3, i, none⟩ = some (.int .i64 ((laneTurnsT.getD i 0 : Nat) : Int))
theorem Tabs.grown {w w' : World} {b : Nat} (h : Tabs w) (hg : w.grownBy w' (some b)) (hb : 4 ≤ b) : Tabs w' :=
  ⟨fun i hi => hg.cell (h.nums i hi) (by simp; omega), fun i hi => hg.cell (h.walk i hi) (by simp; omega), fun i hi => hg.cell (h.turns i hi) (by simp; omega)⟩
def moveTo (st : List (BitVec 64)) : Nat → List (BitVec 64) × BitVec 64
  | 0 => (st, st.getD 1 0)
  | k + 1 => ((moveTo st k).1.set (laneWalkT.getD k 0) (rotl (moveTo st k).2 (laneTurnsT.getD k 0)), (moveTo st k).1.getD (laneWalkT.getD k 0) 0)
set_option maxRecDepth 100000 in
set_option maxHeartbeats 1000000 in
theorem move_any (w : World) (b : Nat) (hb : 4 ≤ b) (st : List (BitVec 64)) (h : St w b st) (ht : Tabs w) :
    Calls Tryd.prog 102 #[.pointer (some ⟨b, 0, none⟩)] w fun e w' => e = .returned (.tuple #[]) ∧ St w' b (moveTo st 24).1 ∧ w.grownBy w' (some b) := by
  have c1 := h.cell 1 (by omega)
  go_enter Tryd.func102, Tryd.ntmps102
  go_wp2
  go_loopw [2, 10] (fun m i wr => ∃ k : Nat, k ≤ 24 ∧ i = .int .i64 (k : Int) ∧ m = .int .u64 (U (moveTo st k).2) ∧ St wr b (moveTo st k).1 ∧ w.grownBy wr (some b)) (fun _ i _ => 24 - (intOf i).toNat)
  case atStart => exact ⟨0, by omega, rfl, by simp [moveTo], h, grown_refl _ _⟩
  case round =>
    obtain ⟨k, hk, rfl, rfl, hst, hg⟩ := hrel
    clear c1
    by_cases hlt : k < 24
    · have hT := ht.grown hg hb
      have hw := walk_lt k hlt
      have hr := turns_lt k hlt
      have t1 := hT.walk k hlt
      have t2 := hT.turns k hlt
      have c := hst.cell (laneWalkT.getD k 0) hw
      have hf := hst.frozen
      generalize hS : (moveTo st k).1 = S at *
      have HS : Hid ((moveTo st k).1 = S) := hS
      generalize hM : (moveTo st k).2 = M at *
      have HM : Hid ((moveTo st k).2 = M) := hM
      generalize hW : laneWalkT.getD k 0 = W at *
      have HW : Hid (laneWalkT.getD k 0 = W) := hW
      generalize hR : laneTurnsT.getD k 0 = R at *
      have HR : Hid (laneTurnsT.getD k 0 = R) := hR
      clear hS hM hW hR
      generalize hX : S.getD W 0 = X at *
      have HX : Hid (S.getD W 0 = X) := hX
      clear hX hT ht h
      have i1 : (W : Int) < 25 := by omega
      go_wp2_with fail
      go_region_with (go_at_call 104; refine (rot_any M (R : Int) (by omega) (by omega) _).mono ?_; rintro e w' ⟨rfl, rfl⟩)
      all_goals go_wp2
      go_roundw
      case rel =>
        refine ⟨k + 1, by omega, by go_num, ?_, ?_, grown_drew (grown_set hg _ _)⟩
        · simp only [moveTo, HS.out, HW.out, HX.out]
        · simp only [moveTo, HS.out, HM.out, HW.out, HR.out]
          exact (hst.set W _).drew
      case measure => simp [intOf]; omega
    · obtain rfl : k = 24 := by omega
      go_wp2
      go_end0
      exact ⟨rfl, hst, hg⟩
end Go.Proofs.YtljdconhplgipabDoor

/-
  The walk of a round.
-/
namespace Go.Proofs.YtljdconhplgipabDoor
open Go.RowKit
theorem addTo_len (d st : List (BitVec 64)) (k : Nat) : (addTo d st k).length = st.length := by
  induction k with
  | zero => rfl
  | succ k ih => simp [addTo, addStep, ih]
theorem moveTo_len (st : List (BitVec 64)) (k : Nat) : (moveTo st k).1.length = st.length := by
  induction k with
  | zero => rfl
  | succ k ih => simp [moveTo, ih]
theorem rowsTo_len (st : List (BitVec 64)) (k : Nat) : (rowsTo st k).length = st.length := by
  induction k with
  | zero => rfl
  | succ k ih => simp [rowsTo, rowStep, ih]
/-- A round of P1.2. -/
def roundF (st : List (BitVec 64)) (n : BitVec 64) : List (BitVec 64) :=
  let r := rowsTo (moveTo (addTo (dOf (colsTo st 5)) st 5) 24).1 5
  r.set 0 (r.getD 0 0 ^^^ n)
set_option maxRecDepth 100000 in
set_option maxHeartbeats 1000000 in
theorem round_any (w : World) (b : Nat) (hb : 4 ≤ b) (st : List (BitVec 64)) (n : BitVec 64) (h : St w b st) (ht : Tabs w) :
    Calls Tryd.prog 99 #[.pointer (some ⟨b, 0, none⟩), .int .u64 (U n)] w fun e w' => e = .returned (.tuple #[]) ∧ St w' b (roundF st n) ∧ w.grownBy w' (some b) := by
  go_enter Tryd.func99, Tryd.ntmps99
  go_wp2_with fail
  refine (cols_any _ b st h).mono ?_
  rintro e w1 ⟨rfl, h1, g1⟩
  go_wp2_with fail
  refine (move_any _ b hb _ h1 (ht.grown g1 hb)).mono ?_
  rintro e w2 ⟨rfl, h2, g2⟩
  go_wp2_with fail
  refine (rows_any _ b _ h2).mono ?_
  rintro e w3 ⟨rfl, h3, g3⟩
  have g := grown_trans g1 (grown_trans g2 g3)
  clear g1 g2 g3 h1 h2 h ht
  have HR : Hid (roundF st n = (rowsTo (moveTo (addTo (dOf (colsTo st 5)) st 5) 24).1 5).set 0 ((rowsTo (moveTo (addTo (dOf (colsTo st 5)) st 5) 24).1 5).getD 0 0 ^^^ n)) := rfl
  generalize rowsTo (moveTo (addTo (dOf (colsTo st 5)) st 5) 24).1 5 = S at *
  have c0 := h3.cell 0 (by omega)
  have hf := h3.frozen 0
  generalize hx : S.getD 0 0 = x at *
  clear hx
  go_wp2_with fail
  go_region
  go_wp2_with fail
  go_end0
  refine ⟨rfl, ?_, grown_drew (grown_set g 0 _)⟩
  rw [HR.out, bits_xor_U]
  exact (h3.set 0 _).drew
end Go.Proofs.YtljdconhplgipabDoor

/-
  The walks of a lane's reading and of a block's taking.
-/
namespace Go.Proofs.YtljdconhplgipabDoor
open Go.RowKit
/-- A byte as a word. -/
def Z (c : UInt8) : BitVec 64 := BitVec.ofNat 64 c.toNat
theorem wrap_byte (c : UInt8) : IntKind.u64.wrap ((c.toNat : Nat) : Int) = U (Z c) := by
  rw [IntKind.wrap_u64]; unfold U Z; rw [BitVec.toNat_ofNat]; have := c.toNat_lt; omega
/-- Eight bytes as a lane, the lowest one first. -/
def laneOf (c0 c1 c2 c3 c4 c5 c6 c7 : UInt8) : BitVec 64 := Z c7 <<< 56 ||| Z c6 <<< 48 ||| Z c5 <<< 40 ||| Z c4 <<< 32 ||| Z c3 <<< 24 ||| Z c2 <<< 16 ||| Z c1 <<< 8 ||| Z c0
def laneAt (bs : List UInt8) (k : Nat) : BitVec 64 := laneOf (bs.getD k 0) (bs.getD (k + 1) 0) (bs.getD (k + 2) 0) (bs.getD (k + 3) 0) (bs.getD (k + 4) 0) (bs.getD (k + 5) 0) (bs.getD (k + 6) 0) (bs.getD (k + 7) 0)
theorem lane_bits (c0 c1 c2 c3 c4 c5 c6 c7 : UInt8) :
    bits .or .u64 (bits .or .u64 (bits .or .u64 (bits .or .u64 (bits .or .u64 (bits .or .u64 (bits .or .u64
      (IntKind.u64.wrap (IntKind.u64.wrap (c7.toNat : Int) * 72057594037927936)) (IntKind.u64.wrap (IntKind.u64.wrap (c6.toNat : Int) * 281474976710656)))
      (IntKind.u64.wrap (IntKind.u64.wrap (c5.toNat : Int) * 1099511627776))) (IntKind.u64.wrap (IntKind.u64.wrap (c4.toNat : Int) * 4294967296)))
      (IntKind.u64.wrap (IntKind.u64.wrap (c3.toNat : Int) * 16777216))) (IntKind.u64.wrap (IntKind.u64.wrap (c2.toNat : Int) * 65536)))
      (IntKind.u64.wrap (IntKind.u64.wrap (c1.toNat : Int) * 256))) (IntKind.u64.wrap (c0.toNat : Int)) = U (laneOf c0 c1 c2 c3 c4 c5 c6 c7) := by
  have e56 := wrap_shl_U (Z c7) 56
  have e48 := wrap_shl_U (Z c6) 48
  have e40 := wrap_shl_U (Z c5) 40
  have e32 := wrap_shl_U (Z c4) 32
  have e24 := wrap_shl_U (Z c3) 24
  have e16 := wrap_shl_U (Z c2) 16
  have e8 := wrap_shl_U (Z c1) 8
  simp only [Int.reducePow] at e56 e48 e40 e32 e24 e16 e8
  rw [wrap_byte, wrap_byte, wrap_byte, wrap_byte, wrap_byte, wrap_byte, wrap_byte, wrap_byte, e56, e48, e40, e32, e24, e16, e8]
  simp only [bits_or_U]
  rfl
set_option maxRecDepth 100000 in
set_option maxHeartbeats 1000000 in
theorem lane_core (w : World) (b o : Nat) (cap : Nat) (len : Nat) (c0 c1 c2 c3 c4 c5 c6 c7 : UInt8) (hl : 8 ≤ len)
    (h0 : w.cell? ⟨b, o, none⟩ = some (.int .u8 (c0.toNat : Int))) (h1 : w.cell? ⟨b, o + 1, none⟩ = some (.int .u8 (c1.toNat : Int))) (h2 : w.cell? ⟨b, o + 2, none⟩ = some (.int .u8 (c2.toNat : Int)))
    (h3 : w.cell? ⟨b, o + 3, none⟩ = some (.int .u8 (c3.toNat : Int))) (h4 : w.cell? ⟨b, o + 4, none⟩ = some (.int .u8 (c4.toNat : Int))) (h5 : w.cell? ⟨b, o + 5, none⟩ = some (.int .u8 (c5.toNat : Int)))
    (h6 : w.cell? ⟨b, o + 6, none⟩ = some (.int .u8 (c6.toNat : Int))) (h7 : w.cell? ⟨b, o + 7, none⟩ = some (.int .u8 (c7.toNat : Int))) :
    Calls Tryd.prog 98 #[.slice (some ⟨b, o, none⟩) len cap] w fun e w' => e = .returned (.int .u64 (U (laneOf c0 c1 c2 c3 c4 c5 c6 c7))) ∧ ∃ n, w' = w.drewN n := by
  have g0 : (0 : Int) < len := by omega
  have g1 : (1 : Int) < len := by omega
  have g2 : (2 : Int) < len := by omega
  have g3 : (3 : Int) < len := by omega
  have g4 : (4 : Int) < len := by omega
  have g5 : (5 : Int) < len := by omega
  have g6 : (6 : Int) < len := by omega
  have g7 : (7 : Int) < len := by omega
  go_enter Tryd.func98, Tryd.ntmps98
  go_wp2
  go_quiet (fail)
  go_wp2
  go_ret
  refine ⟨?_, _, rfl⟩
  rw [← lane_bits]
  rfl
theorem lane_any (w : World) (pb o len cap : Nat) (bs : List UInt8) (k : Nat) (hk : k + 8 ≤ bs.length) (hl : 8 ≤ len) (h : BytesAt w pb o bs) :
    Calls Tryd.prog 98 #[.slice (some ⟨pb, o + k, none⟩) len cap] w fun e w' => e = .returned (.int .u64 (U (laneAt bs k))) ∧ ∃ n, w' = w.drewN n :=
  lane_core w pb (o + k) cap len _ _ _ _ _ _ _ _ hl (h k (by omega)) (h (k + 1) (by omega)) (h (k + 2) (by omega)) (h (k + 3) (by omega)) (h (k + 4) (by omega)) (h (k + 5) (by omega)) (h (k + 6) (by omega)) (h (k + 7) (by omega))
def absorbTo (bs : List UInt8) (st : List (BitVec 64)) : Nat → List (BitVec 64)
  | 0 => st
  | k + 1 => (absorbTo bs st k).set k ((absorbTo bs st k).getD k 0 ^^^ laneAt bs (8 * k))
def roundsTo (st : List (BitVec 64)) : Nat → List (BitVec 64)
  | 0 => st
  | k + 1 => roundF (roundsTo st k) (roundNumbersT.getD k 0)
set_option maxRecDepth 100000 in
set_option maxHeartbeats 1000000 in
theorem take_any (w : World) (b : Nat) (hb : 4 ≤ b) (st : List (BitVec 64)) (h : St w b st) (ht : Tabs w) (pb o cap : Nat) (hpb : pb ≠ b) (hcap : 136 ≤ cap) (hmax : cap ≤ 1000000) (bs : List UInt8) (hbs : bs.length = 136) (hB : BytesAt w pb o bs) :
    Calls Tryd.prog 88 #[.pointer (some ⟨b, 0, none⟩), .slice (some ⟨pb, o, none⟩) 136 cap] w fun e w' => e = .returned (.tuple #[]) ∧ St w' b (roundsTo (absorbTo bs st 17) 24) ∧ w.grownBy w' (some b) := by
  go_enter Tryd.func88, Tryd.ntmps88
  go_wp2_with fail
  go_loopw [6] (fun i wr => ∃ k : Nat, k ≤ 17 ∧ i = .int .i64 (k : Int) ∧ St wr b (absorbTo bs st k) ∧ w.grownBy wr (some b)) (fun i _ => 17 - (intOf i).toNat)
  case atStart => exact ⟨0, by omega, rfl, h, grown_refl _ _⟩
  case round =>
    obtain ⟨k, hk, rfl, hst, hg⟩ := hrel
    by_cases hlt : k < 17
    · have hBr := hB.grown hg (by simpa using hpb)
      have c0 := hst.cell k (by omega)
      have hf := hst.frozen k
      generalize hS : absorbTo bs st k = S at *
      have HS : Hid (absorbTo bs st k = S) := hS
      generalize hx : S.getD k 0 = x at *
      have HX : Hid (S.getD k 0 = x) := hx
      have HL : Hid (bs.length = 136) := hbs
      clear hS hx h ht hB hbs
      have i1 : (k : Int) < 25 := by omega
      have i2 : 8 * (k : Int) ≤ 128 := by omega
      have n1 : ¬ cap = 8 * k := by omega
      have n2 : (8 * (k : Int)).toNat = 8 * k := by omega
      have ha := addr_add
      have hwr : IntKind.i64.wrap (8 * (k : Int)) = 8 * (k : Int) := by rw [IntKind.wrap_i64]; omega
      have hsl := fun W => slice_l W pb o 136 cap (8 * (k : Int)) (8 * k) (by omega) (by omega) (by omega)
      go_wp2_with fail
      go_region_with (go_at_call 98; refine (lane_any _ pb o _ _ bs (8 * k) (by have := HL.out; omega) (by omega) (by exact hBr)).mono ?_; rintro e w' ⟨rfl, n, rfl⟩)
      all_goals go_wp2
      all_goals
        go_roundw
        case rel =>
          rw [bits_xor_U]
          refine ⟨k + 1, by omega, by go_num, ?_, grown_set (grown_drewN hg _) _ _⟩
          simp only [absorbTo, HS.out, HX.out]
          exact (hst.drewN _).set k _
        case measure => simp [intOf]; omega
    · obtain rfl : k = 17 := by omega
      clear hlt hk
      generalize hS : absorbTo bs st 17 = S at *
      have HS : Hid (absorbTo bs st 17 = S) := hS
      clear hS h hB
      go_wp2_with fail
      go_loopw [23] (fun i wr => ∃ k : Nat, k ≤ 24 ∧ i = .int .i64 (k : Int) ∧ St wr b (roundsTo S k) ∧ w.grownBy wr (some b)) (fun i _ => 24 - (intOf i).toNat)
      case atStart => exact ⟨0, by omega, rfl, hst, hg⟩
      case round =>
        clear hst hg
        obtain ⟨k, hk, rfl, hst, hg⟩ := hrel
        by_cases hlt : k < 24
        · have hT := ht.grown hg hb
          have t0 := hT.nums k hlt
          generalize hn : roundNumbersT.getD k 0 = n at *
          have HN : Hid (roundNumbersT.getD k 0 = n) := hn
          generalize hR : roundsTo S k = R at *
          have HR : Hid (roundsTo S k = R) := hR
          clear hn hR ht
          have i1 : (k : Int) < 24 := by omega
          go_wp2_with fail
          refine (round_any _ b hb R n hst hT).mono ?_
          rintro e w1 ⟨rfl, h1, g1⟩
          clear hT t0
          go_wp2_with fail
          go_roundw
          case rel =>
            have hnew : St w1 b (roundsTo S (k + 1)) := by simp only [roundsTo, HR.out, HN.out]; exact h1
            repeat apply Exists.intro
            exact ⟨⟨k + 1, by omega, by go_num, hnew, grown_trans hg g1⟩, rfl⟩
          case measure => simp [intOf]; omega
        · obtain rfl : k = 24 := by omega
          go_wp2
          go_end0
          refine ⟨rfl, ?_, hg⟩
          rw [HS.out]
          exact hst
end Go.Proofs.YtljdconhplgipabDoor

/-
  Bytes in memory: rows of the call's own, slices as they are handed over, make and copy.
-/
namespace Go.Proofs.YtljdconhplgipabDoor
open Go.RowKit
section
variable {w : World} {b : Nat} {bs : List UInt8}
end

end Go.Proofs.YtljdconhplgipabDoor

/-
  The walk that writes the digest's bytes.
-/
namespace Go.Proofs.YtljdconhplgipabDoor
open Go.RowKit
/-- The digest's byte i. -/
def outByte (st : List (BitVec 64)) (i : Nat) : UInt8 := UInt8.ofNat ((st.getD (i / 8) 0 >>> (i % 8 * 8)).toNat)
def outTo (st : List (BitVec 64)) : Nat → List UInt8
  | 0 => List.replicate 32 0
  | k + 1 => (outTo st k).set k (outByte st k)
theorem outTo_len (st : List (BitVec 64)) (k : Nat) : (outTo st k).length = 32 := by
  induction k with
  | zero => rfl
  | succ k ih => simp [outTo, ih]
theorem mod_u8_U (x : BitVec 64) : U x % 256 = ((UInt8.ofNat x.toNat).toNat : Int) := by
  unfold U; simp
set_option maxRecDepth 100000 in
set_option maxHeartbeats 1000000 in
theorem out_any (w : World) (b : Nat) (st : List (BitVec 64)) (h : St w b st) :
    Calls Tryd.prog 89 #[.pointer (some ⟨b, 0, none⟩)] w fun e w' => e = .returned (.slice (some ⟨w.heap.size, 0, none⟩) 32 32) ∧ Bytes w' w.heap.size (outTo st 32) ∧ w.grownBy w' none := by
  have hmk : ∀ w, (Instr.makeSlice 30 (.int .i64 32) (.int .i64 32)).run Tryd.prog w = .ok (.slice (some ⟨w.heap.size, 0, none⟩) 32 32) (w.alloc (.cells (bytesOf (List.replicate 32 0)) 5)) := fun _ => by kernel_rfl
  have hbn : b ≠ w.heap.size := Nat.ne_of_lt h.lt
  go_enter Tryd.func89, Tryd.ntmps89
  go_wp2_with fail
  go_loopw [8] (fun i wr => ∃ k : Nat, k ≤ 32 ∧ i = .int .i64 (k : Int) ∧ St wr b st ∧ Bytes wr w.heap.size (outTo st k) ∧ w.grownBy wr none) (fun i _ => 32 - (intOf i).toNat)
  case atStart => exact ⟨0, by omega, rfl, h.alloc _, Bytes.new w 5 _, grown_alloc (grown_refl _ _) _⟩
  case round =>
    obtain ⟨k, hk, rfl, hst, ho, hg⟩ := hrel
    clear hmk
    by_cases hlt : k < 32
    · have c := hst.cell (k / 8) (by omega)
      have d := ho.cell k (by rw [outTo_len]; exact hlt)
      have hf := ho.frozen k
      generalize hS : outTo st k = S at *
      have HS : Hid (outTo st k = S) := hS
      generalize hx : st.getD (k / 8) 0 = x at *
      have HX : Hid (st.getD (k / 8) 0 = x) := hx
      clear hS hx h
      have i1 : (k : Int) < 32 := by omega
      have e1 : ((k : Int) / 8).toNat = k / 8 := by omega
      have e2 : ((k : Int) % 8 * 8).toNat = k % 8 * 8 := by omega
      have i2 : (k : Int) / 8 < 25 := by omega
      go_wp2
      go_roundw
      case rel =>
        have eb : ((UInt8.ofNat (x >>> (k % 8 * 8)).toNat).toNat : Int) = (outByte st k).toNat := by rw [← HX.out]; rfl
        rw [div_shr_U, mod_u8_U, eb]
        refine ⟨k + 1, by omega, by go_num, hst.setOther _ hbn _ _, ?_, grown_setNew hg _ (Nat.le_refl _) _ _⟩
        simp only [outTo, HS.out]
        exact ho.set k _
      case measure => simp [intOf]; omega
    · obtain rfl : k = 32 := by omega
      go_wp2
      go_ret
      exact ⟨rfl, ho, hg⟩
end Go.Proofs.YtljdconhplgipabDoor

/-
  The walk of the padding.
-/
namespace Go.Proofs.YtljdconhplgipabDoor
open Go.RowKit
def padLen (n : Nat) : Nat := (n / 136 + 1) * 136
def padMark (bs : List UInt8) : List UInt8 := (bs ++ zeros (padLen bs.length - bs.length)).set bs.length 6
/-- What stands behind the bytes. -/
def padF (bs : List UInt8) : List UInt8 := (padMark bs).set (padLen bs.length - 1) ((padMark bs).getD (padLen bs.length - 1) 0 ||| 128)
theorem padMark_len (bs : List UInt8) : (padMark bs).length = padLen bs.length := by
  simp [padMark, zeros_len]; unfold padLen; omega
theorem padF_len (bs : List UInt8) : (padF bs).length = padLen bs.length := by simp [padF, padMark_len]
theorem or128 (c : UInt8) : bits .or .u8 ((c.toNat : Nat) : Int) 128 = ((c ||| 128).toNat : Int) := by
  have h : ∀ c : Fin 256, bits .or .u8 ((c.1 : Nat) : Int) 128 = (((UInt8.ofNat c.1) ||| 128).toNat : Int) := by decide +kernel
  have := h ⟨c.toNat, c.toNat_lt⟩
  simpa using this
set_option maxRecDepth 100000 in
set_option maxHeartbeats 1000000 in
theorem pad_any (w : World) (v : Value) (bs : List UInt8) (hv : SliceIs w v bs) (hl : bs.length ≤ 4000) :
    Calls Tryd.prog 87 #[v] w fun e w' => e = .returned (.slice (some ⟨w.heap.size, 0, none⟩) (padLen bs.length) (padLen bs.length)) ∧ Bytes w' w.heap.size (padF bs) ∧ w.grownBy w' none := by
  obtain ⟨a, cap, rfl, hc, hrest⟩ := hv
  have hv : SliceIs w (.slice a bs.length cap) bs := ⟨a, cap, rfl, hc, hrest⟩
  clear hrest
  have hmk := fun W => make_bytes W (((bs.length : Int) / 136 + 1) * 136) (padLen bs.length) (by unfold padLen; omega) (by unfold padLen; omega)
  have hN : bs.length < padLen bs.length := by unfold padLen; omega
  have hcp := fun ty => copy_bytes w a bs cap (padLen bs.length) (padLen bs.length) ty (by omega) hv
  have hmax : padLen bs.length ≤ 4080 := by unfold padLen; omega
  have hpl := padMark_len bs
  have HP : Hid (padMark bs = (bs ++ zeros (padLen bs.length - bs.length)).set bs.length 6) := rfl
  have HF : Hid (padF bs = (padMark bs).set (padLen bs.length - 1) ((padMark bs).getD (padLen bs.length - 1) 0 ||| 128)) := rfl
  have hb1 := Bytes.new w 5 (bs ++ zeros (padLen bs.length - bs.length))
  have hbl : (bs ++ zeros (padLen bs.length - bs.length)).length = padLen bs.length := by simp [zeros_len]; omega
  generalize bs ++ zeros (padLen bs.length - bs.length) = B1 at *
  generalize padMark bs = B2 at *
  generalize padF bs = B3 at *
  generalize padLen bs.length = N at *
  generalize bs.length = n at *
  have HPL : Hid (B2.length = N) := hpl
  have HBL : Hid (B1.length = N) := hbl
  clear hpl hbl hv hc
  have HB1 : Hid (Bytes (w.alloc (.cells (bytesOf B1) 5)) w.heap.size B1) := hb1
  clear hb1
  go_enter Tryd.func87, Tryd.ntmps87
  go_upto_region 3 with fail
  clear hmk hcp
  have hg1 : w.grownBy (w.alloc (.cells (bytesOf B1) 5)) none := World.grownBy_alloc _ _ _
  generalize w.alloc (.cells (bytesOf B1) 5) = W1 at *
  have c0 := HB1.out.cell n (by rw [HBL.out]; exact hN)
  have f0 := HB1.out.frozen n
  have i0 : (n : Int) < (N : Int) := by omega
  go_upto_region 4 with fail
  clear c0 f0
  have HB2 : Hid (Bytes (W1.setCell ⟨w.heap.size, n, none⟩ (.int .u8 6)) w.heap.size B2) := by show Bytes _ _ _; rw [HP.out]; exact HB1.out.set n 6
  have hg2 : w.grownBy (W1.setCell ⟨w.heap.size, n, none⟩ (.int .u8 6)) none := grown_setNew hg1 _ (Nat.le_refl _) _ _
  generalize W1.setCell ⟨w.heap.size, n, none⟩ (.int .u8 6) = W2 at *
  clear hg1 HB1 HP HBL
  have c0 := HB2.out.cell (N - 1) (by rw [HPL.out]; omega)
  have f0 := HB2.out.frozen (N - 1)
  generalize hx : B2.getD (N - 1) 0 = x at *
  have i1 : (N : Int) - 1 < (N : Int) := by omega
  have i2 : (0 : Int) ≤ (N : Int) - 1 := by omega
  have e1 : ((N : Int) - 1).toNat = N - 1 := by omega
  go_wp2
  go_ret
  rw [or128]
  refine ⟨rfl, ?_, grown_setNew hg2 _ (Nat.le_refl _) _ _⟩
  rw [HF.out]
  exact HB2.out.set (N - 1) _
end Go.Proofs.YtljdconhplgipabDoor

/-
  The walk of digest.Sum.
-/
namespace Go.Proofs.YtljdconhplgipabDoor
open Go.RowKit
/-- A slice's length. -/
def sliceLen : Value → Nat | .slice _ n _ => n | _ => 0
def zero25 : List (BitVec 64) := List.replicate 25 0
def blockAt (p : List UInt8) (k : Nat) : List UInt8 := (p.drop (136 * k)).take 136
def spongeTo (p : List UInt8) : Nat → List (BitVec 64)
  | 0 => zero25
  | k + 1 => roundsTo (absorbTo (blockAt p k) (spongeTo p k) 17) 24
/-- The digest of bytes, as the program reckons it. -/
def sumF (bs : List UInt8) : List UInt8 := outTo (spongeTo (padF bs) (bs.length / 136 + 1)) 32
theorem sumF_len (bs : List UInt8) : (sumF bs).length = 32 := outTo_len _ _
theorem Tabs.size {w : World} (h : Tabs w) : 4 ≤ w.heap.size := by
  have := World.block_lt_of_cell? w _ (h.turns 0 (by omega))
  exact this
theorem Tabs.grownNone {w w' : World} (h : Tabs w) (hg : w.grownBy w' none) : Tabs w' :=
  ⟨fun i hi => hg.cell (h.nums i hi) (by simp), fun i hi => hg.cell (h.walk i hi) (by simp), fun i hi => hg.cell (h.turns i hi) (by simp)⟩
theorem blockAt_len (p : List UInt8) (k : Nat) (h : 136 * k + 136 ≤ p.length) : (blockAt p k).length = 136 := by
  simp [blockAt]; omega
theorem Bytes.block {w : World} {b : Nat} {p : List UInt8} (h : Bytes w b p) (k : Nat) (hk : 136 * k + 136 ≤ p.length) : BytesAt w b (136 * k) (blockAt p k) := by
  refine h.at _ _ fun i hi => ?_
  rw [blockAt_len p k hk] at hi
  refine ⟨by omega, ?_⟩
  simp [blockAt, hi]
theorem sum_long (w : World) (a : Option Addr) (n cap : Nat) (hn : 4000 < n) :
    Calls Tryd.prog 69 #[.slice a n cap] w fun e w' => e = .returned (.tuple #[.slice none 0 0, .int .i64 1]) ∧ w' = w := by
  have h1 : (4000 : Int) < (n : Int) := by omega
  go_enter Tryd.func69, Tryd.ntmps69
  go_wp2
  go_ret2
  exact ⟨rfl, rfl⟩
set_option maxRecDepth 100000 in
set_option maxHeartbeats 1000000 in
theorem sum_core (w : World) (a : Option Addr) (n cap : Nat) (hl : n ≤ 4000) (ht : Tabs w) (PF : List UInt8) (M : Nat) (hM : M ≤ 30) (HPL : Hid (PF.length = 136 * M))
    (HPAD : Hid (Calls Tryd.prog 87 #[.slice a n cap] (w.alloc (.cells (lanesOf zero25) 133)) fun e w' => e = .returned (.slice (some ⟨w.heap.size + 1, 0, none⟩) (136 * M) (136 * M)) ∧ Bytes w' (w.heap.size + 1) PF ∧ (w.alloc (.cells (lanesOf zero25) 133)).grownBy w' none)) :
    Calls Tryd.prog 69 #[.slice a n cap] w fun e w' => ∃ nb, w.heap.size ≤ nb ∧ e = .returned (.tuple #[.slice (some ⟨nb, 0, none⟩) 32 32, .int .i64 0]) ∧ Bytes w' nb (outTo (spongeTo PF M) 32) ∧ w.grownBy w' none := by
  have h1 : ¬ (4000 : Int) < (n : Int) := by omega
  have h3 := ht.size
  have ez : lanesOf zero25 = #[Value.int IntKind.u64 0, Value.int IntKind.u64 0, Value.int IntKind.u64 0, Value.int IntKind.u64 0, Value.int IntKind.u64 0, Value.int IntKind.u64 0, Value.int IntKind.u64 0, Value.int IntKind.u64 0, Value.int IntKind.u64 0, Value.int IntKind.u64 0, Value.int IntKind.u64 0, Value.int IntKind.u64 0, Value.int IntKind.u64 0, Value.int IntKind.u64 0, Value.int IntKind.u64 0, Value.int IntKind.u64 0, Value.int IntKind.u64 0, Value.int IntKind.u64 0, Value.int IntKind.u64 0, Value.int IntKind.u64 0, Value.int IntKind.u64 0, Value.int IntKind.u64 0, Value.int IntKind.u64 0, Value.int IntKind.u64 0, Value.int IntKind.u64 0] := rfl
  have HS0 : Hid (Lanes 25 (w.alloc (.cells (lanesOf zero25) 133)) w.heap.size zero25) := Lanes.new (n := 25) w 133 zero25 rfl
  have HG0 : Hid (w.grownBy (w.alloc (.cells (lanesOf zero25) 133)) none) := World.grownBy_alloc _ _ _
  go_enter Tryd.func69, Tryd.ntmps69
  go_wp2_with fail
  rw [← ez]
  clear ez
  refine HPAD.out.mono ?_
  rintro e w1 ⟨rfl, hb, hg⟩
  have hst1 := HS0.out.grown hg (by simp)
  have hg1 := grown_trans HG0.out hg
  have HSW : Hid (w.heap.size + 1 < w1.heap.size) := hb.lt
  clear HPAD HS0 HG0 hg h1
  go_wp2_with fail
  go_loopw [5] (fun r wr => ∃ k off : Nat, k ≤ M ∧ r = .slice (some ⟨w.heap.size + 1, off, none⟩) (136 * (M - k)) (136 * (M - k)) ∧ (k < M → off = 136 * k) ∧ St wr w.heap.size (spongeTo PF k) ∧ Bytes wr (w.heap.size + 1) PF ∧ w.grownBy wr none) (fun r _ => sliceLen r)
  case atStart => exact ⟨0, 0, by omega, rfl, fun _ => rfl, hst1, hb, hg1⟩
  case round =>
    clear hst1 hb hg1
    obtain ⟨k, off, hk, rfl, hoff, hst, hb, hg⟩ := hrel
    by_cases hlt : k < M
    · obtain rfl := hoff hlt
      have hblk := hb.block k (by rw [HPL.out]; omega)
      have hbl := blockAt_len PF k (by rw [HPL.out]; omega)
      have HL : Hid (136 * (M - k) = 136 * (M - (k + 1)) + 136) := by show _ = _; omega
      have hL1 : 136 ≤ 136 * (M - k) := by omega
      have hL2 : 136 * (M - k) ≤ 4080 := by omega
      generalize 136 * (M - k) = L at *
      have p1 : (0 : Int) < (L : Int) := by omega
      have p2 : (136 : Int) ≤ (L : Int) := by omega
      have hT := ht.grownNone hg
      have htk := fun cap hc hm => take_any wr w.heap.size h3 (spongeTo PF k) hst hT (w.heap.size + 1) (136 * k) cap (by omega) hc hm (blockAt PF k) hbl hblk
      have HTK : Hid (∀ cap, 136 ≤ cap → cap ≤ 1000000 → Calls Tryd.prog 88 #[.pointer (some ⟨w.heap.size, 0, none⟩), .slice (some ⟨w.heap.size + 1, 136 * k, none⟩) 136 cap] wr fun e w' => e = .returned (.tuple #[]) ∧ St w' w.heap.size (roundsTo (absorbTo (blockAt PF k) (spongeTo PF k) 17) 24) ∧ wr.grownBy w' (some w.heap.size)) := htk
      clear htk hblk hbl hT ht
      by_cases h136 : L = 136
      · subst h136
        have HM : Hid (M = k + 1) := by show _ = _; have := HL.out; omega
        go_wp2_with fail
        refine (HTK.out _ (by omega) (by omega)).mono ?_
        rintro e w2 ⟨rfl, hst2, hg2⟩
        clear HTK hst
        have hb2 := hb.grown hg2 (by simp)
        have hg3 := grown_new hg (Nat.le_refl _) hg2
        clear hb hg hg2
        go_wp2_with fail
        go_roundw
        case rel => exact ⟨k + 1, 136 * k, by omega, by rw [HM.out, Nat.sub_self], fun h => absurd h (by rw [HM.out]; omega), hst2, hb2, hg3⟩
        case measure => simp [sliceLen]
      · have p3 : ¬ (L : Int) = 136 := by omega
        go_wp2_with fail
        refine (HTK.out _ (by omega) (by omega)).mono ?_
        rintro e w2 ⟨rfl, hst2, hg2⟩
        clear HTK hst
        have hb2 := hb.grown hg2 (by simp)
        have hg3 := grown_new hg (Nat.le_refl _) hg2
        clear hb hg hg2
        go_wp2_with fail
        go_roundw
        case rel =>
          have e : L - 136 = 136 * (M - (k + 1)) := by have := HL.out; omega
          rw [e]
          exact ⟨k + 1, 136 * k + 136, by omega, rfl, fun _ => by omega, hst2, hb2, hg3⟩
        case measure => simp only [sliceLen]; omega
    · obtain rfl : k = M := by omega
      have HO := out_any wr w.heap.size (spongeTo PF k) hst
      rw [show 136 * (k - k) = 0 by omega]
      go_wp2_with fail
      refine HO.mono ?_
      rintro e w2 ⟨rfl, hb2, hg2⟩
      go_wp2
      go_ret2
      exact ⟨wr.heap.size, hg.size, rfl, hb2, grown_trans hg hg2⟩
theorem sum_any (w : World) (v : Value) (bs : List UInt8) (hv : SliceIs w v bs) (hl : bs.length ≤ 4000) (ht : Tabs w) :
    Calls Tryd.prog 69 #[v] w fun e w' => ∃ nb, w.heap.size ≤ nb ∧ e = .returned (.tuple #[.slice (some ⟨nb, 0, none⟩) 32 32, .int .i64 0]) ∧ Bytes w' nb (sumF bs) ∧ w.grownBy w' none := by
  obtain ⟨a, cap, rfl, hc, hrest⟩ := hv
  have hv : SliceIs w (.slice a bs.length cap) bs := ⟨a, cap, rfl, hc, hrest⟩
  have hN : padLen bs.length = 136 * (bs.length / 136 + 1) := by unfold padLen; omega
  have hpad := pad_any _ _ bs (hv.alloc (.cells (lanesOf zero25) 133)) hl
  have hsz : (w.alloc (.cells (lanesOf zero25) 133)).heap.size = w.heap.size + 1 := by simp
  rw [hN, hsz] at hpad
  exact sum_core w a bs.length cap hl ht (padF bs) (bs.length / 136 + 1) (by omega) (by show (padF bs).length = _; rw [padF_len, hN]) hpad
end Go.Proofs.YtljdconhplgipabDoor

/-
  Slices of bytes that the call itself has made: what append leaves; a prefix of a slice.
-/
namespace Go.Proofs.YtljdconhplgipabDoor
open Go.RowKit

end Go.Proofs.YtljdconhplgipabDoor

/-
  The walk of digest.Parts.
-/
namespace Go.Proofs.YtljdconhplgipabDoor
open Go.RowKit
/-- A list of slices of bytes, as it is handed over. -/
def ListIs (w : World) (v : Value) (ps : List (List UInt8)) : Prop :=
  ∃ a cap, v = .slice a ps.length cap ∧ ps.length ≤ cap ∧ (ps = [] ∨ ∃ b o, a = some ⟨b, o, none⟩ ∧ ∀ i, i < ps.length → ∃ vi, w.cell? ⟨b, o + i, none⟩ = some vi ∧ SliceIs w vi (ps.getD i []))
/-- A part behind its length. -/
def jpartF (p : List UInt8) : List UInt8 := UInt8.ofNat (p.length / 256) :: UInt8.ofNat p.length :: p
def joinF (k : UInt8) (ps : List (List UInt8)) : List UInt8 := k :: ps.flatMap jpartF
theorem jpartF_len (p : List UInt8) : (jpartF p).length = p.length + 2 := by simp [jpartF]
theorem joinF_snoc (k : UInt8) (ps : List (List UInt8)) (p : List UInt8) : joinF k (ps ++ [p]) = joinF k ps ++ jpartF p := by simp [joinF]
theorem joinF_take (k : UInt8) (ps : List (List UInt8)) (i : Nat) (h : i < ps.length) : joinF k (ps.take (i + 1)) = joinF k (ps.take i) ++ jpartF (ps.getD i []) := by
  rw [List.take_succ_eq_append_getElem h, joinF_snoc]
  simp [h]
theorem joinF_mono (k : UInt8) (ps : List (List UInt8)) (i : Nat) : (joinF k (ps.take i)).length ≤ (joinF k ps).length := by
  have : joinF k ps = joinF k (ps.take i) ++ (ps.drop i).flatMap jpartF := by
    unfold joinF
    rw [List.cons_append, ← List.flatMap_append, List.take_append_drop]
  rw [this]; simp
set_option maxRecDepth 100000 in
set_option maxHeartbeats 1000000 in
theorem parts_any (w : World) (k : UInt8) (v : Value) (ps : List (List UInt8)) (hv : ListIs w v ps) (hm : ps.length ≤ maxLen) (hms : ∀ i, i < ps.length → (ps.getD i []).length ≤ maxLen) (ht : Tabs w) :
    Calls Tryd.prog 54 #[.int .u8 (k.toNat : Int), v] w fun e w' => w.grownBy w' none ∧
      (((joinF k ps).length ≤ 4000 ∧ ∃ nb, w.heap.size ≤ nb ∧ e = .returned (.tuple #[.slice (some ⟨nb, 0, none⟩) 32 32, .int .i64 0]) ∧ Bytes w' nb (sumF (joinF k ps))) ∨
       (4000 < (joinF k ps).length ∧ e = .returned (.tuple #[.slice none 0 0, .int .i64 1]))) := by
  obtain ⟨a, cap, rfl, hc, hps⟩ := hv
  unfold maxLen at hm
  go_enter Tryd.func54, Tryd.ntmps54
  go_wp2_with fail
  go_loopw [6, 13] (fun j i wr => ∃ m : Nat, m ≤ ps.length ∧ i = .int .i64 (m : Int) ∧ Own w.heap.size wr j (joinF k (ps.take m)) ∧ (joinF k (ps.take m)).length ≤ 4000 ∧ w.grownBy wr none) (fun _ i _ => ps.length - (intOf i).toNat)
  case atStart => exact ⟨0, by omega, rfl, own_new w.heap.size w [k] (Nat.le_refl _) (by unfold maxLen; simp), by simp [joinF], grown_alloc (grown_refl _ _) _⟩
  case round =>
    obtain ⟨m, hmn, rfl, hown, hlen, hg⟩ := hrel
    obtain ⟨ja, jcap, rfl⟩ := hown.shape
    by_cases hlt : m < ps.length
    · obtain ⟨b, o, rfl, hcells⟩ : ∃ b o, a = some ⟨b, o, none⟩ ∧ ∀ i, i < ps.length → ∃ vi, w.cell? ⟨b, o + i, none⟩ = some vi ∧ SliceIs w vi (ps.getD i []) := by
        rcases hps with rfl | h
        · simp at hlt
        · exact h
      obtain ⟨vi, hvi, hsi⟩ := hcells m hlt
      have hpm := hms m hlt
      have HT : Hid (joinF k (ps.take (m + 1)) = joinF k (ps.take m) ++ jpartF (ps.getD m [])) := joinF_take k ps m hlt
      have HM : Hid ((joinF k (ps.take (m + 1))).length ≤ (joinF k ps).length) := joinF_mono k ps (m + 1)
      have hci := hg.cell hvi (by simp)
      generalize ps.getD m [] = P at *
      obtain ⟨pa, pcap, rfl, hpc, hpr⟩ := hsi
      have hsi : SliceIs w (.slice pa P.length pcap) P := ⟨pa, pcap, rfl, hpc, hpr⟩
      have HSI : Hid (SliceIs w (.slice pa P.length pcap) P) := hsi
      have hsz := hg.size
      have HI : Hid ((joinF k (ps.take m)).length ≤ 4000) := hlen
      generalize joinF k (ps.take m) = J at *
      have HPS : Hid (w.heap.size ≤ wr.heap.size) := hsz
      unfold maxLen at hpm
      clear hcells hvi hsi hpr hps hms hsz ht
      have i1 : (m : Int) < (ps.length : Int) := by omega
      by_cases hfit : P.length + 2 + J.length ≤ 4000
      · have i2 : (P.length : Int) ≤ 3998 - (J.length : Int) := by omega
        have HB1 : Hid (SliceIs (wr.alloc (.cells #[.int .u8 ((P.length : Int) / 256), .int .u8 ((P.length : Int) % 256)] 5)) (.slice (some ⟨wr.heap.size, 0, none⟩) 2 2) [UInt8.ofNat (P.length / 256), UInt8.ofNat P.length]) := by
          have e1 : ((P.length : Int) / 256) = ((UInt8.ofNat (P.length / 256)).toNat : Int) := by simp; omega
          have e2 : ((P.length : Int) % 256) = ((UInt8.ofNat P.length).toNat : Int) := by simp
          rw [e1, e2]
          exact two_slice _ _ _ _
        go_upto_region 8 with (at_builtin; refine wpList_append_bytes rfl (.tmp 23) (.tmp 31) rfl w.heap.size (.slice ja J.length jcap) J rfl (hown.alloc _) (some ⟨wr.heap.size, 0, none⟩) 2 2 _ rfl HB1.out (by omega) (by have := HPS.out; simp; omega) ?_; intro v1 w1 ho1 hg1)
        have hgw := grown_own (grown_alloc hg _) (hown.alloc _) hg1
        have HS1 : Hid (SliceIs w1 (.slice pa P.length pcap) P) := HSI.out.grown hgw
        have hsw := hgw.size
        obtain ⟨va, vcap, rfl⟩ := ho1.shape
        clear hown hci hg hg1 HB1 HSI HPS
        go_wp2_with (at_builtin; refine wpList_append_bytes rfl (.tmp 33) (.tmp 34) rfl w.heap.size _ _ rfl ho1 pa P.length pcap P rfl HS1.out (by simp; omega) hsw ?_; intro v2 w2 ho2 hg2)
        have hgw2 := grown_own hgw ho1 hg2
        go_roundw
        case rel =>
          have e : joinF k (ps.take (m + 1)) = J ++ [UInt8.ofNat (P.length / 256), UInt8.ofNat P.length] ++ P := by rw [HT.out]; simp [jpartF]
          refine ⟨m + 1, by omega, by go_num, ?_, ?_, hgw2⟩
          · rw [e]; exact ho2
          · rw [e]; simp; omega
        case measure => simp [intOf]; omega
      · have i2 : 3998 - (J.length : Int) < (P.length : Int) := by omega
        go_wp2
        go_ret2
        refine ⟨hg, .inr ⟨?_, rfl⟩⟩
        have h1 := HM.out
        rw [HT.out] at h1
        simp [jpartF_len] at h1
        omega
    · obtain rfl : m = ps.length := by omega
      rw [List.take_length] at hown hlen
      have hS := sum_any wr _ _ hown.slice hlen (ht.grownNone hg)
      go_wp2_with fail
      refine hS.mono ?_
      rintro e w2 ⟨nb, hnb, rfl, hb2, hg2⟩
      go_wp2
      go_ret2
      exact ⟨grown_trans hg hg2, .inl ⟨hlen, nb, Nat.le_trans hg.size hnb, rfl, hb2⟩⟩
end Go.Proofs.YtljdconhplgipabDoor
