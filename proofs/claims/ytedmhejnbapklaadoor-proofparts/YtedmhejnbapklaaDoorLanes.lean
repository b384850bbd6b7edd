/-
  The state of the digest in memory, and the walks of bits.RotateLeft64 and of the rows' mixing.
-/
import Derived.Test.YtedmhejnbapklaaDoorChecked
import Derived.Test.YtedmhejnbapklaaDoorBits
import Derived.WalkKit
import Derived.WalkSpells
import Derived.WalkLawsBesides
import Derived.BigRegion
import Derived.Deep.QuietTactic
import Derived.BigQuiet
import Derived.Deep.RegionHeld3
import Derived.Deep.DeepCutAuto
import Derived.Test.YtedmhejnbapklaaDoorBase
namespace Go.Proofs.YtedmhejnbapklaaDoor
open Go.RowKit
theorem rot_any (x : BitVec 64) (k : Int) (h0 : 0 ≤ k) (h : k < 64) (w : World) :
    Calls Tryd.prog 96 #[.int .u64 (U x), .int .i64 k] w fun e w' => e = .returned (.int .u64 (U (rotl x k.toNat))) ∧ w' = w := by
  have h63 := and63 k h0 h
  go_enter Tryd.func96, Tryd.ntmps96
  go_wp2
  go_ret
  refine ⟨?_, rfl⟩
  rw [show (64 - k).toNat = 64 - k.toNat by omega, wrap_shl_U, div_shr_U, bits_or_U]
  rfl

def lanesOf (st : List (BitVec 64)) : Array Value := (st.map fun x => Value.int .u64 (U x)).toArray
/-- Block b holds n lanes. -/
structure Lanes (n : Nat) (w : World) (b : Nat) (st : List (BitVec 64)) : Prop where
  len : st.length = n
  blk : ∃ t, w.heap[b]? = some (.cells (lanesOf st) t (0, 0))
section
variable {n : Nat} {w : World} {b : Nat} {st : List (BitVec 64)}
theorem Lanes.cell (h : Lanes n w b st) (i : Nat) (hi : i < n) : w.cell? ⟨b, i, none⟩ = some (.int .u64 (U (st.getD i 0))) := by
  obtain ⟨t, hb⟩ := h.blk
  simp [World.cell?, hb, lanesOf, List.getElem?_map, List.getElem?_eq_getElem (show i < st.length by have := h.len; omega)]
theorem Lanes.frozen (h : Lanes n w b st) (i : Nat) : w.frozen? ⟨b, i, none⟩ = false := by
  obtain ⟨t, hb⟩ := h.blk
  simp [World.frozen?, hb]
theorem Lanes.lt (h : Lanes n w b st) : b < w.heap.size := by
  obtain ⟨t, hb⟩ := h.blk
  exact (Array.getElem?_eq_some_iff.1 hb).1
theorem lanesOf_set (st : List (BitVec 64)) (i : Nat) (x : BitVec 64) : (lanesOf st).setIfInBounds i (.int .u64 (U x)) = lanesOf (st.set i x) := by
  simp [lanesOf]
theorem Lanes.set (h : Lanes n w b st) (i : Nat) (x : BitVec 64) : Lanes n (w.setCell ⟨b, i, none⟩ (.int .u64 (U x))) b (st.set i x) := by
  obtain ⟨t, hb⟩ := h.blk
  refine ⟨by simp [h.len], t, ?_⟩
  simp only [World.setCell, Array.getElem?_modify, if_true, hb, Option.map_some]
  simp [lanesOf_set]
theorem Lanes.setOther (h : Lanes n w b st) (c : Nat) (hc : b ≠ c) (i : Nat) (v : Value) : Lanes n (w.setCell ⟨c, i, none⟩ v) b st := by
  obtain ⟨t, hb⟩ := h.blk
  exact ⟨h.len, t, by rw [Below.heap_setCell _ _ _ _ hc]; exact hb⟩
theorem Lanes.drewN (h : Lanes n w b st) (k : Nat) : Lanes n (w.drewN k) b st := ⟨h.len, h.blk⟩
theorem Lanes.drew (h : Lanes n w b st) : Lanes n w.drew b st := ⟨h.len, h.blk⟩
theorem Lanes.alloc (h : Lanes n w b st) (o : Obj) : Lanes n (w.alloc o) b st := by
  obtain ⟨t, hb⟩ := h.blk
  exact ⟨h.len, t, by rw [Below.heap_alloc _ _ _ h.lt]; exact hb⟩
theorem Lanes.grown (h : Lanes n w b st) {w' : World} {r : Option Nat} (hg : w.grownBy w' r) (hr : some b ≠ r) : Lanes n w' b st := by
  obtain ⟨t, hb⟩ := h.blk
  exact ⟨h.len, t, by rw [hg.block b h.lt hr]; exact hb⟩
theorem Lanes.new (w : World) (t : TypeId) (st : List (BitVec 64)) (hl : st.length = n) : Lanes n (w.alloc (.cells (lanesOf st) t)) w.heap.size st :=
  ⟨hl, t, heap_alloc_new w _⟩
end
abbrev St := Lanes 25

def rowStep (st : List (BitVec 64)) (n : Nat) : List (BitVec 64) :=
  let a := st.getD n 0
  let b := st.getD (n + 1) 0
  let c := st.getD (n + 2) 0
  let d := st.getD (n + 3) 0
  let e := st.getD (n + 4) 0
  ((((st.set n (a ^^^ (c &&& ~~~b))).set (n + 1) (b ^^^ (d &&& ~~~c))).set (n + 2) (c ^^^ (e &&& ~~~d))).set (n + 3) (d ^^^ (a &&& ~~~e))).set (n + 4) (e ^^^ (b &&& ~~~a))
def rowsTo (st : List (BitVec 64)) : Nat → List (BitVec 64)
  | 0 => st
  | k + 1 => rowStep (rowsTo st k) (5 * k)
set_option maxRecDepth 100000 in
set_option maxHeartbeats 1000000 in
theorem rows_any (w : World) (b : Nat) (st : List (BitVec 64)) (h : St w b st) :
    Calls Tryd.prog 95 #[.pointer (some ⟨b, 0, none⟩)] w fun e w' => e = .returned (.tuple #[]) ∧ St w' b (rowsTo st 5) ∧ w.grownBy w' (some b) := by
  go_enter Tryd.func95, Tryd.ntmps95
  go_wp2
  go_loopw [2] (fun y wr => ∃ k : Nat, k ≤ 5 ∧ y = .int .i64 ((5 * k : Nat) : Int) ∧ St wr b (rowsTo st k) ∧ w.grownBy wr (some b)) (fun y _ => 25 - (intOf y).toNat)
  case atStart => exact ⟨0, by omega, rfl, h, grown_refl _ _⟩
  case round =>
    obtain ⟨k, hk, rfl, hst, hg⟩ := hrel
    by_cases hlt : k < 5
    · generalize hn : 5 * k = n
      have HN : Hid (5 * k = n) := hn
      clear hn
      have h25 : n + 4 < 25 := by have := HN.out; omega
      have hc := hst.cell
      have hf := hst.frozen
      have c0 := hc n (by omega)
      have c1 := hc (n + 1) (by omega)
      have c2 := hc (n + 2) (by omega)
      have c3 := hc (n + 3) (by omega)
      have c4 := hc (n + 4) (by omega)
      clear hc
      generalize hS : rowsTo st k = S at *
      have HS : Hid (rowsTo st k = S) := hS
      clear hS
      generalize hA : S.getD n 0 = A at *
      generalize hB : S.getD (n + 1) 0 = B at *
      generalize hC : S.getD (n + 2) 0 = C at *
      generalize hD : S.getD (n + 3) 0 = D at *
      generalize hE : S.getD (n + 4) 0 = E at *
      have HA : Hid (S.getD n 0 = A) := hA
      have HB : Hid (S.getD (n + 1) 0 = B) := hB
      have HC : Hid (S.getD (n + 2) 0 = C) := hC
      have HD : Hid (S.getD (n + 3) 0 = D) := hD
      have HE : Hid (S.getD (n + 4) 0 = E) := hE
      clear hA hB hC hD hE
      have i1 : (n : Int) + 4 < 25 := by omega
      go_wp2
      go_quiet (fail)
      go_wp2
      go_roundw
      case rel =>
        refine ⟨k + 1, by omega, by have := HN.out; congr 1; omega, ?_, ?_⟩
        · rw [bits_andNot_U, bits_andNot_U, bits_andNot_U, bits_andNot_U, bits_andNot_U, bits_xor_U, bits_xor_U, bits_xor_U, bits_xor_U, bits_xor_U]
          have e : rowsTo st (k + 1) = ((((S.set n (A ^^^ (C &&& ~~~B))).set (n + 1) (B ^^^ (D &&& ~~~C))).set (n + 2) (C ^^^ (E &&& ~~~D))).set (n + 3) (D ^^^ (A &&& ~~~E))).set (n + 4) (E ^^^ (B &&& ~~~A)) := by
            simp only [rowsTo, rowStep, HS.out, HN.out, HA.out, HB.out, HC.out, HD.out, HE.out]
          rw [e]
          exact (((((hst.drewN nq).set n _).set (n + 1) _).set (n + 2) _).set (n + 3) _).set (n + 4) _
        · exact grown_set (grown_set (grown_set (grown_set (grown_set (grown_drewN hg nq) n _) (n + 1) _) (n + 2) _) (n + 3) _) (n + 4) _
      case measure => simp [intOf]; omega
    · obtain rfl : k = 5 := by omega
      go_wp2
      go_end0
      exact ⟨rfl, hst, hg⟩
end Go.Proofs.YtedmhejnbapklaaDoor
