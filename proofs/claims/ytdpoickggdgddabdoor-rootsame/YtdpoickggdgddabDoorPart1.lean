/-
  Texts of this proof, joined: Bits, Base, Lanes, Cols, Move, Round, Take, Mem, Out.
-/
import Derived.WalkKit
import Derived.Test.YtdpoickggdgddabDoorChecked
import Derived.WalkSpells
import Derived.WalkLawsBesides
import Derived.BigRegion
import Derived.Deep.QuietTactic
import Derived.BigQuiet
import Derived.Deep.RegionHeld3
import Derived.Deep.DeepCutAuto
import Derived.Lib.Strings
/-
  Lanes as words of 64 bits: how the model's arithmetic on uint64 looks there. No program is named.
-/
namespace Go.Proofs.YtdpoickggdgddabDoor
open Go.RowKit

/-- A lane, as the number that a slot holds. -/
def U (x : BitVec 64) : Int := (x.toNat : Int)
theorem U_nonneg (x : BitVec 64) : 0 ≤ U x := by unfold U; omega
theorem U_lt (x : BitVec 64) : U x < 18446744073709551616 := by unfold U; have := x.isLt; omega
theorem ofInt_U (x : BitVec 64) : BitVec.ofInt 64 (U x) = x := by
  unfold U; rw [BitVec.ofInt_natCast]; simp
theorem wrap_toNat (x : BitVec 64) : IntKind.u64.wrap (x.toNat : Int) = U x := by
  rw [IntKind.wrap_u64]; unfold U; have := x.isLt; omega
theorem bits_xor_U (x y : BitVec 64) : bits .xor .u64 (U x) (U y) = U (x ^^^ y) := by
  show IntKind.u64.wrap ((BitVec.ofInt 64 (U x) ^^^ BitVec.ofInt 64 (U y)).toNat : Int) = _
  rw [ofInt_U, ofInt_U, wrap_toNat]
theorem bits_or_U (x y : BitVec 64) : bits .or .u64 (U x) (U y) = U (x ||| y) := by
  show IntKind.u64.wrap ((BitVec.ofInt 64 (U x) ||| BitVec.ofInt 64 (U y)).toNat : Int) = _
  rw [ofInt_U, ofInt_U, wrap_toNat]
theorem bits_andNot_U (x y : BitVec 64) : bits .andNot .u64 (U x) (U y) = U (x &&& ~~~y) := by
  show IntKind.u64.wrap ((BitVec.ofInt 64 (U x) &&& ~~~ BitVec.ofInt 64 (U y)).toNat : Int) = _
  rw [ofInt_U, ofInt_U, wrap_toNat]
theorem wrap_shl_U (x : BitVec 64) (k : Nat) : IntKind.u64.wrap (U x * 2 ^ k) = U (x <<< k) := by
  rw [IntKind.wrap_u64]; unfold U
  rw [BitVec.toNat_shiftLeft, Nat.shiftLeft_eq]
  have e : ((x.toNat : Int) * 2 ^ k) = ((x.toNat * 2 ^ k : Nat) : Int) := by simp
  rw [e]; omega
theorem div_shr_U (x : BitVec 64) (k : Nat) : U x / 2 ^ k = U (x >>> k) := by
  unfold U
  rw [BitVec.toNat_ushiftRight, Nat.shiftRight_eq_div_pow]
  simp
theorem and63 (k : Int) (h0 : 0 ≤ k) (h : k < 64) : bits .and .u64 k 63 = k := by
  obtain ⟨n, rfl⟩ := Int.eq_ofNat_of_zero_le h0
  show IntKind.u64.wrap ((BitVec.ofInt 64 (n : Int) &&& BitVec.ofInt 64 63).toNat : Int) = _
  rw [BitVec.ofInt_natCast, BitVec.toNat_and]
  have h1 : (BitVec.ofNat 64 n).toNat = n := by rw [BitVec.toNat_ofNat]; omega
  have h2 : (BitVec.ofInt 64 63).toNat = 2 ^ 6 - 1 := by decide
  rw [h1, h2, Nat.and_two_pow_sub_one_eq_mod, IntKind.wrap_u64]
  omega

/-- Turned to the left. -/
def rotl (x : BitVec 64) (k : Nat) : BitVec 64 := (x <<< k) ||| (x >>> (64 - k))
theorem shift_shl_U (x : BitVec 64) (yk : IntKind) (k : Int) (h0 : 0 ≤ k) (h : k < 64) : Op.shift .shl .u64 (U x) yk k = pure (.int .u64 (U (x <<< k.toNat))) := by
  rw [shift_shl_any _ _ _ _ h0]
  have e : min k.toNat IntKind.u64.bits = k.toNat := by simp [IntKind.bits]; omega
  rw [e, wrap_shl_U]
theorem shift_shr_U (x : BitVec 64) (yk : IntKind) (k : Int) (h0 : 0 ≤ k) (h : k ≤ 64) : Op.shift .shr .u64 (U x) yk k = pure (.int .u64 (U (x >>> k.toNat))) := by
  rw [shift_shr_any _ _ _ _ h0]
  have e : min k.toNat IntKind.u64.bits = k.toNat := by simp [IntKind.bits]; omega
  rw [e, div_shr_U]
end Go.Proofs.YtdpoickggdgddabDoor

/-
  Bytes in memory, for every seat: rows of the call's own, slices as they are handed over, make, copy, append, texts of bytes. No function of the program is named.
-/
namespace Go.Proofs.YtdpoickggdgddabDoor
open Go.RowKit

theorem grown_refl (w : World) (r : Option Nat) : w.grownBy w r := ⟨rfl, rfl, rfl, Nat.le_refl _, fun _ _ _ => rfl⟩
theorem grown_trans {w w1 w2 : World} {r : Option Nat} (h : w.grownBy w1 r) (k : w1.grownBy w2 r) : w.grownBy w2 r :=
  ⟨k.os.trans h.os, k.tape.trans h.tape, k.output.trans h.output, Nat.le_trans h.size k.size, fun i hi hn => (k.block i (Nat.lt_of_lt_of_le hi h.size) hn).trans (h.block i hi hn)⟩
theorem grown_drew {w w1 : World} {r : Option Nat} (h : w.grownBy w1 r) : w.grownBy w1.drew r := ⟨h.os, h.tape, h.output, h.size, h.block⟩
theorem grown_drewN {w w1 : World} {r : Option Nat} (h : w.grownBy w1 r) (n : Nat) : w.grownBy (w1.drewN n) r := ⟨h.os, h.tape, h.output, h.size, h.block⟩
theorem grown_set {w w1 : World} {b : Nat} (h : w.grownBy w1 (some b)) (i : Nat) (v : Value) : w.grownBy (w1.setCell ⟨b, i, none⟩ v) (some b) :=
  grown_trans h ⟨rfl, rfl, rfl, by simp [World.setCell], fun k _ hn => Below.heap_setCell _ _ _ _ (by intro e; exact hn (by rw [e]))⟩

theorem grown_alloc {w w1 : World} {r : Option Nat} (h : w.grownBy w1 r) (o : Obj) : w.grownBy (w1.alloc o) r := grown_trans h (World.grownBy_alloc _ _ _)
/-- A write to a block that came later. -/
theorem grown_new {w w1 w2 : World} {r : Option Nat} {c : Nat} (h : w.grownBy w1 r) (hc : w.heap.size ≤ c) (k : w1.grownBy w2 (some c)) : w.grownBy w2 r :=
  ⟨k.os.trans h.os, k.tape.trans h.tape, k.output.trans h.output, Nat.le_trans h.size k.size, fun i hi hn => (k.block i (Nat.lt_of_lt_of_le hi h.size) (by simp; omega)).trans (h.block i hi hn)⟩
theorem grown_setNew {w w1 : World} {r : Option Nat} (h : w.grownBy w1 r) (c : Nat) (hc : w.heap.size ≤ c) (i : Nat) (v : Value) : w.grownBy (w1.setCell ⟨c, i, none⟩ v) r :=
  grown_new h hc (grown_set (grown_refl _ _) i v)

theorem addr_add (b o n : Nat) : (⟨b, o, none⟩ : Addr).add n = ⟨b, o + n, none⟩ := by
  unfold Addr.add; split
  · simp_all
  · rfl
theorem size22 (w : World) : (sizeOf (Tryd.prog.elem 24)).run Tryd.prog w = .ok 1 w := by kernel_rfl
theorem slice_l (W : World) (pb o len cap : Nat) (l : Int) (n : Nat) (hn : l = (n : Int)) (h1 : n ≤ len) (hc : n < cap) :
    (Instr.slice 24 (.slice (some ⟨pb, o, none⟩) len cap) (some (.int .i64 l)) none none).run Tryd.prog W = .ok (.slice (some ⟨pb, o + n, none⟩) (len - n) (cap - n)) W := by
  subst hn
  rw [run_slice_l _ _ _ _ _ (by kernel_rfl) _ _ (by omega) (by omega), size22]
  simp only [Result.andThen, sliced, Int.toNat_natCast, Option.map_some, Nat.mul_one, addr_add]
  rw [if_neg (by omega)]
theorem slice_h (W : World) (pb o len cap : Nat) (l : Int) (n : Nat) (hn : l = (n : Int)) (hc : n ≤ cap) (h0 : 0 < cap) :
    (Instr.slice 24 (.slice (some ⟨pb, o, none⟩) len cap) none (some (.int .i64 l)) none).run Tryd.prog W = .ok (.slice (some ⟨pb, o, none⟩) n cap) W := by
  subst hn
  rw [run_slice_h _ _ _ _ _ (by kernel_rfl) _ _ (by omega) (by omega), size22]
  simp only [Result.andThen, sliced, Int.toNat_natCast, Option.map_some, Nat.mul_one, addr_add]
  rw [if_neg (by omega)]
  simp
/-- Bytes in memory, from an address on. -/
def BytesAt (w : World) (pb o : Nat) (bs : List UInt8) : Prop := ∀ i, i < bs.length → w.cell? ⟨pb, o + i, none⟩ = some (.int .u8 ((bs.getD i 0).toNat : Int))
theorem BytesAt.drew {w : World} {pb o : Nat} {bs : List UInt8} (h : BytesAt w pb o bs) : BytesAt w.drew pb o bs := h
theorem BytesAt.grown {w w' : World} {pb o : Nat} {bs : List UInt8} {r : Option Nat} (h : BytesAt w pb o bs) (hg : w.grownBy w' r) (hr : some pb ≠ r) : BytesAt w' pb o bs :=
  fun i hi => hg.cell (h i hi) hr
def bytesOf (bs : List UInt8) : Array Value := (bs.map fun c => Value.int .u8 (c.toNat : Int)).toArray
/-- Block b holds bytes. -/
def Bytes (w : World) (b : Nat) (bs : List UInt8) : Prop := ∃ t, w.heap[b]? = some (.cells (bytesOf bs) t (0, 0))
section
variable {w : World} {b : Nat} {bs : List UInt8}
theorem Bytes.cell (h : Bytes w b bs) (i : Nat) (hi : i < bs.length) : w.cell? ⟨b, i, none⟩ = some (.int .u8 ((bs.getD i 0).toNat : Int)) := by
  obtain ⟨t, hb⟩ := h
  simp [World.cell?, hb, bytesOf, List.getElem?_map, List.getElem?_eq_getElem hi]
theorem Bytes.frozen (h : Bytes w b bs) (i : Nat) : w.frozen? ⟨b, i, none⟩ = false := by
  obtain ⟨t, hb⟩ := h
  simp [World.frozen?, hb]
theorem Bytes.lt (h : Bytes w b bs) : b < w.heap.size := by
  obtain ⟨t, hb⟩ := h
  exact (Array.getElem?_eq_some_iff.1 hb).1
theorem bytesOf_set (bs : List UInt8) (i : Nat) (x : UInt8) : (bytesOf bs).setIfInBounds i (.int .u8 (x.toNat : Int)) = bytesOf (bs.set i x) := by
  simp [bytesOf]
theorem Bytes.set (h : Bytes w b bs) (i : Nat) (x : UInt8) : Bytes (w.setCell ⟨b, i, none⟩ (.int .u8 (x.toNat : Int))) b (bs.set i x) := by
  obtain ⟨t, hb⟩ := h
  refine ⟨t, ?_⟩
  simp only [World.setCell, Array.getElem?_modify, if_true, hb, Option.map_some]
  simp [bytesOf_set]
theorem Bytes.drewN (h : Bytes w b bs) (k : Nat) : Bytes (w.drewN k) b bs := h
theorem Bytes.drew (h : Bytes w b bs) : Bytes w.drew b bs := h
theorem Bytes.alloc (h : Bytes w b bs) (o : Obj) : Bytes (w.alloc o) b bs := by
  have hl := h.lt
  obtain ⟨t, hb⟩ := h
  exact ⟨t, by rw [Below.heap_alloc _ _ _ hl]; exact hb⟩
theorem Bytes.grown (h : Bytes w b bs) {w' : World} {r : Option Nat} (hg : w.grownBy w' r) (hr : some b ≠ r) : Bytes w' b bs := by
  have hl := h.lt
  obtain ⟨t, hb⟩ := h
  exact ⟨t, by rw [hg.block b hl hr]; exact hb⟩
theorem Bytes.new (w : World) (t : TypeId) (bs : List UInt8) : Bytes (w.alloc (.cells (bytesOf bs) t)) w.heap.size bs := ⟨t, heap_alloc_new w _⟩
theorem Bytes.at (h : Bytes w b bs) (o : Nat) (cs : List UInt8) (hc : ∀ i, i < cs.length → o + i < bs.length ∧ bs.getD (o + i) 0 = cs.getD i 0) : BytesAt w b o cs := by
  intro i hi
  rw [h.cell (o + i) (hc i hi).1, (hc i hi).2]
end

/-- A slice of bytes, as it is handed over: where it has any, they lie in a row. -/
def SliceIs (w : World) (v : Value) (bs : List UInt8) : Prop :=
  ∃ a cap, v = .slice a bs.length cap ∧ bs.length ≤ cap ∧ ((bs = [] ∧ (a = none → cap = 0)) ∨ ∃ b o, a = some ⟨b, o, none⟩ ∧ BytesAt w b o bs)
theorem SliceIs.grown {w w' : World} {v : Value} {bs : List UInt8} (h : SliceIs w v bs) (hg : w.grownBy w' none) : SliceIs w' v bs := by
  obtain ⟨a, cap, rfl, hc, h⟩ := h
  refine ⟨a, cap, rfl, hc, ?_⟩
  rcases h with h | ⟨b, o, rfl, h⟩
  · exact .inl h
  · exact .inr ⟨b, o, rfl, h.grown hg (by simp)⟩
theorem SliceIs.alloc {w : World} {v : Value} {bs : List UInt8} (h : SliceIs w v bs) (o : Obj) : SliceIs (w.alloc o) v bs := h.grown (World.grownBy_alloc _ _ _)
theorem SliceIs.drew {w : World} {v : Value} {bs : List UInt8} (h : SliceIs w v bs) : SliceIs w.drew v bs := h
theorem SliceIs.drewN {w : World} {v : Value} {bs : List UInt8} (h : SliceIs w v bs) (n : Nat) : SliceIs (w.drewN n) v bs := h
theorem Bytes.slice {w : World} {b : Nat} {bs : List UInt8} (h : Bytes w b bs) (cap : Nat) (hc : bs.length ≤ cap) : SliceIs w (.slice (some ⟨b, 0, none⟩) bs.length cap) bs :=
  ⟨_, cap, rfl, hc, .inr ⟨b, 0, rfl, h.at 0 bs fun i hi => by simpa using hi⟩⟩
theorem sliceIs_nil (w : World) : SliceIs w (.slice none 0 0) [] := ⟨none, 0, rfl, Nat.le_refl _, .inl ⟨rfl, fun _ => rfl⟩⟩

/-- So many noughts. -/
def zeros (n : Nat) : List UInt8 := List.replicate n 0
theorem zeros_len (n : Nat) : (zeros n).length = n := by simp [zeros]
theorem made_bytes (n : Nat) : madeCells (Value.int .u8 0).cells (n * 1) = bytesOf (zeros n) := by
  apply Array.ext
  · simp [size_madeCells, bytesOf, zeros]
  · intro i h1 h2
    simp [madeCells, bytesOf, zeros, Value.cells, Nat.mod_one]
theorem info5 : (Tryd.prog.info? 5).map (fun i => (i.zero, i.size, i.bytes)) = some (some (.int .u8 0), 1, 1) := by kernel_rfl
theorem size5 : (Tryd.prog.info? 5).map (·.size) = some 1 := by kernel_rfl
theorem make_bytes (W : World) (c : Int) (n : Nat) (hc : c = (n : Int)) (hn : n ≤ 1000000) :
    (Instr.makeSlice 24 (.int .i64 c) (.int .i64 c)).run Tryd.prog W = .ok (.slice (some ⟨W.heap.size, 0, none⟩) n n) (W.alloc (.cells (bytesOf (zeros n)) 5)) := by
  subst hc
  obtain ⟨i0, hi, hz0, hz1, hz2⟩ := info_parts info5
  have h := run_make (P := Tryd.prog) W 24 5 i0 (.int .u8 0) Tryd.underlying24 hi hz0 .i64 .i64 (n : Int) (n : Int) (by omega) (Int.le_refl _) (by rw [hz2]; omega) (by omega)
  rw [h, hz1, Int.toNat_natCast, made_bytes]
theorem bytes_oneCell (bs : List UInt8) : ∀ v ∈ (bs.map fun c => Value.int .u8 (c.toNat : Int)), v.oneCell' = true := by
  intro v hv
  obtain ⟨c, _, rfl⟩ := List.mem_map.1 hv
  rfl
theorem setRow_alloc (w : World) (X Y : Array Value) (t : TypeId) : (w.alloc (.cells X t)).setRow w.heap.size Y = w.alloc (.cells Y t) := by
  simp only [World.setRow, World.alloc]
  congr 1
  apply Array.ext
  · simp
  · intro i h1 h2
    simp only [Array.getElem_modify, Array.getElem_push]
    have hi : i < w.heap.size + 1 := by simpa using h2
    split <;> split <;> first | rfl | omega | (exfalso; omega) | simp_all
/-- copy into noughts that were just made. -/
theorem copy_bytes (w : World) (a : Option Addr) (bs : List UInt8) (cap n m ty : Nat) (hn : bs.length ≤ n) (hs : SliceIs w (.slice a bs.length cap) bs) :
    (Builtin.copy_ #[24, 24] ty #[.slice (some ⟨w.heap.size, 0, none⟩) n m, .slice a bs.length cap]).run Tryd.prog (w.alloc (.cells (bytesOf (zeros n)) 5)) = .ok (.int .i64 (bs.length : Int)) (w.alloc (.cells (bytesOf (bs ++ zeros (n - bs.length))) 5)) := by
  obtain ⟨a', cap', e, hc, h⟩ := hs.alloc (.cells (bytesOf (zeros n)) 5)
  simp only [Value.slice.injEq, true_and] at e
  obtain ⟨rfl, rfl⟩ := e
  by_cases h0 : bs = []
  · subst h0
    have := run_copy_none (P := Tryd.prog) (w.alloc (.cells (bytesOf (zeros n)) 5)) 24 24 ty 5 (some ⟨w.heap.size, 0, none⟩) a n m 0 cap Tryd.underlying24 size5 (by simp)
    simpa [goInt] using this
  · rcases h with h | ⟨b, o, rfl, h⟩
    · exact absurd h.1 h0
    · have := run_copy_row (P := Tryd.prog) (w.alloc (.cells (bytesOf (zeros n)) 5)) 24 24 ty 5 w.heap.size 0 n m ⟨b, o, none⟩ bs.length cap (bytesOf (zeros n)) 5 (bs.map fun c => Value.int .u8 (c.toNat : Int)) Tryd.underlying24 size5 (heap_alloc_new w _)
        (by simp only [List.length_map]; exact (Nat.min_eq_left hn).symm) (by
          intro j v hj
          rw [List.getElem?_map] at hj
          cases hb : bs[j]? with
          | none => rw [hb] at hj; simp at hj
          | some c =>
            rw [hb] at hj
            simp at hj
            subst hj
            rw [addr_add]
            have hlt : j < bs.length := (List.getElem?_eq_some_iff.1 hb).1
            rw [h j hlt]
            simp [hb]) (by simp [bytesOf, zeros]; exact hn) (bytes_oneCell bs)
      rw [this, setRow_alloc]
      simp [goInt, bytesOf, zeros]
def vals (bs : List UInt8) : List Value := bs.map fun c => Value.int .u8 (c.toNat : Int)
theorem vals_len (bs : List UInt8) : (vals bs).length = bs.length := by simp [vals]
theorem vals_append (a b : List UInt8) : vals (a ++ b) = vals a ++ vals b := by simp [vals]
theorem vals_get (bs : List UInt8) (j : Nat) (u : Value) (h : (vals bs)[j]? = some u) : j < bs.length ∧ u = .int .u8 ((bs.getD j 0).toNat : Int) := by
  rw [vals, List.getElem?_map] at h
  cases hb : bs[j]? with
  | none => rw [hb] at h; simp at h
  | some c =>
    rw [hb] at h
    simp at h
    exact ⟨(List.getElem?_eq_some_iff.1 hb).1, by simp [hb, ← h]⟩
/-- The slice v is the call's own, from block 'base' on, and has these bytes. -/
def Own (base : Nat) (w : World) (v : Value) (bs : List UInt8) : Prop := w.ownsRow base 5 1 v bs.length (vals bs)
theorem own_nil (base : Nat) (w : World) : Own base w (.slice none 0 0) [] := World.ownsRow_nil _ _ _ _
theorem Own.grown {base : Nat} {w w' : World} {v : Value} {bs : List UInt8} (h : Own base w v bs) {row : Option Nat} (hg : w.grownBy w' row) (hne : v.ownBlock = none ∨ v.ownBlock ≠ row) : Own base w' v bs := World.ownsRow.kept h hg hne
theorem Own.grownNone {base : Nat} {w w' : World} {v : Value} {bs : List UInt8} (h : Own base w v bs) (hg : w.grownBy w' none) : Own base w' v bs := by
  refine h.grown hg ?_
  cases hv : v.ownBlock with
  | none => exact .inl rfl
  | some k => exact .inr (by simp)
theorem Own.alloc {base : Nat} {w : World} {v : Value} {bs : List UInt8} (h : Own base w v bs) (o : Obj) : Own base (w.alloc o) v bs := World.ownsRow.alloc h o
theorem Own.slice {base : Nat} {w : World} {v : Value} {bs : List UInt8} (h : Own base w v bs) : SliceIs w v bs := by
  obtain ⟨h1, h2⟩ := h
  rcases h2 with ⟨rfl, h0⟩ | ⟨g, cap, cur, rfl, hb, hg, hn, hm, hs, ht⟩
  · obtain rfl := List.eq_nil_of_length_eq_zero h0
    exact sliceIs_nil w
  · refine ⟨_, cap, rfl, hn, .inr ⟨g, 0, rfl, ?_⟩⟩
    intro i hi
    have hc : cur.toList[i]? = some (.int .u8 ((bs.getD i 0).toNat : Int)) := by
      have e : (cur.toList.take (bs.length * 1))[i]? = (vals bs)[i]? := by rw [ht]
      rw [List.getElem?_take, if_pos (by omega)] at e
      rw [e, vals, List.getElem?_map, List.getElem?_eq_getElem hi]
      simp [hi]
    simp [World.cell?, hg]
    simpa using hc
theorem Own.lt {base : Nat} {w : World} {v : Value} {bs : List UInt8} (h : Own base w v bs) : ∀ k, v.ownBlock = some k → base ≤ k ∧ k < w.heap.size := World.ownsRow.lt h
theorem Own.shape {base : Nat} {w : World} {v : Value} {bs : List UInt8} (h : Own base w v bs) : ∃ a cap, v = .slice a bs.length cap := by
  obtain ⟨a, cap, e, _⟩ := h.slice
  exact ⟨a, cap, e⟩
theorem own_new (base : Nat) (w : World) (bs : List UInt8) (hb : base ≤ w.heap.size) (hm : bs.length ≤ maxLen) : Own base (w.alloc (.cells (bytesOf bs) 5)) (.slice (some ⟨w.heap.size, 0, none⟩) bs.length bs.length) bs :=
  ⟨by simp [vals], .inr ⟨w.heap.size, bs.length, bytesOf bs, rfl, hb, heap_alloc_new w _, Nat.le_refl _, hm, by simp [bytesOf], by simp [bytesOf, vals, List.take_of_length_le]⟩⟩

/-- Behind an append onto what is the call's own nothing older has turned. -/
theorem grown_own {w W w1 : World} {v : Value} {bs : List UInt8} (h : w.grownBy W none) (ho : Own w.heap.size W v bs) (hg : W.grownBy w1 v.ownBlock) : w.grownBy w1 none :=
  ⟨hg.os.trans h.os, hg.tape.trans h.tape, hg.output.trans h.output, Nat.le_trans h.size hg.size, fun i hi hn => (hg.block i (Nat.lt_of_lt_of_le hi h.size) (fun e => by have := (ho.lt i e.symm).1; omega)).trans (h.block i hi hn)⟩
/-- append(v, x...) onto bytes of the call's own, from whatever slice. -/
theorem append_bytes (w : World) (base ty : Nat) (v : Value) (bs : List UInt8) (hown : Own base w v bs) (a : Option Addr) (m cap : Nat) (cs : List UInt8) (hs : SliceIs w (.slice a m cap) cs) (hbytes : bs.length + m ≤ 140737488355328) (hbase : base ≤ w.heap.size) :
    ∃ v' w', (Builtin.append_ #[24, 24] ty #[v, .slice a m cap]).run Tryd.prog w = .ok v' w' ∧ Own base w' v' (bs ++ cs) ∧ w.grownBy w' v.ownBlock := by
  obtain ⟨i0, hi, hz0, hz1, hz2⟩ := info_parts info5
  obtain ⟨a', cap', e, hc, h⟩ := hs
  simp only [Value.slice.injEq] at e
  obtain ⟨rfl, rfl, rfl⟩ := e
  have h63 : bs.length + cs.length ≤ maxLen := by unfold maxLen; omega
  have key : ∀ ad : Addr, (∀ j u, (vals cs)[j]? = some u → w.cell? (ad.add j) = some u) → ∃ v' w', (Builtin.append_ #[24, 24] ty #[v, .slice (some ad) cs.length cap]).run Tryd.prog w = .ok v' w' ∧ Own base w' v' (bs ++ cs) ∧ w.grownBy w' v.ownBlock := by
    intro ad hnews
    obtain ⟨v', w', hr, ho, hg, _⟩ := run_append_own (P := Tryd.prog) w base 24 ty 5 i0 (.int .u8 0) 1 1 Tryd.underlying24 hi hz0 hz1 hz2 rfl (by decide) v bs.length (vals bs) hown ad cs.length cap (vals cs) (by simp [vals]) hnews (bytes_oneCell cs) h63 (by omega) hbase
    refine ⟨v', w', hr, ?_, hg⟩
    unfold Own
    rw [vals_append, List.length_append]
    exact ho
  rcases h with ⟨rfl, hz⟩ | ⟨b, o, rfl, h⟩
  · cases a with
    | none =>
      obtain rfl := hz rfl
      refine ⟨v, w, run_append_owned_none (P := Tryd.prog) (w := w) base 24 ty 5 i0 1 Tryd.underlying24 hi v bs.length (vals bs) hown, ?_, grown_refl _ _⟩
      rw [List.append_nil]
      exact hown
    | some ad => exact key ad (by simp [vals])
  · refine key ⟨b, o, none⟩ fun j u hj => ?_
    obtain ⟨hlt, rfl⟩ := vals_get cs j u hj
    rw [addr_add]
    exact h j hlt
/-- The same, as a law for the walk. -/
theorem wpList_append_bytes {w : World} {ops : Array Oper} {rest : List Oper} {o : Oper} {a : Act} {Q : Exit → Act → World → Prop} (hgd : o.guard = none) (s x : Operand)
    (ho : o.op = .call { callee := .builtin .append, args := #[s, x], argTypes := #[24, 24] }) (base : Nat) (v : Value) (bs : List UInt8) (hs : a.eval s = v) (hown : Own base w v bs)
    (xa : Option Addr) (m cap : Nat) (cs : List UInt8) (hx : a.eval x = .slice xa m cap) (hsl : SliceIs w (.slice xa m cap) cs) (hbytes : bs.length + m ≤ 140737488355328) (hbase : base ≤ w.heap.size)
    (h : ∀ v' w', Own base w' v' (bs ++ cs) → w.grownBy w' v.ownBlock → wpList Tryd.prog ops Q rest (a.put o.dst v') w') : wpList Tryd.prog ops Q (o :: rest) a w := by
  refine wpList_plain hgd fun K hK => ?_
  obtain ⟨v', w', hrun, ho', hg⟩ := append_bytes w base o.type v bs hown xa m cap cs hsl hbytes hbase
  unfold Oper.wp
  simp [execOp, ho, resolve, invoke, builtin, hs, hx, hrun, Result.andThen]
  exact hK _ _ (h v' w' ho' hg)
theorem SliceIs.take {w : World} {a : Option Addr} {m cap : Nat} {bs : List UInt8} (h : SliceIs w (.slice a m cap) bs) (k : Nat) (hk : k ≤ m) : SliceIs w (.slice a k cap) (bs.take k) := by
  obtain ⟨a', cap', e, hc, h⟩ := h
  simp only [Value.slice.injEq] at e
  obtain ⟨rfl, rfl, rfl⟩ := e
  have hl : (bs.take k).length = k := by simp; omega
  refine ⟨a, cap, by rw [hl], by omega, ?_⟩
  rcases h with ⟨rfl, hz⟩ | ⟨b, o, rfl, h⟩
  · exact .inl ⟨by simp, hz⟩
  · refine .inr ⟨b, o, rfl, fun i hi => ?_⟩
    rw [h i (by omega)]
    rw [hl] at hi
    simp [hi]
theorem fold_push (bs : List UInt8) (s : ByteArray) : ((bs.map fun c => ((c.toNat : Nat) : Int)).foldl (fun r n => r.push (UInt8.ofNat n.toNat)) s) = ⟨s.data ++ bs.toArray⟩ := by
  induction bs generalizing s with
  | nil => simp
  | cons c bs ih =>
    simp only [List.map_cons, List.foldl_cons]
    rw [ih]
    congr 1
    simp [ByteArray.push]
/-- A text of bytes. -/
def textOf (bs : List UInt8) : ByteArray := ⟨bs.toArray⟩
theorem textOf_list (bs : List UInt8) : (textOf bs).toList = bs := by rw [Lib.toList_data]; rfl
theorem conv_bytes (W : World) (v : Value) (bs : List UInt8) (hs : SliceIs W v bs) : (convert 24 9 v).run Tryd.prog W = .ok (.string (textOf bs)) W := by
  obtain ⟨a, cap, rfl, hc, h⟩ := hs
  rw [run_convert_bytes_string W 24 9 5 a bs.length cap Tryd.underlying24 Tryd.underlying5 Tryd.underlying9]
  have key : ∀ ad : Addr, (∀ j u, (vals bs)[j]? = some u → W.cell? (ad.add j) = some u) → (Conv.bytesToString (.slice (some ad) bs.length cap)).run Tryd.prog W = .ok (.string (textOf bs)) W := by
    intro ad hcells
    have hl := run_loadCells_list (P := Tryd.prog) W ad (vals bs) hcells
    rw [vals_len] at hl
    have := run_bytesToString (P := Tryd.prog) W ad bs.length cap (bs.map fun c => ((c.toNat : Nat) : Int)) (by rw [hl]; simp [vals])
    rw [this, fold_push]
    simp [textOf]
  rcases h with ⟨rfl, hz⟩ | ⟨b, o, rfl, h⟩
  · cases a with
    | none => simp [Conv.bytesToString, textOf]; rfl
    | some ad => exact key ad (by simp [vals])
  · refine key ⟨b, o, none⟩ fun j u hj => ?_
    obtain ⟨hlt, rfl⟩ := vals_get bs j u hj
    rw [addr_add]
    exact h j hlt
theorem Bytes.slice32 {w : World} {b : Nat} {bs : List UInt8} (h : Bytes w b bs) (hl : bs.length = 32) : SliceIs w (.slice (some ⟨b, 0, none⟩) 32 32) bs := by
  have := h.slice 32 (by omega)
  rw [hl] at this
  exact this
/-- A fact about functions that reckon much, kept from the walk. -/
def Kept (p : Prop) : Prop := ∀ _ : Unit, p
theorem Kept.out {p : Prop} (h : Kept p) : p := h ()
theorem one_slice (w : World) (x : UInt8) (t : TypeId) : SliceIs (w.alloc (.cells #[.int .u8 (x.toNat : Int)] t)) (.slice (some ⟨w.heap.size, 0, none⟩) 1 1) [x] :=
  (Bytes.new w t [x]).slice 1 (by simp)
theorem two_slice (w : World) (x y : UInt8) (t : TypeId) : SliceIs (w.alloc (.cells #[.int .u8 (x.toNat : Int), .int .u8 (y.toNat : Int)] t)) (.slice (some ⟨w.heap.size, 0, none⟩) 2 2) [x, y] :=
  (Bytes.new w t [x, y]).slice 2 (by simp)
theorem own_mono {base base' : Nat} {w : World} {v : Value} {bs : List UInt8} (h : Own base w v bs) (hb : base' ≤ base) : Own base' w v bs := by
  refine ⟨h.1, ?_⟩
  rcases h.2 with h2 | ⟨g, cap, cur, h1, h2, h3⟩
  · exact .inl h2
  · exact .inr ⟨g, cap, cur, h1, Nat.le_trans hb h2, h3⟩
theorem wrap64_eq (n : Int) : wrap64 n = IntKind.i64.wrap n := by rw [IntKind.wrap_i64]; unfold wrap64; rfl
end Go.Proofs.YtdpoickggdgddabDoor

/-
  The state of the digest in memory, and the walks of bits.RotateLeft64 and of the rows' mixing.
-/
namespace Go.Proofs.YtdpoickggdgddabDoor
open Go.RowKit
theorem rot_any (x : BitVec 64) (k : Int) (h0 : 0 ≤ k) (h : k < 64) (w : World) :
    Calls Tryd.prog 43 #[.int .u64 (U x), .int .i64 k] w fun e w' => e = .returned (.int .u64 (U (rotl x k.toNat))) ∧ w' = w := by
  have h63 := and63 k h0 h
  go_enter Tryd.func43, Tryd.ntmps43
  go_wp2
  go_ret
  refine ⟨?_, rfl⟩
  rw [show (64 - k).toNat = 64 - k.toNat by omega, wrap_shl_U, div_shr_U, bits_or_U]
  rfl

def lanesOf (st : List (BitVec 64)) : Array Value := (st.map fun x => Value.int .u64 (U x)).toArray
/-- Block b holds n lanes. -/
structure Lanes (n : Nat) (w : World) (b : Nat) (st : List (BitVec 64)) : Prop where
  len : st.length = n
  blk : ∃ t, w.heap[b]? = some (.cells (lanesOf st) t (0, 0))
section
variable {n : Nat} {w : World} {b : Nat} {st : List (BitVec 64)}
theorem Lanes.cell (h : Lanes n w b st) (i : Nat) (hi : i < n) : w.cell? ⟨b, i, none⟩ = some (.int .u64 (U (st.getD i 0))) := by
  obtain ⟨t, hb⟩ := h.blk
  simp [World.cell?, hb, lanesOf, List.getElem?_map, List.getElem?_eq_getElem (show i < st.length by have := h.len; omega)]
theorem Lanes.frozen (h : Lanes n w b st) (i : Nat) : w.frozen? ⟨b, i, none⟩ = false := by
  obtain ⟨t, hb⟩ := h.blk
  simp [World.frozen?, hb]
theorem Lanes.lt (h : Lanes n w b st) : b < w.heap.size := by
  obtain ⟨t, hb⟩ := h.blk
  exact (Array.getElem?_eq_some_iff.1 hb).1
theorem lanesOf_set (st : List (BitVec 64)) (i : Nat) (x : BitVec 64) : (lanesOf st).setIfInBounds i (.int .u64 (U x)) = lanesOf (st.set i x) := by
  simp [lanesOf]
theorem Lanes.set (h : Lanes n w b st) (i : Nat) (x : BitVec 64) : Lanes n (w.setCell ⟨b, i, none⟩ (.int .u64 (U x))) b (st.set i x) := by
  obtain ⟨t, hb⟩ := h.blk
  refine ⟨by simp [h.len], t, ?_⟩
  simp only [World.setCell, Array.getElem?_modify, if_true, hb, Option.map_some]
  simp [lanesOf_set]
theorem Lanes.setOther (h : Lanes n w b st) (c : Nat) (hc : b ≠ c) (i : Nat) (v : Value) : Lanes n (w.setCell ⟨c, i, none⟩ v) b st := by
  obtain ⟨t, hb⟩ := h.blk
  exact ⟨h.len, t, by rw [Below.heap_setCell _ _ _ _ hc]; exact hb⟩
theorem Lanes.drewN (h : Lanes n w b st) (k : Nat) : Lanes n (w.drewN k) b st := ⟨h.len, h.blk⟩
theorem Lanes.drew (h : Lanes n w b st) : Lanes n w.drew b st := ⟨h.len, h.blk⟩
theorem Lanes.alloc (h : Lanes n w b st) (o : Obj) : Lanes n (w.alloc o) b st := by
  obtain ⟨t, hb⟩ := h.blk
  exact ⟨h.len, t, by rw [Below.heap_alloc _ _ _ h.lt]; exact hb⟩
theorem Lanes.grown (h : Lanes n w b st) {w' : World} {r : Option Nat} (hg : w.grownBy w' r) (hr : some b ≠ r) : Lanes n w' b st := by
  obtain ⟨t, hb⟩ := h.blk
  exact ⟨h.len, t, by rw [hg.block b h.lt hr]; exact hb⟩
theorem Lanes.new (w : World) (t : TypeId) (st : List (BitVec 64)) (hl : st.length = n) : Lanes n (w.alloc (.cells (lanesOf st) t)) w.heap.size st :=
  ⟨hl, t, heap_alloc_new w _⟩
end
abbrev St := Lanes 25

def rowStep (st : List (BitVec 64)) (n : Nat) : List (BitVec 64) :=
  let a := st.getD n 0
  let b := st.getD (n + 1) 0
  let c := st.getD (n + 2) 0
  let d := st.getD (n + 3) 0
  let e := st.getD (n + 4) 0
  ((((st.set n (a ^^^ (c &&& ~~~b))).set (n + 1) (b ^^^ (d &&& ~~~c))).set (n + 2) (c ^^^ (e &&& ~~~d))).set (n + 3) (d ^^^ (a &&& ~~~e))).set (n + 4) (e ^^^ (b &&& ~~~a))
def rowsTo (st : List (BitVec 64)) : Nat → List (BitVec 64)
  | 0 => st
  | k + 1 => rowStep (rowsTo st k) (5 * k)
set_option maxRecDepth 100000 in
set_option maxHeartbeats 1000000 in
theorem rows_any (w : World) (b : Nat) (st : List (BitVec 64)) (h : St w b st) :
    Calls Tryd.prog 42 #[.pointer (some ⟨b, 0, none⟩)] w fun e w' => e = .returned (.tuple #[]) ∧ St w' b (rowsTo st 5) ∧ w.grownBy w' (some b) := by
  go_enter Tryd.func42, Tryd.ntmps42
  go_wp2
  go_loopw [2] (fun y wr => ∃ k : Nat, k ≤ 5 ∧ y = .int .i64 ((5 * k : Nat) : Int) ∧ St wr b (rowsTo st k) ∧ w.grownBy wr (some b)) (fun y _ => 25 - (intOf y).toNat)
  case atStart => exact ⟨0, by omega, rfl, h, grown_refl _ _⟩
  case round =>
    obtain ⟨k, hk, rfl, hst, hg⟩ := hrel
    by_cases hlt : k < 5
    · generalize hn : 5 * k = n
      have HN : Hid (5 * k = n) := hn
      clear hn
      have h25 : n + 4 < 25 := by have := HN.out; omega
      have hc := hst.cell
      have hf := hst.frozen
      have c0 := hc n (by omega)
      have c1 := hc (n + 1) (by omega)
      have c2 := hc (n + 2) (by omega)
      have c3 := hc (n + 3) (by omega)
      have c4 := hc (n + 4) (by omega)
      clear hc
      generalize hS : rowsTo st k = S at *
      have HS : Hid (rowsTo st k = S) := hS
      clear hS
      generalize hA : S.getD n 0 = A at *
      generalize hB : S.getD (n + 1) 0 = B at *
      generalize hC : S.getD (n + 2) 0 = C at *
      generalize hD : S.getD (n + 3) 0 = D at *
      generalize hE : S.getD (n + 4) 0 = E at *
      have HA : Hid (S.getD n 0 = A) := hA
      have HB : Hid (S.getD (n + 1) 0 = B) := hB
      have HC : Hid (S.getD (n + 2) 0 = C) := hC
      have HD : Hid (S.getD (n + 3) 0 = D) := hD
      have HE : Hid (S.getD (n + 4) 0 = E) := hE
      clear hA hB hC hD hE
      have i1 : (n : Int) + 4 < 25 := by omega
      go_wp2
      go_quiet (fail)
      go_wp2
      go_roundw
      case rel =>
        refine ⟨k + 1, by omega, by have := HN.out; congr 1; omega, ?_, ?_⟩
        · rw [bits_andNot_U, bits_andNot_U, bits_andNot_U, bits_andNot_U, bits_andNot_U, bits_xor_U, bits_xor_U, bits_xor_U, bits_xor_U, bits_xor_U]
          have e : rowsTo st (k + 1) = ((((S.set n (A ^^^ (C &&& ~~~B))).set (n + 1) (B ^^^ (D &&& ~~~C))).set (n + 2) (C ^^^ (E &&& ~~~D))).set (n + 3) (D ^^^ (A &&& ~~~E))).set (n + 4) (E ^^^ (B &&& ~~~A)) := by
            simp only [rowsTo, rowStep, HS.out, HN.out, HA.out, HB.out, HC.out, HD.out, HE.out]
          rw [e]
          exact (((((hst.drewN nq).set n _).set (n + 1) _).set (n + 2) _).set (n + 3) _).set (n + 4) _
        · exact grown_set (grown_set (grown_set (grown_set (grown_set (grown_drewN hg nq) n _) (n + 1) _) (n + 2) _) (n + 3) _) (n + 4) _
      case measure => simp [intOf]; omega
    · obtain rfl : k = 5 := by omega
      go_wp2
      go_end0
      exact ⟨rfl, hst, hg⟩
end Go.Proofs.YtdpoickggdgddabDoor

/-
  The walk of the columns' mixing.
-/
namespace Go.Proofs.YtdpoickggdgddabDoor
open Go.RowKit
def colAt (st : List (BitVec 64)) (x : Nat) : BitVec 64 := st.getD x 0 ^^^ st.getD (x + 5) 0 ^^^ st.getD (x + 10) 0 ^^^ st.getD (x + 15) 0 ^^^ st.getD (x + 20) 0
def colsTo (st : List (BitVec 64)) : Nat → List (BitVec 64)
  | 0 => [0, 0, 0, 0, 0]
  | k + 1 => (colsTo st k).set k (colAt st k)
def dOf (c : List (BitVec 64)) : List (BitVec 64) :=
  [c.getD 4 0 ^^^ rotl (c.getD 1 0) 1, c.getD 0 0 ^^^ rotl (c.getD 2 0) 1, c.getD 1 0 ^^^ rotl (c.getD 3 0) 1, c.getD 2 0 ^^^ rotl (c.getD 4 0) 1, c.getD 3 0 ^^^ rotl (c.getD 0 0) 1]
def addStep (d st : List (BitVec 64)) (k : Nat) : List (BitVec 64) :=
  let y := d.getD k 0
  ((((st.set k (st.getD k 0 ^^^ y)).set (k + 5) (st.getD (k + 5) 0 ^^^ y)).set (k + 10) (st.getD (k + 10) 0 ^^^ y)).set (k + 15) (st.getD (k + 15) 0 ^^^ y)).set (k + 20) (st.getD (k + 20) 0 ^^^ y)
def addTo (d st : List (BitVec 64)) : Nat → List (BitVec 64)
  | 0 => st
  | k + 1 => addStep d (addTo d st k) k
set_option maxRecDepth 100000 in
set_option maxHeartbeats 1000000 in
theorem cols_any (w : World) (b : Nat) (st : List (BitVec 64)) (h : St w b st) :
    Calls Tryd.prog 40 #[.pointer (some ⟨b, 0, none⟩)] w fun e w' => e = .returned (.tuple #[]) ∧ St w' b (addTo (dOf (colsTo st 5)) st 5) ∧ w.grownBy w' (some b) := by
  have hbn : b ≠ w.heap.size := Nat.ne_of_lt h.lt
  have h0 := h
  go_enter Tryd.func40, Tryd.ntmps40
  go_wp2_with fail
  go_loopw [6] (fun i wr => ∃ k : Nat, k ≤ 5 ∧ i = .int .i64 (k : Int) ∧ St wr b st ∧ Lanes 5 wr w.heap.size (colsTo st k) ∧ w.grownBy wr (some b)) (fun i _ => 5 - (intOf i).toNat)
  case atStart => exact ⟨0, by omega, rfl, h.alloc _, Lanes.new w 79 [0, 0, 0, 0, 0] rfl, grown_alloc (grown_refl _ _) _⟩
  case round =>
    obtain ⟨k, hk, rfl, hst, hcl, hg⟩ := hrel
    by_cases hlt : k < 5
    · have c0 := hst.cell k (by omega)
      have c1 := hst.cell (k + 5) (by omega)
      have c2 := hst.cell (k + 10) (by omega)
      have c3 := hst.cell (k + 15) (by omega)
      have c4 := hst.cell (k + 20) (by omega)
      have d0 := hcl.cell k hlt
      have hf := hcl.frozen k
      generalize hx0 : st.getD k 0 = x0 at *
      generalize hx1 : st.getD (k + 5) 0 = x1 at *
      generalize hx2 : st.getD (k + 10) 0 = x2 at *
      generalize hx3 : st.getD (k + 15) 0 = x3 at *
      generalize hx4 : st.getD (k + 20) 0 = x4 at *
      have HX : Hid (colAt st k = x0 ^^^ x1 ^^^ x2 ^^^ x3 ^^^ x4) := by show colAt st k = _; simp only [colAt, hx0, hx1, hx2, hx3, hx4]
      generalize hcc : colsTo st k = cc at *
      have HC : Hid (colsTo st k = cc) := hcc
      generalize hy : cc.getD k 0 = y at *
      clear hx0 hx1 hx2 hx3 hx4 hcc hy h
      have i1 : (k : Int) + 20 < 25 := by omega
      have i2 : (k : Int) < 5 := by omega
      go_wp2_with fail
      go_region
      all_goals go_wp2
      go_roundw
      case rel =>
        rw [bits_xor_U, bits_xor_U, bits_xor_U, bits_xor_U]
        have hlt' := hst.lt
        have hlt2 := hcl.lt
        refine ⟨k + 1, by omega, by go_num, (hst.setOther _ hbn _ _).drew, ?_, grown_drew (grown_setNew hg _ (Nat.le_refl _) _ _)⟩
        simp only [colsTo, HC.out, HX.out]
        exact (hcl.set k _).drew
      case measure => simp [intOf]; omega
    · obtain rfl : k = 5 := by omega
      have e0 := hcl.cell 0 (by omega)
      have e1 := hcl.cell 1 (by omega)
      have e2 := hcl.cell 2 (by omega)
      have e3 := hcl.cell 3 (by omega)
      have e4 := hcl.cell 4 (by omega)
      generalize hcc : colsTo st 5 = cc at *
      have HC : Hid (colsTo st 5 = cc) := hcc
      generalize hx0 : cc.getD 0 0 = x0 at *
      generalize hx1 : cc.getD 1 0 = x1 at *
      generalize hx2 : cc.getD 2 0 = x2 at *
      generalize hx3 : cc.getD 3 0 = x3 at *
      generalize hx4 : cc.getD 4 0 = x4 at *
      have HD : Hid (dOf cc = [x4 ^^^ rotl x1 1, x0 ^^^ rotl x2 1, x1 ^^^ rotl x3 1, x2 ^^^ rotl x4 1, x3 ^^^ rotl x0 1]) := by show dOf cc = _; simp only [dOf, hx0, hx1, hx2, hx3, hx4]
      clear hcc hx0 hx1 hx2 hx3 hx4 h
      have hwr := hcl.lt
      go_upto_region 6 with fail
      go_cut [4] (fun s4 wx => s4 = .pointer (some ⟨wr.heap.size, 0, none⟩) ∧ St wx b st ∧ Lanes 5 wx wr.heap.size (dOf cc) ∧ w.grownBy wx (some b))
      case first =>
        go_region_held3 (fun w' => w'.cell? ⟨w.heap.size, 0, none⟩ = some (.int .u64 (U x0)) ∧ w'.cell? ⟨w.heap.size, 1, none⟩ = some (.int .u64 (U x1)) ∧ w'.cell? ⟨w.heap.size, 2, none⟩ = some (.int .u64 (U x2)) ∧ w'.cell? ⟨w.heap.size, 3, none⟩ = some (.int .u64 (U x3)) ∧ w'.cell? ⟨w.heap.size, 4, none⟩ = some (.int .u64 (U x4))) (go_keep) (first | (go_at_call 43; refine (rot_any _ (1 : Int) (by omega) (by omega) _).mono ?_; rintro e w' ⟨rfl, rfl⟩))
        all_goals (go_wp2_with fail; go_meet; case rel => (rw [HD.out, bits_xor_U, bits_xor_U, bits_xor_U, bits_xor_U, bits_xor_U]; exact ⟨rfl, (hst.alloc _).drew, (Lanes.new wr 79 [x4 ^^^ rotl x1 1, x0 ^^^ rotl x2 1, x1 ^^^ rotl x3 1, x2 ^^^ rotl x4 1, x3 ^^^ rotl x0 1] rfl).drew, grown_drew (grown_alloc hg _)⟩))
      case rest =>
      obtain ⟨rfl, hst2, hd2, hg2⟩ := hcut
      clear e0 e1 e2 e3 e4 hst hcl hg
      have hbw : b ≠ wr.heap.size := by have := h0.lt; omega
      generalize hD : dOf cc = dd at *
      have HDD : Hid (dOf cc = dd) := hD
      clear hD HD
      generalize hdn : wr.heap.size = db at *
      clear hdn hwr
      go_wp2_with fail
      go_loopw [76] (fun i wr => ∃ k : Nat, k ≤ 5 ∧ i = .int .i64 (k : Int) ∧ St wr b (addTo dd st k) ∧ Lanes 5 wr db dd ∧ w.grownBy wr (some b)) (fun i _ => 5 - (intOf i).toNat)
      case atStart => exact ⟨0, by omega, rfl, hst2, hd2, hg2⟩
      case round =>
        clear hst2 hd2 hg2
        obtain ⟨k, hk, rfl, hst, hd, hg⟩ := hrel
        by_cases hlt : k < 5
        · have c0 := hst.cell k (by omega)
          have c1 := hst.cell (k + 5) (by omega)
          have c2 := hst.cell (k + 10) (by omega)
          have c3 := hst.cell (k + 15) (by omega)
          have c4 := hst.cell (k + 20) (by omega)
          have d0 := hd.cell k hlt
          have hf := hst.frozen
          generalize hS : addTo dd st k = S at *
          have HS : Hid (addTo dd st k = S) := hS
          generalize hy : dd.getD k 0 = y at *
          generalize hx0 : S.getD k 0 = x0 at *
          generalize hx1 : S.getD (k + 5) 0 = x1 at *
          generalize hx2 : S.getD (k + 10) 0 = x2 at *
          generalize hx3 : S.getD (k + 15) 0 = x3 at *
          generalize hx4 : S.getD (k + 20) 0 = x4 at *
          have HX : Hid (addStep dd S k = ((((S.set k (x0 ^^^ y)).set (k + 5) (x1 ^^^ y)).set (k + 10) (x2 ^^^ y)).set (k + 15) (x3 ^^^ y)).set (k + 20) (x4 ^^^ y)) := by show addStep dd S k = _; simp only [addStep, hy, hx0, hx1, hx2, hx3, hx4]
          clear hS hy hx0 hx1 hx2 hx3 hx4
          have i1 : (k : Int) + 20 < 25 := by omega
          have i2 : (k : Int) < 5 := by omega
          go_wp2_with fail
          go_region
          go_wp2_with fail
          go_region
          go_wp2_with fail
          go_region
          go_wp2_with fail
          go_region
          go_wp2_with fail
          go_region
          go_wp2_with fail
          go_roundw
          case rel =>
            rw [bits_xor_U, bits_xor_U, bits_xor_U, bits_xor_U, bits_xor_U]
            refine ⟨k + 1, by omega, by go_num, ?_, ?_, ?_⟩
            · simp only [addTo, HS.out, HX.out]
              exact (((((hst.set k _).set (k + 5) _).set (k + 10) _).set (k + 15) _).set (k + 20) _).drew.drew.drew.drew.drew
            · exact (((((hd.setOther b hbw.symm k _).setOther b hbw.symm (k + 5) _).setOther b hbw.symm (k + 10) _).setOther b hbw.symm (k + 15) _).setOther b hbw.symm (k + 20) _).drew.drew.drew.drew.drew
            · exact grown_drew (grown_drew (grown_drew (grown_drew (grown_drew (grown_set (grown_set (grown_set (grown_set (grown_set hg k _) (k + 5) _) (k + 10) _) (k + 15) _) (k + 20) _)))))
          case measure => simp [intOf]; omega
        · obtain rfl : k = 5 := by omega
          go_wp2
          go_end0
          refine ⟨rfl, ?_, hg⟩
          rw [HC.out, HDD.out]
          exact hst
end Go.Proofs.YtdpoickggdgddabDoor

namespace Go.Proofs.YtdpoickggdgddabDoor
open Go.RowKit
def laneWalkT : List Nat := [10, 7, 11, 17, 18, 3, 5, 16, 8, 21, 24, 4, 15, 23, 19, 13, 12, 2, 20, 14, 22, 9, 6, 1]
def laneTurnsT : List Nat := [1, 3, 6, 10, 15, 21, 28, 36, 45, 55, 2, 14, 27, 41, 56, 8, 25, 43, 62, 18, 39, 61, 20, 44]
def roundNumbersT : List (BitVec 64) := [0x0000000000000001, 0x0000000000008082, 0x800000000000808a, 0x8000000080008000, 0x000000000000808b, 0x0000000080000001, 0x8000000080008081, 0x8000000000008009, 0x000000000000008a, 0x0000000000000088, 0x0000000080008009, 0x000000008000000a, 0x000000008000808b, 0x800000000000008b, 0x8000000000008089, 0x8000000000008003, 0x8000000000008002, 0x8000000000000080, 0x000000000000800a, 0x800000008000000a, 0x8000000080008081, 0x8000000000008080, 0x0000000080000001, 0x8000000080008008]
theorem walk_lt (k : Nat) (h : k < 24) : laneWalkT.getD k 0 < 25 := (by decide : ∀ k : Fin 24, laneWalkT.getD k.1 0 < 25) ⟨k, h⟩
theorem turns_lt (k : Nat) (h : k < 24) : laneTurnsT.getD k 0 < 64 := (by decide : ∀ k : Fin 24, laneTurnsT.getD k.1 0 < 64) ⟨k, h⟩
/-- The three tables of the package, as their initialisers lay them. -/
structure Tabs (w : World) : Prop where
  nums : ∀ i, i < 24 → w.cell? ⟨1, i, none⟩ = some (.int .u64 (U (roundNumbersT.getD i 0)))
  walk : ∀ i, i < 24 → w.cell? ⟨2, i, none⟩ = some (.int .i64 ((laneWalkT.getD i 0 : Nat) : Int))
  turns : ∀ i, i < 24 → w.cell? ⟨3, i, none⟩ = some (.int .i64 ((laneTurnsT.getD i 0 : Nat) : Int))
theorem Tabs.grown {w w' : World} {b : Nat} (h : Tabs w) (hg : w.grownBy w' (some b)) (hb : 4 ≤ b) : Tabs w' :=
  ⟨fun i hi => hg.cell (h.nums i hi) (by simp; omega), fun i hi => hg.cell (h.walk i hi) (by simp; omega), fun i hi => hg.cell (h.turns i hi) (by simp; omega)⟩
def moveTo (st : List (BitVec 64)) : Nat → List (BitVec 64) × BitVec 64
  | 0 => (st, st.getD 1 0)
  | k + 1 => ((moveTo st k).1.set (laneWalkT.getD k 0) (rotl (moveTo st k).2 (laneTurnsT.getD k 0)), (moveTo st k).1.getD (laneWalkT.getD k 0) 0)
set_option maxRecDepth 100000 in
set_option maxHeartbeats 1000000 in
theorem move_any (w : World) (b : Nat) (hb : 4 ≤ b) (st : List (BitVec 64)) (h : St w b st) (ht : Tabs w) :
    Calls Tryd.prog 41 #[.pointer (some ⟨b, 0, none⟩)] w fun e w' => e = .returned (.tuple #[]) ∧ St w' b (moveTo st 24).1 ∧ w.grownBy w' (some b) := by
  have c1 := h.cell 1 (by omega)
  go_enter Tryd.func41, Tryd.ntmps41
  go_wp2
  go_loopw [2, 10] (fun m i wr => ∃ k : Nat, k ≤ 24 ∧ i = .int .i64 (k : Int) ∧ m = .int .u64 (U (moveTo st k).2) ∧ St wr b (moveTo st k).1 ∧ w.grownBy wr (some b)) (fun _ i _ => 24 - (intOf i).toNat)
  case atStart => exact ⟨0, by omega, rfl, by simp [moveTo], h, grown_refl _ _⟩
  case round =>
    obtain ⟨k, hk, rfl, rfl, hst, hg⟩ := hrel
    clear c1
    by_cases hlt : k < 24
    · have hT := ht.grown hg hb
      have hw := walk_lt k hlt
      have hr := turns_lt k hlt
      have t1 := hT.walk k hlt
      have t2 := hT.turns k hlt
      have c := hst.cell (laneWalkT.getD k 0) hw
      have hf := hst.frozen
      generalize hS : (moveTo st k).1 = S at *
      have HS : Hid ((moveTo st k).1 = S) := hS
      generalize hM : (moveTo st k).2 = M at *
      have HM : Hid ((moveTo st k).2 = M) := hM
      generalize hW : laneWalkT.getD k 0 = W at *
      have HW : Hid (laneWalkT.getD k 0 = W) := hW
      generalize hR : laneTurnsT.getD k 0 = R at *
      have HR : Hid (laneTurnsT.getD k 0 = R) := hR
      clear hS hM hW hR
      generalize hX : S.getD W 0 = X at *
      have HX : Hid (S.getD W 0 = X) := hX
      clear hX hT ht h
      have i1 : (W : Int) < 25 := by omega
      go_wp2_with fail
      go_region_with (go_at_call 43; refine (rot_any M (R : Int) (by omega) (by omega) _).mono ?_; rintro e w' ⟨rfl, rfl⟩)
      all_goals go_wp2
      go_roundw
      case rel =>
        refine ⟨k + 1, by omega, by go_num, ?_, ?_, grown_drew (grown_set hg _ _)⟩
        · simp only [moveTo, HS.out, HW.out, HX.out]
        · simp only [moveTo, HS.out, HM.out, HW.out, HR.out]
          exact (hst.set W _).drew
      case measure => simp [intOf]; omega
    · obtain rfl : k = 24 := by omega
      go_wp2
      go_end0
      exact ⟨rfl, hst, hg⟩
end Go.Proofs.YtdpoickggdgddabDoor

/-
  The walk of a round.
-/
namespace Go.Proofs.YtdpoickggdgddabDoor
open Go.RowKit
theorem addTo_len (d st : List (BitVec 64)) (k : Nat) : (addTo d st k).length = st.length := by
  induction k with
  | zero => rfl
  | succ k ih => simp [addTo, addStep, ih]
theorem moveTo_len (st : List (BitVec 64)) (k : Nat) : (moveTo st k).1.length = st.length := by
  induction k with
  | zero => rfl
  | succ k ih => simp [moveTo, ih]
theorem rowsTo_len (st : List (BitVec 64)) (k : Nat) : (rowsTo st k).length = st.length := by
  induction k with
  | zero => rfl
  | succ k ih => simp [rowsTo, rowStep, ih]
/-- A round of P1.2. -/
def roundF (st : List (BitVec 64)) (n : BitVec 64) : List (BitVec 64) :=
  let r := rowsTo (moveTo (addTo (dOf (colsTo st 5)) st 5) 24).1 5
  r.set 0 (r.getD 0 0 ^^^ n)
set_option maxRecDepth 100000 in
set_option maxHeartbeats 1000000 in
theorem round_any (w : World) (b : Nat) (hb : 4 ≤ b) (st : List (BitVec 64)) (n : BitVec 64) (h : St w b st) (ht : Tabs w) :
    Calls Tryd.prog 39 #[.pointer (some ⟨b, 0, none⟩), .int .u64 (U n)] w fun e w' => e = .returned (.tuple #[]) ∧ St w' b (roundF st n) ∧ w.grownBy w' (some b) := by
  go_enter Tryd.func39, Tryd.ntmps39
  go_wp2_with fail
  refine (cols_any _ b st h).mono ?_
  rintro e w1 ⟨rfl, h1, g1⟩
  go_wp2_with fail
  refine (move_any _ b hb _ h1 (ht.grown g1 hb)).mono ?_
  rintro e w2 ⟨rfl, h2, g2⟩
  go_wp2_with fail
  refine (rows_any _ b _ h2).mono ?_
  rintro e w3 ⟨rfl, h3, g3⟩
  have g := grown_trans g1 (grown_trans g2 g3)
  clear g1 g2 g3 h1 h2 h ht
  have HR : Hid (roundF st n = (rowsTo (moveTo (addTo (dOf (colsTo st 5)) st 5) 24).1 5).set 0 ((rowsTo (moveTo (addTo (dOf (colsTo st 5)) st 5) 24).1 5).getD 0 0 ^^^ n)) := rfl
  generalize rowsTo (moveTo (addTo (dOf (colsTo st 5)) st 5) 24).1 5 = S at *
  have c0 := h3.cell 0 (by omega)
  have hf := h3.frozen 0
  generalize hx : S.getD 0 0 = x at *
  clear hx
  go_wp2_with fail
  go_region
  go_wp2_with fail
  go_end0
  refine ⟨rfl, ?_, grown_drew (grown_set g 0 _)⟩
  rw [HR.out, bits_xor_U]
  exact (h3.set 0 _).drew
end Go.Proofs.YtdpoickggdgddabDoor

/-
  The walks of a lane's reading and of a block's taking.
-/
namespace Go.Proofs.YtdpoickggdgddabDoor
open Go.RowKit
/-- A byte as a word. -/
def Z (c : UInt8) : BitVec 64 := BitVec.ofNat 64 c.toNat
theorem wrap_byte (c : UInt8) : IntKind.u64.wrap ((c.toNat : Nat) : Int) = U (Z c) := by
  rw [IntKind.wrap_u64]; unfold U Z; rw [BitVec.toNat_ofNat]; have := c.toNat_lt; omega
/-- Eight bytes as a lane, the lowest one first. -/
def laneOf (c0 c1 c2 c3 c4 c5 c6 c7 : UInt8) : BitVec 64 := Z c7 <<< 56 ||| Z c6 <<< 48 ||| Z c5 <<< 40 ||| Z c4 <<< 32 ||| Z c3 <<< 24 ||| Z c2 <<< 16 ||| Z c1 <<< 8 ||| Z c0
def laneAt (bs : List UInt8) (k : Nat) : BitVec 64 := laneOf (bs.getD k 0) (bs.getD (k + 1) 0) (bs.getD (k + 2) 0) (bs.getD (k + 3) 0) (bs.getD (k + 4) 0) (bs.getD (k + 5) 0) (bs.getD (k + 6) 0) (bs.getD (k + 7) 0)
theorem lane_bits (c0 c1 c2 c3 c4 c5 c6 c7 : UInt8) :
    bits .or .u64 (bits .or .u64 (bits .or .u64 (bits .or .u64 (bits .or .u64 (bits .or .u64 (bits .or .u64
      (IntKind.u64.wrap (IntKind.u64.wrap (c7.toNat : Int) * 72057594037927936)) (IntKind.u64.wrap (IntKind.u64.wrap (c6.toNat : Int) * 281474976710656)))
      (IntKind.u64.wrap (IntKind.u64.wrap (c5.toNat : Int) * 1099511627776))) (IntKind.u64.wrap (IntKind.u64.wrap (c4.toNat : Int) * 4294967296)))
      (IntKind.u64.wrap (IntKind.u64.wrap (c3.toNat : Int) * 16777216))) (IntKind.u64.wrap (IntKind.u64.wrap (c2.toNat : Int) * 65536)))
      (IntKind.u64.wrap (IntKind.u64.wrap (c1.toNat : Int) * 256))) (IntKind.u64.wrap (c0.toNat : Int)) = U (laneOf c0 c1 c2 c3 c4 c5 c6 c7) := by
  have e56 := wrap_shl_U (Z c7) 56
  have e48 := wrap_shl_U (Z c6) 48
  have e40 := wrap_shl_U (Z c5) 40
  have e32 := wrap_shl_U (Z c4) 32
  have e24 := wrap_shl_U (Z c3) 24
  have e16 := wrap_shl_U (Z c2) 16
  have e8 := wrap_shl_U (Z c1) 8
  simp only [Int.reducePow] at e56 e48 e40 e32 e24 e16 e8
  rw [wrap_byte, wrap_byte, wrap_byte, wrap_byte, wrap_byte, wrap_byte, wrap_byte, wrap_byte, e56, e48, e40, e32, e24, e16, e8]
  simp only [bits_or_U]
  rfl
set_option maxRecDepth 100000 in
set_option maxHeartbeats 1000000 in
theorem lane_core (w : World) (b o : Nat) (cap : Nat) (len : Nat) (c0 c1 c2 c3 c4 c5 c6 c7 : UInt8) (hl : 8 ≤ len)
    (h0 : w.cell? ⟨b, o, none⟩ = some (.int .u8 (c0.toNat : Int))) (h1 : w.cell? ⟨b, o + 1, none⟩ = some (.int .u8 (c1.toNat : Int))) (h2 : w.cell? ⟨b, o + 2, none⟩ = some (.int .u8 (c2.toNat : Int)))
    (h3 : w.cell? ⟨b, o + 3, none⟩ = some (.int .u8 (c3.toNat : Int))) (h4 : w.cell? ⟨b, o + 4, none⟩ = some (.int .u8 (c4.toNat : Int))) (h5 : w.cell? ⟨b, o + 5, none⟩ = some (.int .u8 (c5.toNat : Int)))
    (h6 : w.cell? ⟨b, o + 6, none⟩ = some (.int .u8 (c6.toNat : Int))) (h7 : w.cell? ⟨b, o + 7, none⟩ = some (.int .u8 (c7.toNat : Int))) :
    Calls Tryd.prog 38 #[.slice (some ⟨b, o, none⟩) len cap] w fun e w' => e = .returned (.int .u64 (U (laneOf c0 c1 c2 c3 c4 c5 c6 c7))) ∧ ∃ n, w' = w.drewN n := by
  have g0 : (0 : Int) < len := by omega
  have g1 : (1 : Int) < len := by omega
  have g2 : (2 : Int) < len := by omega
  have g3 : (3 : Int) < len := by omega
  have g4 : (4 : Int) < len := by omega
  have g5 : (5 : Int) < len := by omega
  have g6 : (6 : Int) < len := by omega
  have g7 : (7 : Int) < len := by omega
  go_enter Tryd.func38, Tryd.ntmps38
  go_wp2
  go_quiet (fail)
  go_wp2
  go_ret
  refine ⟨?_, _, rfl⟩
  rw [← lane_bits]
  rfl
theorem lane_any (w : World) (pb o len cap : Nat) (bs : List UInt8) (k : Nat) (hk : k + 8 ≤ bs.length) (hl : 8 ≤ len) (h : BytesAt w pb o bs) :
    Calls Tryd.prog 38 #[.slice (some ⟨pb, o + k, none⟩) len cap] w fun e w' => e = .returned (.int .u64 (U (laneAt bs k))) ∧ ∃ n, w' = w.drewN n :=
  lane_core w pb (o + k) cap len _ _ _ _ _ _ _ _ hl (h k (by omega)) (h (k + 1) (by omega)) (h (k + 2) (by omega)) (h (k + 3) (by omega)) (h (k + 4) (by omega)) (h (k + 5) (by omega)) (h (k + 6) (by omega)) (h (k + 7) (by omega))
def absorbTo (bs : List UInt8) (st : List (BitVec 64)) : Nat → List (BitVec 64)
  | 0 => st
  | k + 1 => (absorbTo bs st k).set k ((absorbTo bs st k).getD k 0 ^^^ laneAt bs (8 * k))
def roundsTo (st : List (BitVec 64)) : Nat → List (BitVec 64)
  | 0 => st
  | k + 1 => roundF (roundsTo st k) (roundNumbersT.getD k 0)
set_option maxRecDepth 100000 in
set_option maxHeartbeats 1000000 in
theorem take_any (w : World) (b : Nat) (hb : 4 ≤ b) (st : List (BitVec 64)) (h : St w b st) (ht : Tabs w) (pb o cap : Nat) (hpb : pb ≠ b) (hcap : 136 ≤ cap) (hmax : cap ≤ 1000000) (bs : List UInt8) (hbs : bs.length = 136) (hB : BytesAt w pb o bs) :
    Calls Tryd.prog 34 #[.pointer (some ⟨b, 0, none⟩), .slice (some ⟨pb, o, none⟩) 136 cap] w fun e w' => e = .returned (.tuple #[]) ∧ St w' b (roundsTo (absorbTo bs st 17) 24) ∧ w.grownBy w' (some b) := by
  go_enter Tryd.func34, Tryd.ntmps34
  go_wp2_with fail
  go_loopw [6] (fun i wr => ∃ k : Nat, k ≤ 17 ∧ i = .int .i64 (k : Int) ∧ St wr b (absorbTo bs st k) ∧ w.grownBy wr (some b)) (fun i _ => 17 - (intOf i).toNat)
  case atStart => exact ⟨0, by omega, rfl, h, grown_refl _ _⟩
  case round =>
    obtain ⟨k, hk, rfl, hst, hg⟩ := hrel
    by_cases hlt : k < 17
    · have hBr := hB.grown hg (by simpa using hpb)
      have c0 := hst.cell k (by omega)
      have hf := hst.frozen k
      generalize hS : absorbTo bs st k = S at *
      have HS : Hid (absorbTo bs st k = S) := hS
      generalize hx : S.getD k 0 = x at *
      have HX : Hid (S.getD k 0 = x) := hx
      have HL : Hid (bs.length = 136) := hbs
      clear hS hx h ht hB hbs
      have i1 : (k : Int) < 25 := by omega
      have i2 : 8 * (k : Int) ≤ 128 := by omega
      have n1 : ¬ cap = 8 * k := by omega
      have n2 : (8 * (k : Int)).toNat = 8 * k := by omega
      have ha := addr_add
      have hwr : IntKind.i64.wrap (8 * (k : Int)) = 8 * (k : Int) := by rw [IntKind.wrap_i64]; omega
      have hsl := fun W => slice_l W pb o 136 cap (8 * (k : Int)) (8 * k) (by omega) (by omega) (by omega)
      go_wp2_with fail
      go_region_with (go_at_call 38; refine (lane_any _ pb o _ _ bs (8 * k) (by have := HL.out; omega) (by omega) (by exact hBr)).mono ?_; rintro e w' ⟨rfl, n, rfl⟩)
      all_goals go_wp2
      all_goals
        go_roundw
        case rel =>
          rw [bits_xor_U]
          refine ⟨k + 1, by omega, by go_num, ?_, grown_set (grown_drewN hg _) _ _⟩
          simp only [absorbTo, HS.out, HX.out]
          exact (hst.drewN _).set k _
        case measure => simp [intOf]; omega
    · obtain rfl : k = 17 := by omega
      clear hlt hk
      generalize hS : absorbTo bs st 17 = S at *
      have HS : Hid (absorbTo bs st 17 = S) := hS
      clear hS h hB
      go_wp2_with fail
      go_loopw [23] (fun i wr => ∃ k : Nat, k ≤ 24 ∧ i = .int .i64 (k : Int) ∧ St wr b (roundsTo S k) ∧ w.grownBy wr (some b)) (fun i _ => 24 - (intOf i).toNat)
      case atStart => exact ⟨0, by omega, rfl, hst, hg⟩
      case round =>
        clear hst hg
        obtain ⟨k, hk, rfl, hst, hg⟩ := hrel
        by_cases hlt : k < 24
        · have hT := ht.grown hg hb
          have t0 := hT.nums k hlt
          generalize hn : roundNumbersT.getD k 0 = n at *
          have HN : Hid (roundNumbersT.getD k 0 = n) := hn
          generalize hR : roundsTo S k = R at *
          have HR : Hid (roundsTo S k = R) := hR
          clear hn hR ht
          have i1 : (k : Int) < 24 := by omega
          go_wp2_with fail
          refine (round_any _ b hb R n hst hT).mono ?_
          rintro e w1 ⟨rfl, h1, g1⟩
          clear hT t0
          go_wp2_with fail
          go_roundw
          case rel =>
            have hnew : St w1 b (roundsTo S (k + 1)) := by simp only [roundsTo, HR.out, HN.out]; exact h1
            repeat apply Exists.intro
            exact ⟨⟨k + 1, by omega, by go_num, hnew, grown_trans hg g1⟩, rfl⟩
          case measure => simp [intOf]; omega
        · obtain rfl : k = 24 := by omega
          go_wp2
          go_end0
          refine ⟨rfl, ?_, hg⟩
          rw [HS.out]
          exact hst
end Go.Proofs.YtdpoickggdgddabDoor

/-
  Bytes in memory: rows of the call's own, slices as they are handed over, make and copy.
-/
namespace Go.Proofs.YtdpoickggdgddabDoor
open Go.RowKit
section
variable {w : World} {b : Nat} {bs : List UInt8}
end

end Go.Proofs.YtdpoickggdgddabDoor

/-
  The walk that writes the digest's bytes.
-/
namespace Go.Proofs.YtdpoickggdgddabDoor
open Go.RowKit
/-- The digest's byte i. -/
def outByte (st : List (BitVec 64)) (i : Nat) : UInt8 := UInt8.ofNat ((st.getD (i / 8) 0 >>> (i % 8 * 8)).toNat)
def outTo (st : List (BitVec 64)) : Nat → List UInt8
  | 0 => List.replicate 32 0
  | k + 1 => (outTo st k).set k (outByte st k)
theorem outTo_len (st : List (BitVec 64)) (k : Nat) : (outTo st k).length = 32 := by
  induction k with
  | zero => rfl
  | succ k ih => simp [outTo, ih]
theorem mod_u8_U (x : BitVec 64) : U x % 256 = ((UInt8.ofNat x.toNat).toNat : Int) := by
  unfold U; simp
set_option maxRecDepth 100000 in
set_option maxHeartbeats 1000000 in
theorem out_any (w : World) (b : Nat) (st : List (BitVec 64)) (h : St w b st) :
    Calls Tryd.prog 35 #[.pointer (some ⟨b, 0, none⟩)] w fun e w' => e = .returned (.slice (some ⟨w.heap.size, 0, none⟩) 32 32) ∧ Bytes w' w.heap.size (outTo st 32) ∧ w.grownBy w' none := by
  have hmk : ∀ w, (Instr.makeSlice 24 (.int .i64 32) (.int .i64 32)).run Tryd.prog w = .ok (.slice (some ⟨w.heap.size, 0, none⟩) 32 32) (w.alloc (.cells (bytesOf (List.replicate 32 0)) 5)) := fun _ => by kernel_rfl
  have hbn : b ≠ w.heap.size := Nat.ne_of_lt h.lt
  go_enter Tryd.func35, Tryd.ntmps35
  go_wp2_with fail
  go_loopw [8] (fun i wr => ∃ k : Nat, k ≤ 32 ∧ i = .int .i64 (k : Int) ∧ St wr b st ∧ Bytes wr w.heap.size (outTo st k) ∧ w.grownBy wr none) (fun i _ => 32 - (intOf i).toNat)
  case atStart => exact ⟨0, by omega, rfl, h.alloc _, Bytes.new w 5 _, grown_alloc (grown_refl _ _) _⟩
  case round =>
    obtain ⟨k, hk, rfl, hst, ho, hg⟩ := hrel
    clear hmk
    by_cases hlt : k < 32
    · have c := hst.cell (k / 8) (by omega)
      have d := ho.cell k (by rw [outTo_len]; exact hlt)
      have hf := ho.frozen k
      generalize hS : outTo st k = S at *
      have HS : Hid (outTo st k = S) := hS
      generalize hx : st.getD (k / 8) 0 = x at *
      have HX : Hid (st.getD (k / 8) 0 = x) := hx
      clear hS hx h
      have i1 : (k : Int) < 32 := by omega
      have e1 : ((k : Int) / 8).toNat = k / 8 := by omega
      have e2 : ((k : Int) % 8 * 8).toNat = k % 8 * 8 := by omega
      have i2 : (k : Int) / 8 < 25 := by omega
      go_wp2
      go_roundw
      case rel =>
        have eb : ((UInt8.ofNat (x >>> (k % 8 * 8)).toNat).toNat : Int) = (outByte st k).toNat := by rw [← HX.out]; rfl
        rw [div_shr_U, mod_u8_U, eb]
        refine ⟨k + 1, by omega, by go_num, hst.setOther _ hbn _ _, ?_, grown_setNew hg _ (Nat.le_refl _) _ _⟩
        simp only [outTo, HS.out]
        exact ho.set k _
      case measure => simp [intOf]; omega
    · obtain rfl : k = 32 := by omega
      go_wp2
      go_ret
      exact ⟨rfl, ho, hg⟩
end Go.Proofs.YtdpoickggdgddabDoor
