/-
  Bytes in memory, for every seat: rows of the call's own, slices as they are handed over, make, copy, append, texts of bytes. No function of the program is named.
-/
import Derived.Test.YtpefggkhjocanaaDoorChecked
import Derived.WalkKit
import Derived.WalkSpells
import Derived.WalkLawsBesides
import Derived.BigRegion
import Derived.Deep.QuietTactic
import Derived.BigQuiet
import Derived.Deep.RegionHeld3
import Derived.Deep.DeepCutAuto
import Derived.Lib.Strings
namespace Go.Proofs.YtpefggkhjocanaaDoor
open Go.RowKit

theorem grown_refl (w : World) (r : Option Nat) : w.grownBy w r := ⟨rfl, rfl, rfl, Nat.le_refl _, fun _ _ _ => rfl⟩
theorem grown_trans {w w1 w2 : World} {r : Option Nat} (h : w.grownBy w1 r) (k : w1.grownBy w2 r) : w.grownBy w2 r :=
  ⟨k.os.trans h.os, k.tape.trans h.tape, k.output.trans h.output, Nat.le_trans h.size k.size, fun i hi hn => (k.block i (Nat.lt_of_lt_of_le hi h.size) hn).trans (h.block i hi hn)⟩
theorem grown_drew {w w1 : World} {r : Option Nat} (h : w.grownBy w1 r) : w.grownBy w1.drew r := ⟨h.os, h.tape, h.output, h.size, h.block⟩
theorem grown_drewN {w w1 : World} {r : Option Nat} (h : w.grownBy w1 r) (n : Nat) : w.grownBy (w1.drewN n) r := ⟨h.os, h.tape, h.output, h.size, h.block⟩
theorem grown_set {w w1 : World} {b : Nat} (h : w.grownBy w1 (some b)) (i : Nat) (v : Value) : w.grownBy (w1.setCell ⟨b, i, none⟩ v) (some b) :=
  grown_trans h ⟨rfl, rfl, rfl, by simp [World.setCell], fun k _ hn => Below.heap_setCell _ _ _ _ (by intro e; exact hn (by rw [e]))⟩

theorem grown_alloc {w w1 : World} {r : Option Nat} (h : w.grownBy w1 r) (o : Obj) : w.grownBy (w1.alloc o) r := grown_trans h (World.grownBy_alloc _ _ _)
/-- A write to a block that came later. -/
theorem grown_new {w w1 w2 : World} {r : Option Nat} {c : Nat} (h : w.grownBy w1 r) (hc : w.heap.size ≤ c) (k : w1.grownBy w2 (some c)) : w.grownBy w2 r :=
  ⟨k.os.trans h.os, k.tape.trans h.tape, k.output.trans h.output, Nat.le_trans h.size k.size, fun i hi hn => (k.block i (Nat.lt_of_lt_of_le hi h.size) (by simp; omega)).trans (h.block i hi hn)⟩
theorem grown_setNew {w w1 : World} {r : Option Nat} (h : w.grownBy w1 r) (c : Nat) (hc : w.heap.size ≤ c) (i : Nat) (v : Value) : w.grownBy (w1.setCell ⟨c, i, none⟩ v) r :=
  grown_new h hc (grown_set (grown_refl _ _) i v)

theorem addr_add (b o n : Nat) : (⟨b, o, none⟩ : Addr).add n = ⟨b, o + n, none⟩ := by
  unfold Addr.add; split
  · simp_all
  · rfl
theorem size22 (w : World) : (sizeOf (Tryd.prog.elem 34)).run Tryd.prog w = .ok 1 w := by kernel_rfl
theorem slice_l (W : World) (pb o len cap : Nat) (l : Int) (n : Nat) (hn : l = (n : Int)) (h1 : n ≤ len) (hc : n < cap) :
    (Instr.slice 34 (.slice (some ⟨pb, o, none⟩) len cap) (some (.int .i64 l)) none none).run Tryd.prog W = .ok (.slice (some ⟨pb, o + n, none⟩) (len - n) (cap - n)) W := by
  subst hn
  rw [run_slice_l _ _ _ _ _ (by kernel_rfl) _ _ (by omega) (by omega), size22]
  simp only [Result.andThen, sliced, Int.toNat_natCast, Option.map_some, Nat.mul_one, addr_add]
  rw [if_neg (by omega)]
theorem slice_h (W : World) (pb o len cap : Nat) (l : Int) (n : Nat) (hn : l = (n : Int)) (hc : n ≤ cap) (h0 : 0 < cap) :
    (Instr.slice 34 (.slice (some ⟨pb, o, none⟩) len cap) none (some (.int .i64 l)) none).run Tryd.prog W = .ok (.slice (some ⟨pb, o, none⟩) n cap) W := by
  subst hn
  rw [run_slice_h _ _ _ _ _ (by kernel_rfl) _ _ (by omega) (by omega), size22]
  simp only [Result.andThen, sliced, Int.toNat_natCast, Option.map_some, Nat.mul_one, addr_add]
  rw [if_neg (by omega)]
  simp
/-- Bytes in memory, from an address on. -/
def BytesAt (w : World) (pb o : Nat) (bs : List UInt8) : Prop := ∀ i, i < bs.length → w.cell? ⟨pb, o + i, none⟩ = some (.int .u8 ((bs.getD i 0).toNat : Int))
theorem BytesAt.drew {w : World} {pb o : Nat} {bs : List UInt8} (h : BytesAt w pb o bs) : BytesAt w.drew pb o bs := h
theorem BytesAt.grown {w w' : World} {pb o : Nat} {bs : List UInt8} {r : Option Nat} (h : BytesAt w pb o bs) (hg : w.grownBy w' r) (hr : some pb ≠ r) : BytesAt w' pb o bs :=
  fun i hi => hg.cell (h i hi) hr
def bytesOf (bs : List UInt8) : Array Value := (bs.map fun c => Value.int .u8 (c.toNat : Int)).toArray
/-- Block b holds bytes. -/
def Bytes (w : World) (b : Nat) (bs : List UInt8) : Prop := ∃ t, w.heap[b]? = some (.cells (bytesOf bs) t (0, 0))
section
variable {w : World} {b : Nat} {bs : List UInt8}
theorem Bytes.cell (h : Bytes w b bs) (i : Nat) (hi : i < bs.length) : w.cell? ⟨b, i, none⟩ = some (.int .u8 ((bs.getD i 0).toNat : Int)) := by
  obtain ⟨t, hb⟩ := h
  simp [World.cell?, hb, bytesOf, List.getElem?_map, List.getElem?_eq_getElem hi]
theorem Bytes.frozen (h : Bytes w b bs) (i : Nat) : w.frozen? ⟨b, i, none⟩ = false := by
  obtain ⟨t, hb⟩ := h
  simp [World.frozen?, hb]
theorem Bytes.lt (h : Bytes w b bs) : b < w.heap.size := by
  obtain ⟨t, hb⟩ := h
  exact (Array.getElem?_eq_some_iff.1 hb).1
theorem bytesOf_set (bs : List UInt8) (i : Nat) (x : UInt8) : (bytesOf bs).setIfInBounds i (.int .u8 (x.toNat : Int)) = bytesOf (bs.set i x) := by
  simp [bytesOf]
theorem Bytes.set (h : Bytes w b bs) (i : Nat) (x : UInt8) : Bytes (w.setCell ⟨b, i, none⟩ (.int .u8 (x.toNat : Int))) b (bs.set i x) := by
  obtain ⟨t, hb⟩ := h
  refine ⟨t, ?_⟩
  simp only [World.setCell, Array.getElem?_modify, if_true, hb, Option.map_some]
  simp [bytesOf_set]
theorem Bytes.drewN (h : Bytes w b bs) (k : Nat) : Bytes (w.drewN k) b bs := h
theorem Bytes.drew (h : Bytes w b bs) : Bytes w.drew b bs := h
theorem Bytes.alloc (h : Bytes w b bs) (o : Obj) : Bytes (w.alloc o) b bs := by
  have hl := h.lt
  obtain ⟨t, hb⟩ := h
  exact ⟨t, by rw [Below.heap_alloc _ _ _ hl]; exact hb⟩
theorem Bytes.grown (h : Bytes w b bs) {w' : World} {r : Option Nat} (hg : w.grownBy w' r) (hr : some b ≠ r) : Bytes w' b bs := by
  have hl := h.lt
  obtain ⟨t, hb⟩ := h
  exact ⟨t, by rw [hg.block b hl hr]; exact hb⟩
theorem Bytes.new (w : World) (t : TypeId) (bs : List UInt8) : Bytes (w.alloc (.cells (bytesOf bs) t)) w.heap.size bs := ⟨t, heap_alloc_new w _⟩
theorem Bytes.at (h : Bytes w b bs) (o : Nat) (cs : List UInt8) (hc : ∀ i, i < cs.length → o + i < bs.length ∧ bs.getD (o + i) 0 = cs.getD i 0) : BytesAt w b o cs := by
  intro i hi
  rw [h.cell (o + i) (hc i hi).1, (hc i hi).2]
end

/-- A slice of bytes, as it is handed over: where it has any, they lie in a row. -/
def SliceIs (w : World) (v : Value) (bs : List UInt8) : Prop :=
  ∃ a cap, v = .slice a bs.length cap ∧ bs.length ≤ cap ∧ ((bs = [] ∧ (a = none → cap = 0)) ∨ ∃ b o, a = some ⟨b, o, none⟩ ∧ BytesAt w b o bs)
theorem SliceIs.grown {w w' : World} {v : Value} {bs : List UInt8} (h : SliceIs w v bs) (hg : w.grownBy w' none) : SliceIs w' v bs := by
  obtain ⟨a, cap, rfl, hc, h⟩ := h
  refine ⟨a, cap, rfl, hc, ?_⟩
  rcases h with h | ⟨b, o, rfl, h⟩
  · exact .inl h
  · exact .inr ⟨b, o, rfl, h.grown hg (by simp)⟩
theorem SliceIs.alloc {w : World} {v : Value} {bs : List UInt8} (h : SliceIs w v bs) (o : Obj) : SliceIs (w.alloc o) v bs := h.grown (World.grownBy_alloc _ _ _)
theorem SliceIs.drew {w : World} {v : Value} {bs : List UInt8} (h : SliceIs w v bs) : SliceIs w.drew v bs := h
theorem SliceIs.drewN {w : World} {v : Value} {bs : List UInt8} (h : SliceIs w v bs) (n : Nat) : SliceIs (w.drewN n) v bs := h
theorem Bytes.slice {w : World} {b : Nat} {bs : List UInt8} (h : Bytes w b bs) (cap : Nat) (hc : bs.length ≤ cap) : SliceIs w (.slice (some ⟨b, 0, none⟩) bs.length cap) bs :=
  ⟨_, cap, rfl, hc, .inr ⟨b, 0, rfl, h.at 0 bs fun i hi => by simpa using hi⟩⟩
theorem sliceIs_nil (w : World) : SliceIs w (.slice none 0 0) [] := ⟨none, 0, rfl, Nat.le_refl _, .inl ⟨rfl, fun _ => rfl⟩⟩

/-- So many noughts. -/
def zeros (n : Nat) : List UInt8 := List.replicate n 0
theorem zeros_len (n : Nat) : (zeros n).length = n := by simp [zeros]
theorem made_bytes (n : Nat) : madeCells (Value.int .u8 0).cells (n * 1) = bytesOf (zeros n) := by
  apply Array.ext
  · simp [size_madeCells, bytesOf, zeros]
  · intro i h1 h2
    simp [madeCells, bytesOf, zeros, Value.cells, Nat.mod_one]
theorem info5 : (Tryd.prog.info? 5).map (fun i => (i.zero, i.size, i.bytes)) = some (some (.int .u8 0), 1, 1) := by kernel_rfl
theorem size5 : (Tryd.prog.info? 5).map (·.size) = some 1 := by kernel_rfl
theorem make_bytes (W : World) (c : Int) (n : Nat) (hc : c = (n : Int)) (hn : n ≤ 1000000) :
    (Instr.makeSlice 34 (.int .i64 c) (.int .i64 c)).run Tryd.prog W = .ok (.slice (some ⟨W.heap.size, 0, none⟩) n n) (W.alloc (.cells (bytesOf (zeros n)) 5)) := by
  subst hc
  obtain ⟨i0, hi, hz0, hz1, hz2⟩ := info_parts info5
  have h := run_make (P := Tryd.prog) W 34 5 i0 (.int .u8 0) Tryd.underlying34 hi hz0 .i64 .i64 (n : Int) (n : Int) (by omega) (Int.le_refl _) (by rw [hz2]; omega) (by omega)
  rw [h, hz1, Int.toNat_natCast, made_bytes]
theorem bytes_oneCell (bs : List UInt8) : ∀ v ∈ (bs.map fun c => Value.int .u8 (c.toNat : Int)), v.oneCell' = true := by
  intro v hv
  obtain ⟨c, _, rfl⟩ := List.mem_map.1 hv
  rfl
theorem setRow_alloc (w : World) (X Y : Array Value) (t : TypeId) : (w.alloc (.cells X t)).setRow w.heap.size Y = w.alloc (.cells Y t) := by
  simp only [World.setRow, World.alloc]
  congr 1
  apply Array.ext
  · simp
  · intro i h1 h2
    simp only [Array.getElem_modify, Array.getElem_push]
    have hi : i < w.heap.size + 1 := by simpa using h2
    split <;> split <;> first | rfl | omega | (exfalso; omega) | simp_all
/-- copy into noughts that were just made. -/
theorem copy_bytes (w : World) (a : Option Addr) (bs : List UInt8) (cap n m ty : Nat) (hn : bs.length ≤ n) (hs : SliceIs w (.slice a bs.length cap) bs) :
    (Builtin.copy_ #[34, 34] ty #[.slice (some ⟨w.heap.size, 0, none⟩) n m, .slice a bs.length cap]).run Tryd.prog (w.alloc (.cells (bytesOf (zeros n)) 5)) = .ok (.int .i64 (bs.length : Int)) (w.alloc (.cells (bytesOf (bs ++ zeros (n - bs.length))) 5)) := by
  obtain ⟨a', cap', e, hc, h⟩ := hs.alloc (.cells (bytesOf (zeros n)) 5)
  simp only [Value.slice.injEq, true_and] at e
  obtain ⟨rfl, rfl⟩ := e
  by_cases h0 : bs = []
  · subst h0
    have := run_copy_none (P := Tryd.prog) (w.alloc (.cells (bytesOf (zeros n)) 5)) 34 34 ty 5 (some ⟨w.heap.size, 0, none⟩) a n m 0 cap Tryd.underlying34 size5 (by simp)
    simpa [goInt] using this
  · rcases h with h | ⟨b, o, rfl, h⟩
    · exact absurd h.1 h0
    · have := run_copy_row (P := Tryd.prog) (w.alloc (.cells (bytesOf (zeros n)) 5)) 34 34 ty 5 w.heap.size 0 n m ⟨b, o, none⟩ bs.length cap (bytesOf (zeros n)) 5 (bs.map fun c => Value.int .u8 (c.toNat : Int)) Tryd.underlying34 size5 (heap_alloc_new w _)
        (by simp only [List.length_map]; exact (Nat.min_eq_left hn).symm) (by
          intro j v hj
          rw [List.getElem?_map] at hj
          cases hb : bs[j]? with
          | none => rw [hb] at hj; simp at hj
          | some c =>
            rw [hb] at hj
            simp at hj
            subst hj
            rw [addr_add]
            have hlt : j < bs.length := (List.getElem?_eq_some_iff.1 hb).1
            rw [h j hlt]
            simp [hb]) (by simp [bytesOf, zeros]; exact hn) (bytes_oneCell bs)
      rw [this, setRow_alloc]
      simp [goInt, bytesOf, zeros]
def vals (bs : List UInt8) : List Value := bs.map fun c => Value.int .u8 (c.toNat : Int)
theorem vals_len (bs : List UInt8) : (vals bs).length = bs.length := by simp [vals]
theorem vals_append (a b : List UInt8) : vals (a ++ b) = vals a ++ vals b := by simp [vals]
theorem vals_get (bs : List UInt8) (j : Nat) (u : Value) (h : (vals bs)[j]? = some u) : j < bs.length ∧ u = .int .u8 ((bs.getD j 0).toNat : Int) := by
  rw [vals, List.getElem?_map] at h
  cases hb : bs[j]? with
  | none => rw [hb] at h; simp at h
  | some c =>
    rw [hb] at h
    simp at h
    exact ⟨(List.getElem?_eq_some_iff.1 hb).1, by simp [hb, ← h]⟩
/-- The slice v is the call's own, from block 'base' on, and has these bytes. -/
def Own (base : Nat) (w : World) (v : Value) (bs : List UInt8) : Prop := w.ownsRow base 5 1 v bs.length (vals bs)
theorem own_nil (base : Nat) (w : World) : Own base w (.slice none 0 0) [] := World.ownsRow_nil _ _ _ _
theorem Own.grown {base : Nat} {w w' : World} {v : Value} {bs : List UInt8} (h : Own base w v bs) {row : Option Nat} (hg : w.grownBy w' row) (hne : v.ownBlock = none ∨ v.ownBlock ≠ row) : Own base w' v bs := World.ownsRow.kept h hg hne
theorem Own.grownNone {base : Nat} {w w' : World} {v : Value} {bs : List UInt8} (h : Own base w v bs) (hg : w.grownBy w' none) : Own base w' v bs := by
  refine h.grown hg ?_
  cases hv : v.ownBlock with
  | none => exact .inl rfl
  | some k => exact .inr (by simp)
theorem Own.alloc {base : Nat} {w : World} {v : Value} {bs : List UInt8} (h : Own base w v bs) (o : Obj) : Own base (w.alloc o) v bs := World.ownsRow.alloc h o
theorem Own.slice {base : Nat} {w : World} {v : Value} {bs : List UInt8} (h : Own base w v bs) : SliceIs w v bs := by
  obtain ⟨h1, h2⟩ := h
  rcases h2 with ⟨rfl, h0⟩ | ⟨g, cap, cur, rfl, hb, hg, hn, hm, hs, ht⟩
  · obtain rfl := List.eq_nil_of_length_eq_zero h0
    exact sliceIs_nil w
  · refine ⟨_, cap, rfl, hn, .inr ⟨g, 0, rfl, ?_⟩⟩
    intro i hi
    have hc : cur.toList[i]? = some (.int .u8 ((bs.getD i 0).toNat : Int)) := by
      have e : (cur.toList.take (bs.length * 1))[i]? = (vals bs)[i]? := by rw [ht]
      rw [List.getElem?_take, if_pos (by omega)] at e
      rw [e, vals, List.getElem?_map, List.getElem?_eq_getElem hi]
      simp [hi]
    simp [World.cell?, hg]
    simpa using hc
theorem Own.lt {base : Nat} {w : World} {v : Value} {bs : List UInt8} (h : Own base w v bs) : ∀ k, v.ownBlock = some k → base ≤ k ∧ k < w.heap.size := World.ownsRow.lt h
theorem Own.shape {base : Nat} {w : World} {v : Value} {bs : List UInt8} (h : Own base w v bs) : ∃ a cap, v = .slice a bs.length cap := by
  obtain ⟨a, cap, e, _⟩ := h.slice
  exact ⟨a, cap, e⟩
theorem own_new (base : Nat) (w : World) (bs : List UInt8) (hb : base ≤ w.heap.size) (hm : bs.length ≤ maxLen) : Own base (w.alloc (.cells (bytesOf bs) 5)) (.slice (some ⟨w.heap.size, 0, none⟩) bs.length bs.length) bs :=
  ⟨by simp [vals], .inr ⟨w.heap.size, bs.length, bytesOf bs, rfl, hb, heap_alloc_new w _, Nat.le_refl _, hm, by simp [bytesOf], by simp [bytesOf, vals, List.take_of_length_le]⟩⟩

/-- Behind an append onto what is the call's own nothing older has turned. -/
theorem grown_own {w W w1 : World} {v : Value} {bs : List UInt8} (h : w.grownBy W none) (ho : Own w.heap.size W v bs) (hg : W.grownBy w1 v.ownBlock) : w.grownBy w1 none :=
  ⟨hg.os.trans h.os, hg.tape.trans h.tape, hg.output.trans h.output, Nat.le_trans h.size hg.size, fun i hi hn => (hg.block i (Nat.lt_of_lt_of_le hi h.size) (fun e => by have := (ho.lt i e.symm).1; omega)).trans (h.block i hi hn)⟩
/-- append(v, x...) onto bytes of the call's own, from whatever slice. -/
theorem append_bytes (w : World) (base ty : Nat) (v : Value) (bs : List UInt8) (hown : Own base w v bs) (a : Option Addr) (m cap : Nat) (cs : List UInt8) (hs : SliceIs w (.slice a m cap) cs) (hbytes : bs.length + m ≤ 140737488355328) (hbase : base ≤ w.heap.size) :
    ∃ v' w', (Builtin.append_ #[34, 34] ty #[v, .slice a m cap]).run Tryd.prog w = .ok v' w' ∧ Own base w' v' (bs ++ cs) ∧ w.grownBy w' v.ownBlock := by
  obtain ⟨i0, hi, hz0, hz1, hz2⟩ := info_parts info5
  obtain ⟨a', cap', e, hc, h⟩ := hs
  simp only [Value.slice.injEq] at e
  obtain ⟨rfl, rfl, rfl⟩ := e
  have h63 : bs.length + cs.length ≤ maxLen := by unfold maxLen; omega
  have key : ∀ ad : Addr, (∀ j u, (vals cs)[j]? = some u → w.cell? (ad.add j) = some u) → ∃ v' w', (Builtin.append_ #[34, 34] ty #[v, .slice (some ad) cs.length cap]).run Tryd.prog w = .ok v' w' ∧ Own base w' v' (bs ++ cs) ∧ w.grownBy w' v.ownBlock := by
    intro ad hnews
    obtain ⟨v', w', hr, ho, hg, _⟩ := run_append_own (P := Tryd.prog) w base 34 ty 5 i0 (.int .u8 0) 1 1 Tryd.underlying34 hi hz0 hz1 hz2 rfl (by decide) v bs.length (vals bs) hown ad cs.length cap (vals cs) (by simp [vals]) hnews (bytes_oneCell cs) h63 (by omega) hbase
    refine ⟨v', w', hr, ?_, hg⟩
    unfold Own
    rw [vals_append, List.length_append]
    exact ho
  rcases h with ⟨rfl, hz⟩ | ⟨b, o, rfl, h⟩
  · cases a with
    | none =>
      obtain rfl := hz rfl
      refine ⟨v, w, run_append_owned_none (P := Tryd.prog) (w := w) base 34 ty 5 i0 1 Tryd.underlying34 hi v bs.length (vals bs) hown, ?_, grown_refl _ _⟩
      rw [List.append_nil]
      exact hown
    | some ad => exact key ad (by simp [vals])
  · refine key ⟨b, o, none⟩ fun j u hj => ?_
    obtain ⟨hlt, rfl⟩ := vals_get cs j u hj
    rw [addr_add]
    exact h j hlt
/-- The same, as a law for the walk. -/
theorem wpList_append_bytes {w : World} {ops : Array Oper} {rest : List Oper} {o : Oper} {a : Act} {Q : Exit → Act → World → Prop} (hgd : o.guard = none) (s x : Operand)
    (ho : o.op = .call { callee := .builtin .append, args := #[s, x], argTypes := #[34, 34] }) (base : Nat) (v : Value) (bs : List UInt8) (hs : a.eval s = v) (hown : Own base w v bs)
    (xa : Option Addr) (m cap : Nat) (cs : List UInt8) (hx : a.eval x = .slice xa m cap) (hsl : SliceIs w (.slice xa m cap) cs) (hbytes : bs.length + m ≤ 140737488355328) (hbase : base ≤ w.heap.size)
    (h : ∀ v' w', Own base w' v' (bs ++ cs) → w.grownBy w' v.ownBlock → wpList Tryd.prog ops Q rest (a.put o.dst v') w') : wpList Tryd.prog ops Q (o :: rest) a w := by
  refine wpList_plain hgd fun K hK => ?_
  obtain ⟨v', w', hrun, ho', hg⟩ := append_bytes w base o.type v bs hown xa m cap cs hsl hbytes hbase
  unfold Oper.wp
  simp [execOp, ho, resolve, invoke, builtin, hs, hx, hrun, Result.andThen]
  exact hK _ _ (h v' w' ho' hg)
theorem SliceIs.take {w : World} {a : Option Addr} {m cap : Nat} {bs : List UInt8} (h : SliceIs w (.slice a m cap) bs) (k : Nat) (hk : k ≤ m) : SliceIs w (.slice a k cap) (bs.take k) := by
  obtain ⟨a', cap', e, hc, h⟩ := h
  simp only [Value.slice.injEq] at e
  obtain ⟨rfl, rfl, rfl⟩ := e
  have hl : (bs.take k).length = k := by simp; omega
  refine ⟨a, cap, by rw [hl], by omega, ?_⟩
  rcases h with ⟨rfl, hz⟩ | ⟨b, o, rfl, h⟩
  · exact .inl ⟨by simp, hz⟩
  · refine .inr ⟨b, o, rfl, fun i hi => ?_⟩
    rw [h i (by omega)]
    rw [hl] at hi
    simp [hi]
theorem fold_push (bs : List UInt8) (s : ByteArray) : ((bs.map fun c => ((c.toNat : Nat) : Int)).foldl (fun r n => r.push (UInt8.ofNat n.toNat)) s) = ⟨s.data ++ bs.toArray⟩ := by
  induction bs generalizing s with
  | nil => simp
  | cons c bs ih =>
    simp only [List.map_cons, List.foldl_cons]
    rw [ih]
    congr 1
    simp [ByteArray.push]
/-- A text of bytes. -/
def textOf (bs : List UInt8) : ByteArray := ⟨bs.toArray⟩
theorem textOf_list (bs : List UInt8) : (textOf bs).toList = bs := by rw [Lib.toList_data]; rfl
theorem conv_bytes (W : World) (v : Value) (bs : List UInt8) (hs : SliceIs W v bs) : (convert 34 9 v).run Tryd.prog W = .ok (.string (textOf bs)) W := by
  obtain ⟨a, cap, rfl, hc, h⟩ := hs
  rw [run_convert_bytes_string W 34 9 5 a bs.length cap Tryd.underlying34 Tryd.underlying5 Tryd.underlying9]
  have key : ∀ ad : Addr, (∀ j u, (vals bs)[j]? = some u → W.cell? (ad.add j) = some u) → (Conv.bytesToString (.slice (some ad) bs.length cap)).run Tryd.prog W = .ok (.string (textOf bs)) W := by
    intro ad hcells
    have hl := run_loadCells_list (P := Tryd.prog) W ad (vals bs) hcells
    rw [vals_len] at hl
    have := run_bytesToString (P := Tryd.prog) W ad bs.length cap (bs.map fun c => ((c.toNat : Nat) : Int)) (by rw [hl]; simp [vals])
    rw [this, fold_push]
    simp [textOf]
  rcases h with ⟨rfl, hz⟩ | ⟨b, o, rfl, h⟩
  · cases a with
    | none => simp [Conv.bytesToString, textOf]; rfl
    | some ad => exact key ad (by simp [vals])
  · refine key ⟨b, o, none⟩ fun j u hj => ?_
    obtain ⟨hlt, rfl⟩ := vals_get bs j u hj
    rw [addr_add]
    exact h j hlt
theorem Bytes.slice32 {w : World} {b : Nat} {bs : List UInt8} (h : Bytes w b bs) (hl : bs.length = 32) : SliceIs w (.slice (some ⟨b, 0, none⟩) 32 32) bs := by
  have := h.slice 32 (by omega)
  rw [hl] at this
  exact this
/-- A fact about functions that reckon much, kept from the walk. -/
def Kept (p : Prop) : Prop := ∀ _ : Unit, p
theorem Kept.out {p : Prop} (h : Kept p) : p := h ()
theorem one_slice (w : World) (x : UInt8) (t : TypeId) : SliceIs (w.alloc (.cells #[.int .u8 (x.toNat : Int)] t)) (.slice (some ⟨w.heap.size, 0, none⟩) 1 1) [x] :=
  (Bytes.new w t [x]).slice 1 (by simp)
theorem two_slice (w : World) (x y : UInt8) (t : TypeId) : SliceIs (w.alloc (.cells #[.int .u8 (x.toNat : Int), .int .u8 (y.toNat : Int)] t)) (.slice (some ⟨w.heap.size, 0, none⟩) 2 2) [x, y] :=
  (Bytes.new w t [x, y]).slice 2 (by simp)
theorem own_mono {base base' : Nat} {w : World} {v : Value} {bs : List UInt8} (h : Own base w v bs) (hb : base' ≤ base) : Own base' w v bs := by
  refine ⟨h.1, ?_⟩
  rcases h.2 with h2 | ⟨g, cap, cur, h1, h2, h3⟩
  · exact .inl h2
  · exact .inr ⟨g, cap, cur, h1, Nat.le_trans hb h2, h3⟩
theorem wrap64_eq (n : Int) : wrap64 n = IntKind.i64.wrap n := by rw [IntKind.wrap_i64]; unfold wrap64; rfl
end Go.Proofs.YtpefggkhjocanaaDoor
