/-
  Bytes in memory: rows of the call's own, slices as they are handed over, make and copy.
-/
import Derived.Test.YtpkegibjoieemaaDoorTake
namespace Go.Proofs.YtpkegibjoieemaaDoor
open Go.RowKit
def bytesOf (bs : List UInt8) : Array Value := (bs.map fun c => Value.int .u8 (c.toNat : Int)).toArray
/-- Block b holds bytes. -/
def Bytes (w : World) (b : Nat) (bs : List UInt8) : Prop := ∃ t, w.heap[b]? = some (.cells (bytesOf bs) t (0, 0))
section
variable {w : World} {b : Nat} {bs : List UInt8}
theorem Bytes.cell (h : Bytes w b bs) (i : Nat) (hi : i < bs.length) : w.cell? ⟨b, i, none⟩ = some (.int .u8 ((bs.getD i 0).toNat : Int)) := by
  obtain ⟨t, hb⟩ := h
  simp [World.cell?, hb, bytesOf, List.getElem?_map, List.getElem?_eq_getElem hi]
theorem Bytes.frozen (h : Bytes w b bs) (i : Nat) : w.frozen? ⟨b, i, none⟩ = false := by
  obtain ⟨t, hb⟩ := h
  simp [World.frozen?, hb]
theorem Bytes.lt (h : Bytes w b bs) : b < w.heap.size := by
  obtain ⟨t, hb⟩ := h
  exact (Array.getElem?_eq_some_iff.1 hb).1
theorem bytesOf_set (bs : List UInt8) (i : Nat) (x : UInt8) : (bytesOf bs).setIfInBounds i (.int .u8 (x.toNat : Int)) = bytesOf (bs.set i x) := by
  simp [bytesOf]
theorem Bytes.set (h : Bytes w b bs) (i : Nat) (x : UInt8) : Bytes (w.setCell ⟨b, i, none⟩ (.int .u8 (x.toNat : Int))) b (bs.set i x) := by
  obtain ⟨t, hb⟩ := h
  refine ⟨t, ?_⟩
  simp only [World.setCell, Array.getElem?_modify, if_true, hb, Option.map_some]
  simp [bytesOf_set]
theorem Bytes.drewN (h : Bytes w b bs) (k : Nat) : Bytes (w.drewN k) b bs := h
theorem Bytes.drew (h : Bytes w b bs) : Bytes w.drew b bs := h
theorem Bytes.alloc (h : Bytes w b bs) (o : Obj) : Bytes (w.alloc o) b bs := by
  have hl := h.lt
  obtain ⟨t, hb⟩ := h
  exact ⟨t, by rw [Below.heap_alloc _ _ _ hl]; exact hb⟩
theorem Bytes.grown (h : Bytes w b bs) {w' : World} {r : Option Nat} (hg : w.grownBy w' r) (hr : some b ≠ r) : Bytes w' b bs := by
  have hl := h.lt
  obtain ⟨t, hb⟩ := h
  exact ⟨t, by rw [hg.block b hl hr]; exact hb⟩
theorem Bytes.new (w : World) (t : TypeId) (bs : List UInt8) : Bytes (w.alloc (.cells (bytesOf bs) t)) w.heap.size bs := ⟨t, heap_alloc_new w _⟩
theorem Bytes.at (h : Bytes w b bs) (o : Nat) (cs : List UInt8) (hc : ∀ i, i < cs.length → o + i < bs.length ∧ bs.getD (o + i) 0 = cs.getD i 0) : BytesAt w b o cs := by
  intro i hi
  rw [h.cell (o + i) (hc i hi).1, (hc i hi).2]
end

/-- A slice of bytes, as it is handed over: where it has any, they lie in a row. -/
def SliceIs (w : World) (v : Value) (bs : List UInt8) : Prop :=
  ∃ a cap, v = .slice a bs.length cap ∧ bs.length ≤ cap ∧ ((bs = [] ∧ (a = none → cap = 0)) ∨ ∃ b o, a = some ⟨b, o, none⟩ ∧ BytesAt w b o bs)
theorem SliceIs.grown {w w' : World} {v : Value} {bs : List UInt8} (h : SliceIs w v bs) (hg : w.grownBy w' none) : SliceIs w' v bs := by
  obtain ⟨a, cap, rfl, hc, h⟩ := h
  refine ⟨a, cap, rfl, hc, ?_⟩
  rcases h with h | ⟨b, o, rfl, h⟩
  · exact .inl h
  · exact .inr ⟨b, o, rfl, h.grown hg (by simp)⟩
theorem SliceIs.alloc {w : World} {v : Value} {bs : List UInt8} (h : SliceIs w v bs) (o : Obj) : SliceIs (w.alloc o) v bs := h.grown (World.grownBy_alloc _ _ _)
theorem SliceIs.drew {w : World} {v : Value} {bs : List UInt8} (h : SliceIs w v bs) : SliceIs w.drew v bs := h
theorem SliceIs.drewN {w : World} {v : Value} {bs : List UInt8} (h : SliceIs w v bs) (n : Nat) : SliceIs (w.drewN n) v bs := h
theorem Bytes.slice {w : World} {b : Nat} {bs : List UInt8} (h : Bytes w b bs) (cap : Nat) (hc : bs.length ≤ cap) : SliceIs w (.slice (some ⟨b, 0, none⟩) bs.length cap) bs :=
  ⟨_, cap, rfl, hc, .inr ⟨b, 0, rfl, h.at 0 bs fun i hi => by simpa using hi⟩⟩
theorem sliceIs_nil (w : World) : SliceIs w (.slice none 0 0) [] := ⟨none, 0, rfl, Nat.le_refl _, .inl ⟨rfl, fun _ => rfl⟩⟩

/-- So many noughts. -/
def zeros (n : Nat) : List UInt8 := List.replicate n 0
theorem zeros_len (n : Nat) : (zeros n).length = n := by simp [zeros]
theorem made_bytes (n : Nat) : madeCells (Value.int .u8 0).cells (n * 1) = bytesOf (zeros n) := by
  apply Array.ext
  · simp [size_madeCells, bytesOf, zeros]
  · intro i h1 h2
    simp [madeCells, bytesOf, zeros, Value.cells, Nat.mod_one]
theorem info5 : (Tryd.prog.info? 5).map (fun i => (i.zero, i.size, i.bytes)) = some (some (.int .u8 0), 1, 1) := by kernel_rfl
theorem size5 : (Tryd.prog.info? 5).map (·.size) = some 1 := by kernel_rfl
theorem make_bytes (W : World) (c : Int) (n : Nat) (hc : c = (n : Int)) (hn : n ≤ 1000000) :
    (Instr.makeSlice 22 (.int .i64 c) (.int .i64 c)).run Tryd.prog W = .ok (.slice (some ⟨W.heap.size, 0, none⟩) n n) (W.alloc (.cells (bytesOf (zeros n)) 5)) := by
  subst hc
  obtain ⟨i0, hi, hz0, hz1, hz2⟩ := info_parts info5
  have h := run_make (P := Tryd.prog) W 22 5 i0 (.int .u8 0) Tryd.underlying22 hi hz0 .i64 .i64 (n : Int) (n : Int) (by omega) (Int.le_refl _) (by rw [hz2]; omega) (by omega)
  rw [h, hz1, Int.toNat_natCast, made_bytes]
theorem bytes_oneCell (bs : List UInt8) : ∀ v ∈ (bs.map fun c => Value.int .u8 (c.toNat : Int)), v.oneCell' = true := by
  intro v hv
  obtain ⟨c, _, rfl⟩ := List.mem_map.1 hv
  rfl
theorem setRow_alloc (w : World) (X Y : Array Value) (t : TypeId) : (w.alloc (.cells X t)).setRow w.heap.size Y = w.alloc (.cells Y t) := by
  simp only [World.setRow, World.alloc]
  congr 1
  apply Array.ext
  · simp
  · intro i h1 h2
    simp only [Array.getElem_modify, Array.getElem_push]
    have hi : i < w.heap.size + 1 := by simpa using h2
    split <;> split <;> first | rfl | omega | (exfalso; omega) | simp_all
/-- copy into noughts that were just made. -/
theorem copy_bytes (w : World) (a : Option Addr) (bs : List UInt8) (cap n m ty : Nat) (hn : bs.length ≤ n) (hs : SliceIs w (.slice a bs.length cap) bs) :
    (Builtin.copy_ #[22, 22] ty #[.slice (some ⟨w.heap.size, 0, none⟩) n m, .slice a bs.length cap]).run Tryd.prog (w.alloc (.cells (bytesOf (zeros n)) 5)) = .ok (.int .i64 (bs.length : Int)) (w.alloc (.cells (bytesOf (bs ++ zeros (n - bs.length))) 5)) := by
  obtain ⟨a', cap', e, hc, h⟩ := hs.alloc (.cells (bytesOf (zeros n)) 5)
  simp only [Value.slice.injEq, true_and] at e
  obtain ⟨rfl, rfl⟩ := e
  by_cases h0 : bs = []
  · subst h0
    have := run_copy_none (P := Tryd.prog) (w.alloc (.cells (bytesOf (zeros n)) 5)) 22 22 ty 5 (some ⟨w.heap.size, 0, none⟩) a n m 0 cap Tryd.underlying22 size5 (by simp)
    simpa [goInt] using this
  · rcases h with h | ⟨b, o, rfl, h⟩
    · exact absurd h.1 h0
    · have := run_copy_row (P := Tryd.prog) (w.alloc (.cells (bytesOf (zeros n)) 5)) 22 22 ty 5 w.heap.size 0 n m ⟨b, o, none⟩ bs.length cap (bytesOf (zeros n)) 5 (bs.map fun c => Value.int .u8 (c.toNat : Int)) Tryd.underlying22 size5 (heap_alloc_new w _)
        (by simp only [List.length_map]; exact (Nat.min_eq_left hn).symm) (by
          intro j v hj
          rw [List.getElem?_map] at hj
          cases hb : bs[j]? with
          | none => rw [hb] at hj; simp at hj
          | some c =>
            rw [hb] at hj
            simp at hj
            subst hj
            rw [addr_add]
            have hlt : j < bs.length := (List.getElem?_eq_some_iff.1 hb).1
            rw [h j hlt]
            simp [hb]) (by simp [bytesOf, zeros]; exact hn) (bytes_oneCell bs)
      rw [this, setRow_alloc]
      simp [goInt, bytesOf, zeros]
end Go.Proofs.YtpkegibjoieemaaDoor
