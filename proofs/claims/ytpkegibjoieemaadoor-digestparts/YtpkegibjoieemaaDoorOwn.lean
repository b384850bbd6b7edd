/-
  Slices of bytes that the call itself has made: what append leaves; a prefix of a slice.
-/
import Derived.Test.YtpkegibjoieemaaDoorMem
namespace Go.Proofs.YtpkegibjoieemaaDoor
open Go.RowKit

def vals (bs : List UInt8) : List Value := bs.map fun c => Value.int .u8 (c.toNat : Int)
theorem vals_len (bs : List UInt8) : (vals bs).length = bs.length := by simp [vals]
theorem vals_append (a b : List UInt8) : vals (a ++ b) = vals a ++ vals b := by simp [vals]
theorem vals_get (bs : List UInt8) (j : Nat) (u : Value) (h : (vals bs)[j]? = some u) : j < bs.length ∧ u = .int .u8 ((bs.getD j 0).toNat : Int) := by
  rw [vals, List.getElem?_map] at h
  cases hb : bs[j]? with
  | none => rw [hb] at h; simp at h
  | some c =>
    rw [hb] at h
    simp at h
    exact ⟨(List.getElem?_eq_some_iff.1 hb).1, by simp [hb, ← h]⟩
/-- The slice v is the call's own, from block 'base' on, and has these bytes. -/
def Own (base : Nat) (w : World) (v : Value) (bs : List UInt8) : Prop := w.ownsRow base 5 1 v bs.length (vals bs)
theorem own_nil (base : Nat) (w : World) : Own base w (.slice none 0 0) [] := World.ownsRow_nil _ _ _ _
theorem Own.grown {base : Nat} {w w' : World} {v : Value} {bs : List UInt8} (h : Own base w v bs) {row : Option Nat} (hg : w.grownBy w' row) (hne : v.ownBlock = none ∨ v.ownBlock ≠ row) : Own base w' v bs := World.ownsRow.kept h hg hne
theorem Own.grownNone {base : Nat} {w w' : World} {v : Value} {bs : List UInt8} (h : Own base w v bs) (hg : w.grownBy w' none) : Own base w' v bs := by
  refine h.grown hg ?_
  cases hv : v.ownBlock with
  | none => exact .inl rfl
  | some k => exact .inr (by simp)
theorem Own.alloc {base : Nat} {w : World} {v : Value} {bs : List UInt8} (h : Own base w v bs) (o : Obj) : Own base (w.alloc o) v bs := World.ownsRow.alloc h o
theorem Own.slice {base : Nat} {w : World} {v : Value} {bs : List UInt8} (h : Own base w v bs) : SliceIs w v bs := by
  obtain ⟨h1, h2⟩ := h
  rcases h2 with ⟨rfl, h0⟩ | ⟨g, cap, cur, rfl, hb, hg, hn, hm, hs, ht⟩
  · obtain rfl := List.eq_nil_of_length_eq_zero h0
    exact sliceIs_nil w
  · refine ⟨_, cap, rfl, hn, .inr ⟨g, 0, rfl, ?_⟩⟩
    intro i hi
    have hc : cur.toList[i]? = some (.int .u8 ((bs.getD i 0).toNat : Int)) := by
      have e : (cur.toList.take (bs.length * 1))[i]? = (vals bs)[i]? := by rw [ht]
      rw [List.getElem?_take, if_pos (by omega)] at e
      rw [e, vals, List.getElem?_map, List.getElem?_eq_getElem hi]
      simp [hi]
    simp [World.cell?, hg]
    simpa using hc
theorem Own.lt {base : Nat} {w : World} {v : Value} {bs : List UInt8} (h : Own base w v bs) : ∀ k, v.ownBlock = some k → base ≤ k ∧ k < w.heap.size := World.ownsRow.lt h
theorem Own.shape {base : Nat} {w : World} {v : Value} {bs : List UInt8} (h : Own base w v bs) : ∃ a cap, v = .slice a bs.length cap := by
  obtain ⟨a, cap, e, _⟩ := h.slice
  exact ⟨a, cap, e⟩
theorem own_new (base : Nat) (w : World) (bs : List UInt8) (hb : base ≤ w.heap.size) (hm : bs.length ≤ maxLen) : Own base (w.alloc (.cells (bytesOf bs) 5)) (.slice (some ⟨w.heap.size, 0, none⟩) bs.length bs.length) bs :=
  ⟨by simp [vals], .inr ⟨w.heap.size, bs.length, bytesOf bs, rfl, hb, heap_alloc_new w _, Nat.le_refl _, hm, by simp [bytesOf], by simp [bytesOf, vals, List.take_of_length_le]⟩⟩

/-- Behind an append onto what is the call's own nothing older has turned. -/
theorem grown_own {w W w1 : World} {v : Value} {bs : List UInt8} (h : w.grownBy W none) (ho : Own w.heap.size W v bs) (hg : W.grownBy w1 v.ownBlock) : w.grownBy w1 none :=
  ⟨hg.os.trans h.os, hg.tape.trans h.tape, hg.output.trans h.output, Nat.le_trans h.size hg.size, fun i hi hn => (hg.block i (Nat.lt_of_lt_of_le hi h.size) (fun e => by have := (ho.lt i e.symm).1; omega)).trans (h.block i hi hn)⟩
/-- append(v, x...) onto bytes of the call's own, from whatever slice. -/
theorem append_bytes (w : World) (base ty : Nat) (v : Value) (bs : List UInt8) (hown : Own base w v bs) (a : Option Addr) (m cap : Nat) (cs : List UInt8) (hs : SliceIs w (.slice a m cap) cs) (hbytes : bs.length + m ≤ 140737488355328) (hbase : base ≤ w.heap.size) :
    ∃ v' w', (Builtin.append_ #[22, 22] ty #[v, .slice a m cap]).run Tryd.prog w = .ok v' w' ∧ Own base w' v' (bs ++ cs) ∧ w.grownBy w' v.ownBlock := by
  obtain ⟨i0, hi, hz0, hz1, hz2⟩ := info_parts info5
  obtain ⟨a', cap', e, hc, h⟩ := hs
  simp only [Value.slice.injEq] at e
  obtain ⟨rfl, rfl, rfl⟩ := e
  have h63 : bs.length + cs.length ≤ maxLen := by unfold maxLen; omega
  have key : ∀ ad : Addr, (∀ j u, (vals cs)[j]? = some u → w.cell? (ad.add j) = some u) → ∃ v' w', (Builtin.append_ #[22, 22] ty #[v, .slice (some ad) cs.length cap]).run Tryd.prog w = .ok v' w' ∧ Own base w' v' (bs ++ cs) ∧ w.grownBy w' v.ownBlock := by
    intro ad hnews
    obtain ⟨v', w', hr, ho, hg, _⟩ := run_append_own (P := Tryd.prog) w base 22 ty 5 i0 (.int .u8 0) 1 1 Tryd.underlying22 hi hz0 hz1 hz2 rfl (by decide) v bs.length (vals bs) hown ad cs.length cap (vals cs) (by simp [vals]) hnews (bytes_oneCell cs) h63 (by omega) hbase
    refine ⟨v', w', hr, ?_, hg⟩
    unfold Own
    rw [vals_append, List.length_append]
    exact ho
  rcases h with ⟨rfl, hz⟩ | ⟨b, o, rfl, h⟩
  · cases a with
    | none =>
      obtain rfl := hz rfl
      refine ⟨v, w, run_append_owned_none (P := Tryd.prog) (w := w) base 22 ty 5 i0 1 Tryd.underlying22 hi v bs.length (vals bs) hown, ?_, grown_refl _ _⟩
      rw [List.append_nil]
      exact hown
    | some ad => exact key ad (by simp [vals])
  · refine key ⟨b, o, none⟩ fun j u hj => ?_
    obtain ⟨hlt, rfl⟩ := vals_get cs j u hj
    rw [addr_add]
    exact h j hlt
/-- The same, as a law for the walk. -/
theorem wpList_append_bytes {w : World} {ops : Array Oper} {rest : List Oper} {o : Oper} {a : Act} {Q : Exit → Act → World → Prop} (hgd : o.guard = none) (s x : Operand)
    (ho : o.op = .call { callee := .builtin .append, args := #[s, x], argTypes := #[22, 22] }) (base : Nat) (v : Value) (bs : List UInt8) (hs : a.eval s = v) (hown : Own base w v bs)
    (xa : Option Addr) (m cap : Nat) (cs : List UInt8) (hx : a.eval x = .slice xa m cap) (hsl : SliceIs w (.slice xa m cap) cs) (hbytes : bs.length + m ≤ 140737488355328) (hbase : base ≤ w.heap.size)
    (h : ∀ v' w', Own base w' v' (bs ++ cs) → w.grownBy w' v.ownBlock → wpList Tryd.prog ops Q rest (a.put o.dst v') w') : wpList Tryd.prog ops Q (o :: rest) a w := by
  refine wpList_plain hgd fun K hK => ?_
  obtain ⟨v', w', hrun, ho', hg⟩ := append_bytes w base o.type v bs hown xa m cap cs hsl hbytes hbase
  unfold Oper.wp
  simp [execOp, ho, resolve, invoke, builtin, hs, hx, hrun, Result.andThen]
  exact hK _ _ (h v' w' ho' hg)
theorem SliceIs.take {w : World} {a : Option Addr} {m cap : Nat} {bs : List UInt8} (h : SliceIs w (.slice a m cap) bs) (k : Nat) (hk : k ≤ m) : SliceIs w (.slice a k cap) (bs.take k) := by
  obtain ⟨a', cap', e, hc, h⟩ := h
  simp only [Value.slice.injEq] at e
  obtain ⟨rfl, rfl, rfl⟩ := e
  have hl : (bs.take k).length = k := by simp; omega
  refine ⟨a, cap, by rw [hl], by omega, ?_⟩
  rcases h with ⟨rfl, hz⟩ | ⟨b, o, rfl, h⟩
  · exact .inl ⟨by simp, hz⟩
  · refine .inr ⟨b, o, rfl, fun i hi => ?_⟩
    rw [h i (by omega)]
    rw [hl] at hi
    simp [hi]
end Go.Proofs.YtpkegibjoieemaaDoor
