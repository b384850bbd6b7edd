/-
  Texts: their bytes, a piece, append of a text's bytes.
-/
import Derived.Test.YtpefggkhjocanaaDoorSlM
import Derived.Lib.AppendStr
namespace Go.Proofs.YtpefggkhjocanaaDoor
open Go.RowKit
def tl (s : ByteArray) : List UInt8 := s.data.toList
theorem tl_size (s : ByteArray) : s.size = (tl s).length := Lib.size_eq s
theorem tl_get (s : ByteArray) (i : Nat) (h : i < s.size) : (tl s).getD i 0 = s[i] := by
  have h2 : i < s.data.size := h
  rw [tl, List.getD_eq_getElem?_getD, Array.getElem?_toList, Array.getElem?_eq_getElem h2]
  rfl
theorem tl_text (bs : List UInt8) : tl (textOf bs) = bs := rfl
theorem text_tl (s : ByteArray) : textOf (tl s) = s := Lib.mk_data s
theorem tl_inj {s t : ByteArray} (h : tl s = tl t) : s = t := by rw [← text_tl s, h, text_tl]
theorem tl_extract (s : ByteArray) (a b : Nat) : tl (s.extract a b) = ((tl s).drop a).take (b - a) := Lib.extract_data s a b
theorem text_append (a b : List UInt8) : textOf a ++ textOf b = textOf (a ++ b) := by
  apply tl_inj
  show (textOf a ++ textOf b).data.toList = a ++ b
  rw [ByteArray.data_append]
  simp [textOf]
theorem strCells_vals (bs : List UInt8) : Lib.strCells (textOf bs) = vals bs := by
  simp [Lib.strCells, textOf, vals]
/-- append(v, s...) of a text. -/
theorem wpList_append_text {w : World} {ops : Array Oper} {rest : List Oper} {o : Oper} {a : Act} {Q : Exit → Act → World → Prop} (hgd : o.guard = none) (s x : Operand)
    (ho : o.op = .call { callee := .builtin .append, args := #[s, x], argTypes := #[34, 9] }) (base : Nat) (v : Value) (bs : List UInt8) (hs : a.eval s = v) (hown : Own base w v bs)
    (cs : List UInt8) (hx : a.eval x = .string (textOf cs)) (hbytes : bs.length + cs.length ≤ 140737488355328) (hbase : base ≤ w.heap.size)
    (h : ∀ v' w', Own base w' v' (bs ++ cs) → w.grownBy w' v.ownBlock → wpList Tryd.prog ops Q rest (a.put o.dst v') w') : wpList Tryd.prog ops Q (o :: rest) a w := by
  obtain ⟨i0, hi, hz0, hz1, hz2⟩ := info_parts info5
  have hsz : (textOf cs).size = cs.length := tl_size _
  refine Lib.wpList_append_own_string w hgd s x 34 9 ho base 5 i0 Tryd.underlying34 Tryd.underlying9 hi hz0 hz1 hz2 v bs.length (vals bs) hs hown (textOf cs) hx (by rw [hsz]; unfold maxLen; omega) (by rw [hsz]; exact hbytes) hbase ?_
  intro v' w' h1 h2 _
  refine h v' w' ?_ h2
  unfold Own
  rw [vals_append, List.length_append]
  rw [hsz, strCells_vals] at h1
  exact h1
end Go.Proofs.YtpefggkhjocanaaDoor
