/-
  append of bytes as a step of a region that draws its order.
-/
import Derived.Test.YtpefggkhjocanaaDoorSlM
namespace Go.Proofs.YtpefggkhjocanaaDoor
open Go.RowKit
theorem step_append_bytes {w : World} {ops : Array Oper} {o : Oper} {a : Act} {K : Act → World → Prop} {Q : Exit → Act → World → Prop} {E : Prop} (hgd : o.guard = none) (s x : Operand)
    (ho : o.op = .call { callee := .builtin .append, args := #[s, x], argTypes := #[34, 34] }) (base : Nat) (v : Value) (bs : List UInt8) (hs : a.eval s = v) (hown : Own base w v bs)
    (xa : Option Addr) (m cap : Nat) (cs : List UInt8) (hx : a.eval x = .slice xa m cap) (hsl : SliceIs w (.slice xa m cap) cs) (hbytes : bs.length + m ≤ 140737488355328) (hbase : base ≤ w.heap.size)
    (h : ∀ v' w', Own base w' v' (bs ++ cs) → w.grownBy w' v.ownBlock → K (a.put o.dst v') w') : if Region.wanted o (yielded ops a.tmps) = true then Oper.wp Tryd.prog o a w K Q else E := by
  have hw : Region.wanted o (yielded ops a.tmps) = true := by simp [Region.wanted, hgd]
  rw [if_pos hw]
  obtain ⟨v', w', hrun, ho', hg⟩ := append_bytes w base o.type v bs hown xa m cap cs hsl hbytes hbase
  unfold Oper.wp
  simp [execOp, ho, resolve, invoke, builtin, hs, hx, hrun, Result.andThen]
  exact h v' w' ho' hg
end Go.Proofs.YtpefggkhjocanaaDoor
