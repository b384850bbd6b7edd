/-
  A round of the program is a round of the document's answer.
-/
import Derived.Test.YtdpoickggdgddaaDoorRMov
import Derived.Test.YtdpoickggdgddaaDoorRRow
import Derived.Test.YtdpoickggdgddaaDoorRound
import Derived.KernelRfl
namespace Go.Proofs.YtdpoickggdgddaaDoor
theorem list25 (st : List (BitVec 64)) (h : st.length = 25) : ∃ a0 a1 a2 a3 a4 a5 a6 a7 a8 a9 a10 a11 a12 a13 a14 a15 a16 a17 a18 a19 a20 a21 a22 a23 a24, st = [a0, a1, a2, a3, a4, a5, a6, a7, a8, a9, a10, a11, a12, a13, a14, a15, a16, a17, a18, a19, a20, a21, a22, a23, a24] := by
  match st, h with
  | [a0, a1, a2, a3, a4, a5, a6, a7, a8, a9, a10, a11, a12, a13, a14, a15, a16, a17, a18, a19, a20, a21, a22, a23, a24], _ => exact ⟨a0, a1, a2, a3, a4, a5, a6, a7, a8, a9, a10, a11, a12, a13, a14, a15, a16, a17, a18, a19, a20, a21, a22, a23, a24, rfl⟩
theorem col_eq (st : List (BitVec 64)) (x : Nat) : colTo st x 5 = colAt st x := by
  simp [colTo, colAt]
def parG (st : List (BitVec 64)) (i : Nat) : BitVec 64 := st.getD i 0 ^^^ (colAt st ((i % 5 + 4) % 5) ^^^ rotl (colAt st ((i % 5 + 1) % 5)) 1)
theorem parF_eq (st : List (BitVec 64)) (i : Nat) : parF st i = parG st i := by
  unfold parF parG
  rw [col_eq, col_eq, BitVec.xor_assoc]
theorem par_eq (st : List (BitVec 64)) (h : st.length = 25) : outL (parF st) = addTo (dOf (colsTo st 5)) st 5 := by
  rw [outL_congr (parF st) (parG st) fun i _ => parF_eq st i]
  obtain ⟨a0, a1, a2, a3, a4, a5, a6, a7, a8, a9, a10, a11, a12, a13, a14, a15, a16, a17, a18, a19, a20, a21, a22, a23, a24, rfl⟩ := list25 st h
  kernel_rfl
theorem mov_eq (st : List (BitVec 64)) (h : st.length = 25) : movedTo st 24 = (moveTo st 24).1 := by
  obtain ⟨a0, a1, a2, a3, a4, a5, a6, a7, a8, a9, a10, a11, a12, a13, a14, a15, a16, a17, a18, a19, a20, a21, a22, a23, a24, rfl⟩ := list25 st h
  kernel_rfl
def rowG (st : List (BitVec 64)) (i : Nat) : BitVec 64 := st.getD i 0 ^^^ (st.getD ((i % 5 + 2) % 5 + 5 * (i / 5)) 0 &&& ~~~ st.getD ((i % 5 + 1) % 5 + 5 * (i / 5)) 0)
theorem rowF_eq (st : List (BitVec 64)) (i : Nat) : rowF st i = rowG st i := by
  unfold rowF rowG
  rw [BitVec.and_comm]
theorem row_eq (st : List (BitVec 64)) (h : st.length = 25) : outL (rowF st) = rowsTo st 5 := by
  rw [outL_congr (rowF st) (rowG st) fun i _ => rowF_eq st i]
  obtain ⟨a0, a1, a2, a3, a4, a5, a6, a7, a8, a9, a10, a11, a12, a13, a14, a15, a16, a17, a18, a19, a20, a21, a22, a23, a24, rfl⟩ := list25 st h
  kernel_rfl
end Go.Proofs.YtdpoickggdgddaaDoor
