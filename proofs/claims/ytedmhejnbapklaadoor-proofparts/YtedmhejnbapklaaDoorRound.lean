/-
  The walk of a round.
-/
import Derived.Test.YtedmhejnbapklaaDoorCols
import Derived.Test.YtedmhejnbapklaaDoorMove
namespace Go.Proofs.YtedmhejnbapklaaDoor
open Go.RowKit
theorem addTo_len (d st : List (BitVec 64)) (k : Nat) : (addTo d st k).length = st.length := by
  induction k with
  | zero => rfl
  | succ k ih => simp [addTo, addStep, ih]
theorem moveTo_len (st : List (BitVec 64)) (k : Nat) : (moveTo st k).1.length = st.length := by
  induction k with
  | zero => rfl
  | succ k ih => simp [moveTo, ih]
theorem rowsTo_len (st : List (BitVec 64)) (k : Nat) : (rowsTo st k).length = st.length := by
  induction k with
  | zero => rfl
  | succ k ih => simp [rowsTo, rowStep, ih]
/-- A round of P1.2. -/
def roundF (st : List (BitVec 64)) (n : BitVec 64) : List (BitVec 64) :=
  let r := rowsTo (moveTo (addTo (dOf (colsTo st 5)) st 5) 24).1 5
  r.set 0 (r.getD 0 0 ^^^ n)
set_option maxRecDepth 100000 in
set_option maxHeartbeats 1000000 in
theorem round_any (w : World) (b : Nat) (hb : 4 ≤ b) (st : List (BitVec 64)) (n : BitVec 64) (h : St w b st) (ht : Tabs w) :
    Calls Tryd.prog 92 #[.pointer (some ⟨b, 0, none⟩), .int .u64 (U n)] w fun e w' => e = .returned (.tuple #[]) ∧ St w' b (roundF st n) ∧ w.grownBy w' (some b) := by
  go_enter Tryd.func92, Tryd.ntmps92
  go_wp2_with fail
  refine (cols_any _ b st h).mono ?_
  rintro e w1 ⟨rfl, h1, g1⟩
  go_wp2_with fail
  refine (move_any _ b hb _ h1 (ht.grown g1 hb)).mono ?_
  rintro e w2 ⟨rfl, h2, g2⟩
  go_wp2_with fail
  refine (rows_any _ b _ h2).mono ?_
  rintro e w3 ⟨rfl, h3, g3⟩
  have g := grown_trans g1 (grown_trans g2 g3)
  clear g1 g2 g3 h1 h2 h ht
  have HR : Hid (roundF st n = (rowsTo (moveTo (addTo (dOf (colsTo st 5)) st 5) 24).1 5).set 0 ((rowsTo (moveTo (addTo (dOf (colsTo st 5)) st 5) 24).1 5).getD 0 0 ^^^ n)) := rfl
  generalize rowsTo (moveTo (addTo (dOf (colsTo st 5)) st 5) 24).1 5 = S at *
  have c0 := h3.cell 0 (by omega)
  have hf := h3.frozen 0
  generalize hx : S.getD 0 0 = x at *
  clear hx
  go_wp2_with fail
  go_region
  go_wp2_with fail
  go_end0
  refine ⟨rfl, ?_, grown_drew (grown_set g 0 _)⟩
  rw [HR.out, bits_xor_U]
  exact (h3.set 0 _).drew
end Go.Proofs.YtedmhejnbapklaaDoor
