/-
  strconv.Itoa as package lines calls it.
-/
import Derived.Test.YtpefggkhjocanaaDoorLnTab
import Derived.Test.YtpefggkhjocanaaDoorLibI
namespace Go.Proofs.YtpefggkhjocanaaDoor
open Go.RowKit Go.Shelf
theorem decD_lib : ∀ n : Nat, Lib.decDigits n = decD n := by
  intro n
  induction n using Nat.strongRecOn with
  | _ n ih =>
    by_cases h : n < 10
    · rw [decD_small h, Lib.decDigits, dif_pos h]; rfl
    · rw [decD_big h, Lib.decDigits, dif_neg h, ih (n / 10) (by omega)]; rfl
theorem itoa_any (n : Nat) (hn : n ≤ 1000000) (w : World) (hT : WrdT w) :
    Calls Tryd.prog 33 #[.int .i64 (n : Int)] w fun e w' => e = .returned (.string (textOf (decD n))) ∧ w.grownBy w' none := by
  refine (Any.strconv_Itoa layItoa (n : Int) (by omega) (by omega) w hT.pow).mono ?_
  rintro e w' ⟨rfl, k, os, rfl⟩
  have e1 : Lib.itoa (n : Int) = decD n := by
    rw [Lib.itoa, if_neg (by omega), Int.toNat_natCast, decD_lib]
  rw [e1]
  refine ⟨rfl, rfl, rfl, rfl, ?_, fun i hi _ => ?_⟩
  · show w.heap.size ≤ (w.heap ++ os).size
    simp
  · show (w.heap ++ os)[i]? = w.heap[i]?
    exact Array.getElem?_append_left hi
end Go.Proofs.YtpefggkhjocanaaDoor
