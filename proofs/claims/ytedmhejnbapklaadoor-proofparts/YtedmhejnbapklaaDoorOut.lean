/-
  The walk that writes the digest's bytes.
-/
import Derived.Test.YtedmhejnbapklaaDoorPart1
namespace Go.Proofs.YtedmhejnbapklaaDoor
open Go.RowKit
/-- The digest's byte i. -/
def outByte (st : List (BitVec 64)) (i : Nat) : UInt8 := UInt8.ofNat ((st.getD (i / 8) 0 >>> (i % 8 * 8)).toNat)
def outTo (st : List (BitVec 64)) : Nat → List UInt8
  | 0 => List.replicate 32 0
  | k + 1 => (outTo st k).set k (outByte st k)
theorem outTo_len (st : List (BitVec 64)) (k : Nat) : (outTo st k).length = 32 := by
  induction k with
  | zero => rfl
  | succ k ih => simp [outTo, ih]
theorem mod_u8_U (x : BitVec 64) : U x % 256 = ((UInt8.ofNat x.toNat).toNat : Int) := by
  unfold U; simp
set_option maxRecDepth 100000 in
set_option maxHeartbeats 1000000 in
theorem out_any (w : World) (b : Nat) (st : List (BitVec 64)) (h : St w b st) :
    Calls Tryd.prog 87 #[.pointer (some ⟨b, 0, none⟩)] w fun e w' => e = .returned (.slice (some ⟨w.heap.size, 0, none⟩) 32 32) ∧ Bytes w' w.heap.size (outTo st 32) ∧ w.grownBy w' none := by
  have hmk : ∀ w, (Instr.makeSlice 23 (.int .i64 32) (.int .i64 32)).run Tryd.prog w = .ok (.slice (some ⟨w.heap.size, 0, none⟩) 32 32) (w.alloc (.cells (bytesOf (List.replicate 32 0)) 5)) := fun _ => by kernel_rfl
  have hbn : b ≠ w.heap.size := Nat.ne_of_lt h.lt
  go_enter Tryd.func87, Tryd.ntmps87
  go_wp2_with fail
  go_loopw [8] (fun i wr => ∃ k : Nat, k ≤ 32 ∧ i = .int .i64 (k : Int) ∧ St wr b st ∧ Bytes wr w.heap.size (outTo st k) ∧ w.grownBy wr none) (fun i _ => 32 - (intOf i).toNat)
  case atStart => exact ⟨0, by omega, rfl, h.alloc _, Bytes.new w 5 _, grown_alloc (grown_refl _ _) _⟩
  case round =>
    obtain ⟨k, hk, rfl, hst, ho, hg⟩ := hrel
    clear hmk
    by_cases hlt : k < 32
    · have c := hst.cell (k / 8) (by omega)
      have d := ho.cell k (by rw [outTo_len]; exact hlt)
      have hf := ho.frozen k
      generalize hS : outTo st k = S at *
      have HS : Hid (outTo st k = S) := hS
      generalize hx : st.getD (k / 8) 0 = x at *
      have HX : Hid (st.getD (k / 8) 0 = x) := hx
      clear hS hx h
      have i1 : (k : Int) < 32 := by omega
      have e1 : ((k : Int) / 8).toNat = k / 8 := by omega
      have e2 : ((k : Int) % 8 * 8).toNat = k % 8 * 8 := by omega
      have i2 : (k : Int) / 8 < 25 := by omega
      go_wp2
      go_roundw
      case rel =>
        have eb : ((UInt8.ofNat (x >>> (k % 8 * 8)).toNat).toNat : Int) = (outByte st k).toNat := by rw [← HX.out]; rfl
        rw [div_shr_U, mod_u8_U, eb]
        refine ⟨k + 1, by omega, by go_num, hst.setOther _ hbn _ _, ?_, grown_setNew hg _ (Nat.le_refl _) _ _⟩
        simp only [outTo, HS.out]
        exact ho.set k _
      case measure => simp [intOf]; omega
    · obtain rfl : k = 32 := by omega
      go_wp2
      go_ret
      exact ⟨rfl, ho, hg⟩
end Go.Proofs.YtedmhejnbapklaaDoor
