/-
  The walk of the padding.
-/
import Derived.Test.YtedmhejnbapklaaDoorOut
namespace Go.Proofs.YtedmhejnbapklaaDoor
open Go.RowKit
def padLen (n : Nat) : Nat := (n / 136 + 1) * 136
def padMark (bs : List UInt8) : List UInt8 := (bs ++ zeros (padLen bs.length - bs.length)).set bs.length 6
/-- What stands behind the bytes. -/
def padF (bs : List UInt8) : List UInt8 := (padMark bs).set (padLen bs.length - 1) ((padMark bs).getD (padLen bs.length - 1) 0 ||| 128)
theorem padMark_len (bs : List UInt8) : (padMark bs).length = padLen bs.length := by
  simp [padMark, zeros_len]; unfold padLen; omega
theorem padF_len (bs : List UInt8) : (padF bs).length = padLen bs.length := by simp [padF, padMark_len]
theorem or128 (c : UInt8) : bits .or .u8 ((c.toNat : Nat) : Int) 128 = ((c ||| 128).toNat : Int) := by
  have h : ∀ c : Fin 256, bits .or .u8 ((c.1 : Nat) : Int) 128 = (((UInt8.ofNat c.1) ||| 128).toNat : Int) := by decide +kernel
  have := h ⟨c.toNat, c.toNat_lt⟩
  simpa using this
set_option maxRecDepth 100000 in
set_option maxHeartbeats 1000000 in
theorem pad_any (w : World) (v : Value) (bs : List UInt8) (hv : SliceIs w v bs) (hl : bs.length ≤ 4000) :
    Calls Tryd.prog 85 #[v] w fun e w' => e = .returned (.slice (some ⟨w.heap.size, 0, none⟩) (padLen bs.length) (padLen bs.length)) ∧ Bytes w' w.heap.size (padF bs) ∧ w.grownBy w' none := by
  obtain ⟨a, cap, rfl, hc, hrest⟩ := hv
  have hv : SliceIs w (.slice a bs.length cap) bs := ⟨a, cap, rfl, hc, hrest⟩
  clear hrest
  have hmk := fun W => make_bytes W (((bs.length : Int) / 136 + 1) * 136) (padLen bs.length) (by unfold padLen; omega) (by unfold padLen; omega)
  have hN : bs.length < padLen bs.length := by unfold padLen; omega
  have hcp := fun ty => copy_bytes w a bs cap (padLen bs.length) (padLen bs.length) ty (by omega) hv
  have hmax : padLen bs.length ≤ 4080 := by unfold padLen; omega
  have hpl := padMark_len bs
  have HP : Hid (padMark bs = (bs ++ zeros (padLen bs.length - bs.length)).set bs.length 6) := rfl
  have HF : Hid (padF bs = (padMark bs).set (padLen bs.length - 1) ((padMark bs).getD (padLen bs.length - 1) 0 ||| 128)) := rfl
  have hb1 := Bytes.new w 5 (bs ++ zeros (padLen bs.length - bs.length))
  have hbl : (bs ++ zeros (padLen bs.length - bs.length)).length = padLen bs.length := by simp [zeros_len]; omega
  generalize bs ++ zeros (padLen bs.length - bs.length) = B1 at *
  generalize padMark bs = B2 at *
  generalize padF bs = B3 at *
  generalize padLen bs.length = N at *
  generalize bs.length = n at *
  have HPL : Hid (B2.length = N) := hpl
  have HBL : Hid (B1.length = N) := hbl
  clear hpl hbl hv hc
  have HB1 : Hid (Bytes (w.alloc (.cells (bytesOf B1) 5)) w.heap.size B1) := hb1
  clear hb1
  go_enter Tryd.func85, Tryd.ntmps85
  go_upto_region 3 with fail
  clear hmk hcp
  have hg1 : w.grownBy (w.alloc (.cells (bytesOf B1) 5)) none := World.grownBy_alloc _ _ _
  generalize w.alloc (.cells (bytesOf B1) 5) = W1 at *
  have c0 := HB1.out.cell n (by rw [HBL.out]; exact hN)
  have f0 := HB1.out.frozen n
  have i0 : (n : Int) < (N : Int) := by omega
  go_upto_region 4 with fail
  clear c0 f0
  have HB2 : Hid (Bytes (W1.setCell ⟨w.heap.size, n, none⟩ (.int .u8 6)) w.heap.size B2) := by show Bytes _ _ _; rw [HP.out]; exact HB1.out.set n 6
  have hg2 : w.grownBy (W1.setCell ⟨w.heap.size, n, none⟩ (.int .u8 6)) none := grown_setNew hg1 _ (Nat.le_refl _) _ _
  generalize W1.setCell ⟨w.heap.size, n, none⟩ (.int .u8 6) = W2 at *
  clear hg1 HB1 HP HBL
  have c0 := HB2.out.cell (N - 1) (by rw [HPL.out]; omega)
  have f0 := HB2.out.frozen (N - 1)
  generalize hx : B2.getD (N - 1) 0 = x at *
  have i1 : (N : Int) - 1 < (N : Int) := by omega
  have i2 : (0 : Int) ≤ (N : Int) - 1 := by omega
  have e1 : ((N : Int) - 1).toNat = N - 1 := by omega
  go_wp2
  go_ret
  rw [or128]
  refine ⟨rfl, ?_, grown_setNew hg2 _ (Nat.le_refl _) _ _⟩
  rw [HF.out]
  exact HB2.out.set (N - 1) _
end Go.Proofs.YtedmhejnbapklaaDoor
