/-
  The walk of canopykeep.same: two slices of bytes as texts.
-/
import Derived.Test.YtpkegibjoieemaaDoorOwn
import Derived.Lib.Strings
namespace Go.Proofs.YtpkegibjoieemaaDoor
open Go.RowKit
theorem fold_push (bs : List UInt8) (s : ByteArray) : ((bs.map fun c => ((c.toNat : Nat) : Int)).foldl (fun r n => r.push (UInt8.ofNat n.toNat)) s) = ⟨s.data ++ bs.toArray⟩ := by
  induction bs generalizing s with
  | nil => simp
  | cons c bs ih =>
    simp only [List.map_cons, List.foldl_cons]
    rw [ih]
    congr 1
    simp [ByteArray.push]
/-- A text of bytes. -/
def textOf (bs : List UInt8) : ByteArray := ⟨bs.toArray⟩
theorem textOf_list (bs : List UInt8) : (textOf bs).toList = bs := by rw [Lib.toList_data]; rfl
theorem conv_bytes (W : World) (v : Value) (bs : List UInt8) (hs : SliceIs W v bs) : (convert 22 9 v).run Tryd.prog W = .ok (.string (textOf bs)) W := by
  obtain ⟨a, cap, rfl, hc, h⟩ := hs
  rw [run_convert_bytes_string W 22 9 5 a bs.length cap Tryd.underlying22 Tryd.underlying5 Tryd.underlying9]
  have key : ∀ ad : Addr, (∀ j u, (vals bs)[j]? = some u → W.cell? (ad.add j) = some u) → (Conv.bytesToString (.slice (some ad) bs.length cap)).run Tryd.prog W = .ok (.string (textOf bs)) W := by
    intro ad hcells
    have hl := run_loadCells_list (P := Tryd.prog) W ad (vals bs) hcells
    rw [vals_len] at hl
    have := run_bytesToString (P := Tryd.prog) W ad bs.length cap (bs.map fun c => ((c.toNat : Nat) : Int)) (by rw [hl]; simp [vals])
    rw [this, fold_push]
    simp [textOf]
  rcases h with ⟨rfl, hz⟩ | ⟨b, o, rfl, h⟩
  · cases a with
    | none => simp [Conv.bytesToString, textOf]; rfl
    | some ad => exact key ad (by simp [vals])
  · refine key ⟨b, o, none⟩ fun j u hj => ?_
    obtain ⟨hlt, rfl⟩ := vals_get bs j u hj
    rw [addr_add]
    exact h j hlt
theorem same_any (w : World) (v1 v2 : Value) (b1 b2 : List UInt8) (h1 : SliceIs w v1 b1) (h2 : SliceIs w v2 b2) :
    Calls Tryd.prog 15 #[v1, v2] w fun e w' => e = .returned (.bool (decide (b1 = b2))) ∧ w' = w := by
  have c1 := conv_bytes w v1 b1 h1
  have c2 := conv_bytes w v2 b2 h2
  go_enter Tryd.func15, Tryd.ntmps15
  go_wp2
  go_ret
  refine ⟨?_, rfl⟩
  have e : ((textOf b1).toList == (textOf b2).toList) = decide (b1 = b2) := by rw [textOf_list, textOf_list]; by_cases h : b1 = b2 <;> simp [h]
  rw [← e]
  rfl
theorem Bytes.slice32 {w : World} {b : Nat} {bs : List UInt8} (h : Bytes w b bs) (hl : bs.length = 32) : SliceIs w (.slice (some ⟨b, 0, none⟩) 32 32) bs := by
  have := h.slice 32 (by omega)
  rw [hl] at this
  exact this
end Go.Proofs.YtpkegibjoieemaaDoor
