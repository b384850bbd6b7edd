/-
  The contracts of package forest at forests, as canopykeep's laws use them.
-/
import Derived.Test.YtpmfbfflacbmjabPart11
import Derived.Test.YtpmfbfflacbmjabPart7
import Derived.Test.YtpmfbfflacbmjabPart1
namespace Go.Proofs.Ytpmfbfflacbmjab
open Go.RowKit
theorem FGetOK.of (hG : FGetOK) (w : World) (v r u : Value) (f : FL) (n k : List UInt8) (hv : TensIs w v f) (hr : SliceIs w r n) (hu : SliceIs w u k) (hF : Forest f) (hn : 1 ≤ n.length ∧ n.length ≤ 8) (hk : 1 ≤ k.length ∧ k.length ≤ 16) :
    Calls Try.prog 16 #[v, r, u] w fun e w' => ∃ xa xc, e = .returned (.tuple #[.agg #[.bool (getF (ofF f n) k).isSome, .slice xa ((getF (ofF f n) k).getD []).length xc], .int .i64 0]) ∧ SliceIs w' (.slice xa ((getF (ofF f n) k).getD []).length xc) ((getF (ofF f n) k).getD []) ∧ w.grownBy w' none := by
  obtain ⟨e1, e2, e3⟩ := fget_ok hF n k hn hk
  refine (hG w v r u f n k hv hr hu hF.fits (by omega) (by omega)).mono ?_
  rintro e w' ⟨x, rfl, hx, hg⟩
  rw [e3] at hx
  obtain ⟨xa, xc, rfl⟩ := hx.shape
  rw [e1, e2]
  exact ⟨xa, xc, rfl, hx, hg⟩
theorem FApplyOK.of (hA : FApplyOK) (w : World) (v u : Value) (f : FL) (ws : List Plc) (hv : TensIs w v f) (hu : WritesIs w u ws) (hF : Forest f) (hw : ∀ x ∈ ws, writeE x = 0) (hl : ws.length ≤ 10) :
    Calls Try.prog 15 #[v, u] w fun e w' => ∃ x, e = .returned (.tuple #[x, .int .i64 (applyE f ws)]) ∧ TensIs w' x (if applyE f ws = 0 then applyL f ws else []) ∧ w.grownBy w' none := by
  have h1 := applied_ok hF ws hl
  have h2 := applied_l hF ws hl
  have := hA w v u f ws hv hu hF.fits (fitsW_small (by omega) hw)
  rw [h1, h2] at this
  exact this
theorem FCheckOK.of (hC : FCheckOK) (w : World) (v : Value) (f : FL) (hv : TensIs w v f) (hF : Forest f) :
    Calls Try.prog 36 #[v] w fun e w' => e = .returned (.int .i64 0) ∧ w.grownBy w' none := by
  have := hC w v f hv hF.fits
  rw [(forest_iff f).2 hF] at this
  exact this
/-- What canopykeep.Write hands back. -/
theorem write_of (w : World) (v : Value) (p : Plc) (hv : PlaceIs w v p) (hp : PlcFits p) :
    Calls Try.prog 11 #[v] w fun e w' => ∃ na nc ka kc va vc, e = .returned (.agg #[.slice na (writeF p).name.length nc, .slice ka (writeF p).key.length kc, .bool (writeF p).gone, .slice va (writeF p).value.length vc]) ∧ SliceIs w' (.slice na (writeF p).name.length nc) (writeF p).name ∧ SliceIs w' (.slice ka (writeF p).key.length kc) (writeF p).key ∧ SliceIs w' (.slice va (writeF p).value.length vc) (writeF p).value ∧ w.grownBy w' none := by
  refine (write_any w v p hv hp).mono ?_
  rintro e w' ⟨vn, vk, vv, rfl, h1, h2, h3, hg⟩
  obtain ⟨na, nc, rfl⟩ := h1.shape
  obtain ⟨ka, kc, rfl⟩ := h2.shape
  obtain ⟨va, vc, rfl⟩ := h3.shape
  exact ⟨na, nc, ka, kc, va, vc, rfl, h1.slice, h2.slice, h3.slice, hg⟩
theorem write_of0 (w : World) (v : Value) (p : Plc) (hv : PlaceIs w v p) (hp : PlcFits p) :
    Calls Try.prog 11 #[v] w fun e w' => ∃ na nc ka kc va vc, e = .returned (.agg #[.slice na (writeF p).name.length nc, .slice ka (writeF p).key.length kc, .bool (writeF p).gone, .slice va (writeF p).value.length vc]) ∧ PartIs 0 w' (.slice na (writeF p).name.length nc) (writeF p).name ∧ PartIs 0 w' (.slice ka (writeF p).key.length kc) (writeF p).key ∧ PartIs 0 w' (.slice va (writeF p).value.length vc) (writeF p).value ∧ w.grownBy w' none := by
  refine (write_any w v p hv hp).mono ?_
  rintro e w' ⟨vn, vk, vv, rfl, h1, h2, h3, hg⟩
  obtain ⟨na, nc, rfl⟩ := h1.shape
  obtain ⟨ka, kc, rfl⟩ := h2.shape
  obtain ⟨va, vc, rfl⟩ := h3.shape
  exact ⟨na, nc, ka, kc, va, vc, rfl, h1.part, h2.part, h3.part, hg⟩
theorem PlaceIs.cells {w : World} {v : Value} {p : Plc} (h : PlaceIs w v p) : ∃ na nc ka kc va vc, v = .agg #[.slice na p.name.length nc, .slice ka p.key.length kc, .slice va p.value.length vc, .bool p.gone] := by
  obtain ⟨vn, vk, vv, rfl, h1, h2, h3⟩ := h
  obtain ⟨na, nc, rfl⟩ := h1.shape
  obtain ⟨ka, kc, rfl⟩ := h2.shape
  obtain ⟨va, vc, rfl⟩ := h3.shape
  exact ⟨na, nc, ka, kc, va, vc, rfl⟩
end Go.Proofs.Ytpmfbfflacbmjab
