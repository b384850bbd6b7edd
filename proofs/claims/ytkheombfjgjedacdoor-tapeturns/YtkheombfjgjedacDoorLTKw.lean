/-
  What canopykeep.Write hands back, as the laws of tapes use it.
-/
import Derived.Test.YtkheombfjgjedacDoorPart18
import Derived.Test.YtkheombfjgjedacDoorWrMem
namespace Go.Proofs.YtkheombfjgjedacDoor
open Go.RowKit
theorem write_ofT (w : World) (v : Value) (p : Plc) (hv : PlaceIs w v p) (hp : PlcFits p) :
    Calls Tryd.prog 17 #[v] w fun e w' => ∃ na nc ka kc va vc, e = .returned (.agg #[.slice na (writeF p).name.length nc, .slice ka (writeF p).key.length kc, .bool (writeF p).gone, .slice va (writeF p).value.length vc]) ∧ SliceIs w' (.slice na (writeF p).name.length nc) (writeF p).name ∧ SliceIs w' (.slice ka (writeF p).key.length kc) (writeF p).key ∧ SliceIs w' (.slice va (writeF p).value.length vc) (writeF p).value ∧ w.grownBy w' none := by
  refine (write_any w v p hv hp).mono ?_
  rintro e w' ⟨vn, vk, vv, rfl, h1, h2, h3, hg⟩
  obtain ⟨na, nc, rfl⟩ := h1.shape
  obtain ⟨ka, kc, rfl⟩ := h2.shape
  obtain ⟨va, vc, rfl⟩ := h3.shape
  exact ⟨na, nc, ka, kc, va, vc, rfl, h1.slice, h2.slice, h3.slice, hg⟩
theorem PlaceIs.cellsT {w : World} {v : Value} {p : Plc} (h : PlaceIs w v p) : ∃ na nc ka kc va vc, v = .agg #[.slice na p.name.length nc, .slice ka p.key.length kc, .slice va p.value.length vc, .bool p.gone] := by
  obtain ⟨vn, vk, vv, rfl, h1, h2, h3⟩ := h
  obtain ⟨na, nc, rfl⟩ := h1.shape
  obtain ⟨ka, kc, rfl⟩ := h2.shape
  obtain ⟨va, vc, rfl⟩ := h3.shape
  exact ⟨na, nc, ka, kc, va, vc, rfl⟩
end Go.Proofs.YtkheombfjgjedacDoor
