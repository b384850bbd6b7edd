/-
  What tape.Recover and tape.Append hand back, as canopykeep's laws use them.
-/
import Derived.Test.YtkheombfjgjedabDoorKCommits
import Derived.Test.YtkheombfjgjedabDoorKTaped
import Derived.Test.YtkheombfjgjedabDoorPart4
namespace Go.Proofs.YtkheombfjgjedabDoor
open Go.RowKit
theorem rec_call (hR : TpRecOK) (w : World) (x : Value) (t t2 : Tap) (cs : List Cmt) (hx : TapeIs w x t) (hl : t.data.length ≤ 200000) (hs : 0 ≤ t.synced ∧ t.synced ≤ 200000) (ht : Tabs w) (e1 : recE t = 0) (e2 : recC fourF t = cs) (e3 : recT fourF t = t2) :
    Calls Tryd.prog 6 #[x] w fun e w' => ∃ va vc xa xc, e = .returned (.tuple #[.slice va cs.length vc, .agg #[.slice xa t2.data.length xc, .int .i64 t2.synced], .int .i64 0]) ∧ CommitsIs w' (.slice va cs.length vc) cs ∧ SliceIs w' (.slice xa t2.data.length xc) t2.data ∧ w.grownBy w' none := by
  have h := hR w x t hx ⟨by omega, by omega⟩ ht
  rw [e1, e2, e3] at h
  refine h.mono ?_
  rintro e w' ⟨vs, y, rfl, h1, ⟨vd, rfl, h2⟩, hg⟩
  obtain ⟨va, vc, rfl⟩ := h1.shape
  obtain ⟨xa, xc, rfl⟩ := h2.shape
  exact ⟨va, vc, xa, xc, rfl, h1, h2, hg⟩
theorem app_call (hA : TpAppOK) (w : World) (x y : Value) (t t2 : Tap) (c : Cmt) (z : Int) (hx : TapeIs w x t) (hy : CommitIs w y c) (hl : t.data.length ≤ 200000) (hs : 0 ≤ t.synced ∧ t.synced ≤ 200000) (hc : FitsC c) (ht : Tabs w) (e1 : appE fourF t c = z) (e2 : appT fourF t c = t2) :
    Calls Tryd.prog 25 #[x, y] w fun e w' => ∃ xa xc, e = .returned (.tuple #[.agg #[.slice xa t2.data.length xc, .int .i64 t2.synced], .int .i64 z]) ∧ SliceIs w' (.slice xa t2.data.length xc) t2.data ∧ w.grownBy w' none := by
  have h := hA w x y t c hx hy ⟨by omega, by omega⟩ hc ht
  rw [e1, e2] at h
  refine h.mono ?_
  rintro e w' ⟨y, rfl, ⟨vd, rfl, h2⟩, hg⟩
  obtain ⟨xa, xc, rfl⟩ := h2.shape
  exact ⟨xa, xc, rfl, h2, hg⟩
theorem taped_call (hE : TpAppOK) (w : World) (v : Value) (cs : List Cmt) (hv : CommitsIs w v cs) (hi : InTurn 1 cs) (hl : cs.length ≤ 50) (ht : Tabs w) :
    Calls Tryd.prog 11 #[v] w fun e w' => ∃ xa xc, e = .returned (.tuple #[.agg #[.slice xa (flatT fourF cs).length xc, .int .i64 0], .bool true]) ∧ SliceIs w' (.slice xa (flatT fourF cs).length xc) (flatT fourF cs) ∧ w.grownBy w' none := by
  refine (taped_any hE w v cs hv hi hl ht).mono ?_
  rintro e w' ⟨x, rfl, ⟨vd, rfl, h2⟩, hg⟩
  obtain ⟨xa, xc, rfl⟩ := h2.shape
  exact ⟨xa, xc, rfl, h2, hg⟩
/-- What is kept of commits that canopykeep.Commits makes. -/
theorem cmts_facts {l : List Plc} {most : Nat} {cs : List Cmt} (hm : 1 ≤ most) (h : ∃ f, CmtsOf ((l.take most).map writeF) ((l.take most).map writeF).length cs f) : InTurn 1 cs ∧ cs.length ≤ most ∧ (l.length = 0 ∨ 0 < cs.length) ∧ (flatT fourF cs).length ≤ 600 * cs.length ∧ ∀ i, i < cs.length → (cs.getD i noCmt).writes.length ≤ 1000000 := by
  obtain ⟨f, h⟩ := h
  have h1 := h.few
  have hw : ((l.take most).map writeF).length = min most l.length := by simp
  refine ⟨h.turn, by omega, ?_, flatT_size fourF_len h.turn, fun i hi => ?_⟩
  · by_cases h0 : l.length = 0
    · exact .inl h0
    · exact .inr (List.length_pos_iff.2 (h.first (by omega)))
  · have := (h.short (cs.getD i noCmt) (by rw [show cs.getD i noCmt = cs[i] by simp [hi]]; exact List.getElem_mem hi)).1
    omega
end Go.Proofs.YtkheombfjgjedabDoor
