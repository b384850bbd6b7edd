/-
  A request, as a value.
-/
import Derived.Test.YtghjikifflpeiabDoorWireF
import Derived.Test.YtghjikifflpeiabDoorSlM
namespace Go.Proofs.YtghjikifflpeiabDoor
open Go.RowKit
/-- A request, as a value. -/
def RqIs (w : World) (v : Value) (r : Rq) : Prop := ∃ vn vk vl vv, v = .agg #[.int .i64 r.kind, vn, vk, vl, vv] ∧ SliceIs w vn r.name ∧ SliceIs w vk r.key ∧ SliceIs w vl r.last ∧ SliceIs w vv r.value
theorem RqIs.grown {w w' : World} {v : Value} {r : Rq} (h : RqIs w v r) (hg : w.grownBy w' none) : RqIs w' v r := by
  obtain ⟨vn, vk, vl, vv, rfl, h1, h2, h3, h4⟩ := h
  exact ⟨vn, vk, vl, vv, rfl, h1.grown hg, h2.grown hg, h3.grown hg, h4.grown hg⟩
theorem RqIs.agg {w : World} {v : Value} {r : Rq} (h : RqIs w v r) : ∃ n1 n2 k1 k2 l1 l2 v1 v2, v = .agg #[.int .i64 r.kind, .slice n1 r.name.length n2, .slice k1 r.key.length k2, .slice l1 r.last.length l2, .slice v1 r.value.length v2] := by
  obtain ⟨vn, vk, vl, vv, rfl, h1, h2, h3, h4⟩ := h
  obtain ⟨n1, n2, rfl⟩ := h1.shape
  obtain ⟨k1, k2, rfl⟩ := h2.shape
  obtain ⟨l1, l2, rfl⟩ := h3.shape
  obtain ⟨v1, v2, rfl⟩ := h4.shape
  exact ⟨n1, n2, k1, k2, l1, l2, v1, v2, rfl⟩
theorem RqIs.parts {w : World} {r : Rq} {x a b c d : Value} (h : RqIs w (.agg #[x, a, b, c, d]) r) : x = .int .i64 r.kind ∧ SliceIs w a r.name ∧ SliceIs w b r.key ∧ SliceIs w c r.last ∧ SliceIs w d r.value := by
  obtain ⟨vn, vk, vl, vv, e, h1, h2, h3, h4⟩ := h
  simp only [Value.agg.injEq, Array.mk.injEq, List.cons.injEq, and_true] at e
  obtain ⟨rfl, rfl, rfl, rfl, rfl⟩ := e
  exact ⟨rfl, h1, h2, h3, h4⟩
theorem rqIs_no (w : World) : RqIs w (.agg #[.int .i64 0, .slice none 0 0, .slice none 0 0, .slice none 0 0, .slice none 0 0]) noRq := ⟨_, _, _, _, rfl, sliceIs_nil w, sliceIs_nil w, sliceIs_nil w, sliceIs_nil w⟩
/-- What came in fits into memory. -/
structure RqFits (r : Rq) : Prop where
  kind : -9223372036854775808 ≤ r.kind ∧ r.kind ≤ 9223372036854775807
  name : r.name.length ≤ 140737488355328
  key : r.key.length ≤ 140737488355328
  last : r.last.length ≤ 140737488355328
  value : r.value.length ≤ 140737488355328
theorem rq_fits {r : Rq} (h : RqOK r) : RqFits r := by
  have h0 := h.kind
  have h5 := h.value
  have k1 : r.name.length ≤ 8 := by
    by_cases e : namedK r.kind = true
    · exact (h.name e).2
    · rw [h.noName (by simpa using e)]; simp
  have k2 : r.key.length ≤ 16 := by
    by_cases e : namedK r.kind = true
    · exact (h.key e).2
    · rw [h.noKey (by simpa using e)]; simp
  have k3 : r.last.length ≤ 16 := by
    by_cases e : r.kind = 3
    · exact (h.last e).2
    · rw [h.noLast e]; simp
  exact ⟨by omega, by omega, by omega, by omega, by omega⟩
end Go.Proofs.YtghjikifflpeiabDoor
