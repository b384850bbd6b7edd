/-
  The document's answer: lineAct: what its walks share (gen10line.py writes this text).
-/
import Derived.Test.YtpefggkhjocanaaDoorRWords
import Derived.Test.YtpefggkhjocanaaDoorRWhole
import Derived.Test.YtpefggkhjocanaaDoorRHexD
import Derived.Test.YtpefggkhjocanaaDoorRAct1
namespace Go.Proofs.YtpefggkhjocanaaDoor
open Go.RowKit
theorem line_sync {s : List UInt8} (h : wordsF s = [wSync]) : lineA s = ⟨2, 0, 0, []⟩ := by
  rw [lineA, h, show rawA [wSync] = ⟨2, 0, 0, []⟩ by rfl, if_neg (by decide)]
theorem line_start {s : List UInt8} (h : wordsF s = [wStart]) : lineA s = ⟨4, 0, 0, []⟩ := by
  rw [lineA, h, show rawA [wStart] = ⟨4, 0, 0, []⟩ by rfl, if_neg (by decide)]
theorem line_raw {s : List UInt8} {a : Ac} (h : rawA (wordsF s) = a) (hk : a.kind ≠ 0) : lineA s = if actE a = 0 then a else noAc := by
  rw [lineA, h]
  by_cases e : actE a = 0
  · rw [if_pos e, if_neg (by rintro (e1 | e1); exact hk e1; exact e1 e)]
  · rw [if_neg e, if_pos (.inr e)]
theorem line_none {s : List UInt8} (h : rawA (wordsF s) = noAc) : lineA s = noAc := by
  rw [lineA, h, if_pos (.inl rfl)]
theorem unhex_odd : ∀ (d : List UInt8), d.length % 2 ≠ 0 → unhex d = none
  | [], h => absurd rfl h
  | [_], _ => rfl
  | a :: b :: r, h => by
    rw [unhex]
    by_cases e : hexV a < 0 ∨ hexV b < 0
    · rw [if_pos e]
    · rw [if_neg e, unhex_odd r (by rw [List.length_cons, List.length_cons] at h; omega)]
theorem raw_none {ws : List (List UInt8)} (hne : ws ≠ []) (h1 : ws.getD 0 [] = wSync → ws.length ≠ 1) (h2 : ws.getD 0 [] = wStart → ws.length ≠ 1) (h3 : ws.getD 0 [] = wCrash → ws.length ≠ 2) (h4 : ws.getD 0 [] = wAsk → ws.length = 3 → (ws.getD 2 []).length % 2 ≠ 0) : rawA ws = noAc := by
  match ws, hne, h1, h2, h3, h4 with
  | [a], _, h1, h2, _, _ =>
    show (if a = wSync then _ else if a = wStart then _ else noAc) = noAc
    rw [if_neg (fun e : a = wSync => h1 e rfl), if_neg (fun e : a = wStart => h2 e rfl)]
  | [a, b], _, _, _, h3, _ =>
    show (if a = wCrash then _ else noAc) = noAc
    rw [if_neg (fun e : a = wCrash => h3 e rfl)]
  | [a, b, c], _, _, _, _, h4 =>
    show (if a = wAsk then (match unhex c with | some bs => _ | none => noAc) else noAc) = noAc
    by_cases e : a = wAsk
    · rw [if_pos e, unhex_odd c (h4 e rfl)]
    · rw [if_neg e]
  | a :: b :: c :: d :: r, _, _, _, _, _ => rfl
theorem textT {b : List UInt8} {l : List UInt8} : (textOf b).toList = l ↔ b = l := by rw [textOf_list]
/-- What lineAct answers. -/
def LineOK (S : ByteArray) (w : World) (a : Ac) : Prop := Calls Tryd.prog 28 #[.string S] w fun e w' => ∃ vd, e = .returned (.agg #[.int .i64 a.kind, .int .i64 a.sess, .int .i64 a.keep, vd]) ∧ PartIs 0 w' vd a.data ∧ w.grownBy w' none
theorem part_nil (w : World) : PartIs 0 w (.slice none 0 0) [] := (own_nil 0 w).part
/-- A store into one of a block's cells. -/
theorem quad_one {w : World} {b : Nat} {x y z u : Value} {t : TypeId} (h : w.heap[b]? = some (.cells #[x, y, z, u] t)) (v : Value) :
    (w.setCell ⟨b, 0, none⟩ v).heap[b]? = some (.cells #[v, y, z, u] t) ∧ (w.setCell ⟨b, 1, none⟩ v).heap[b]? = some (.cells #[x, v, z, u] t) ∧ (w.setCell ⟨b, 2, none⟩ v).heap[b]? = some (.cells #[x, y, v, u] t) ∧ (w.setCell ⟨b, 3, none⟩ v).heap[b]? = some (.cells #[x, y, z, v] t) := by
  refine ⟨?_, ?_, ?_, ?_⟩ <;> (simp only [World.setCell, Array.getElem?_modify, if_true, h, Option.map_some]; first | rfl | simp)
theorem set_else {w : World} {b c i : Nat} {o : Obj} {u : Value} (h : w.heap[b]? = some o) (hne : b ≠ c) : (w.setCell ⟨c, i, none⟩ u).heap[b]? = some o := by
  simp only [World.setCell, Array.getElem?_modify]
  rw [if_neg (fun e => hne e.symm)]; exact h
theorem cell_else {w : World} {b c i j : Nat} {x u : Value} (h : w.cell? ⟨b, j, none⟩ = some x) (hne : b ≠ c) : (w.setCell ⟨c, i, none⟩ u).cell? ⟨b, j, none⟩ = some x := by
  rw [World.cell?_setCell_other _ _ _ _ (by intro e; injection e with e1 e2; exact hne e1.symm)]; exact h
theorem WordsIs.lt {w : World} {g n cap : Nat} {ws : List (List UInt8)} (h : WordsIs w (.slice (some ⟨g, 0, none⟩) n cap) ws) (hne : ws ≠ []) : g < w.heap.size := by
  obtain ⟨g', cap', e, h⟩ := h
  simp only [Value.slice.injEq, Option.some.injEq, Addr.mk.injEq] at e
  obtain ⟨⟨rfl, _⟩, _⟩ := e
  have := h 0 (List.length_pos_iff.2 hne)
  rcases Nat.lt_or_ge g w.heap.size with hlt | hge
  · exact hlt
  · simp [World.cell?, Array.getElem?_eq_none hge] at this
end Go.Proofs.YtpefggkhjocanaaDoor
