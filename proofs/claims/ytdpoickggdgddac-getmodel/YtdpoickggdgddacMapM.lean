/-
  A map of texts to texts that the call makes, held against a tree of pairs.
-/
import Derived.Test.YtdpoickggdgddacPairMem
import Derived.Test.YtdpoickggdgddacKPure
import Derived.Test.YtdpoickggdgddacPosF
import Derived.Maps.OwnSet
import Derived.Maps.StringElems
namespace Go.Proofs.Ytdpoickggdgddac
open Go.RowKit Go.Maps Go.WideMaps
theorem put_len_old (t : PL) (p : Pr) (hr : Rises t) (h : (getF t p.1).isSome = true) : (putL t p).length = t.length := by
  have e := get_pos t p.1 hr
  rw [e] at h
  cases hh : hasF t p.1 with
  | false => rw [hh] at h; simp at h
  | true =>
    have hm := put_many t p
    have hn : nextF t p.1 = posF t p.1 + 1 := by rw [nextF, if_pos hh]
    have := (has_pos hh).1
    rw [hn] at hm
    omega
/-- The map's entries are the tree's pairs. -/
def Agree (D : DataW Unit) (T : PL) : Prop :=
  (∀ k : List UInt8, Maps.has D (.string k) = (getF T k).isSome ∧ D.atKey (.string k) (.lit (.string [])) = .lit (.string ((getF T k).getD []))) ∧ Maps.size D = T.length
theorem agree_empty : Agree (.map []) [] := ⟨fun _ => ⟨rfl, rfl⟩, rfl⟩
theorem string_ne {k k' : List UInt8} (h : k' ≠ k) : (Lit.string k') ≠ .string k := fun e => h (by injection e)
theorem agree_put {D : DataW Unit} {T : PL} (h : Agree D T) (ht : Tidy D) (hr : Rises T) (p : Pr) : Agree (D.put (.string p.1) (.lit (.string p.2))) (putL T p) := by
  refine ⟨fun k => ?_, ?_⟩
  · rw [get_put T p k hr]
    by_cases e : p.1 = k
    · subst e
      rw [if_pos rfl, has_put_same ht.isMap (show WideAt.IsKeyLit (.string _) from trivial), atKey_put_same ht.isMap (show WideAt.IsKeyLit (.string _) from trivial)]
      exact ⟨rfl, rfl⟩
    · rw [if_neg e, has_put_other (string_ne (Ne.symm e)), atKey_put_other (string_ne (Ne.symm e))]
      exact h.1 k
  · rw [size_put ht, (h.1 p.1).1, h.2]
    cases hg : getF T p.1 with
    | none => rw [put_len_new T p hg]; rfl
    | some v => rw [put_len_old T p hr (by rw [hg]; rfl)]; rfl
theorem agree_del {D : DataW Unit} {T : PL} (h : Agree D T) (ht : Tidy D) (hr : Rises T) (q : List UInt8) : Agree (D.del (.string q)) (delL T q) := by
  refine ⟨fun k => ?_, ?_⟩
  · rw [get_del]
    by_cases e : q = k
    · subst e
      rw [if_pos rfl, has_del_same, atKey_del_same]
      exact ⟨rfl, rfl⟩
    · rw [if_neg e, has_del_other (string_ne (Ne.symm e)), atKey_del_other (string_ne (Ne.symm e))]
      exact h.1 k
  · have hs := size_del (k := .string q) ht
    rw [(h.1 q).1, h.2] at hs
    cases hg : getF T q with
    | none => rw [hg] at hs; rw [del_none T q hg]; simpa using hs
    | some v =>
      rw [hg] at hs
      have := del_len_old T q hr (by rw [hg]; rfl)
      simp at hs
      omega
theorem lawM : Keyed Try.prog 9 := string_keyed Try.underlying9
theorem zeroM (w : World) : (zeroValue 9).run Try.prog w = .ok (.string (textOf [])) w := by kernel_rfl
theorem keyM (k : List UInt8) (hk : k.length ≤ maxLen) : keyOf Try.prog 9 (.string (textOf k)) = some (.string k) := keyOf_string_mk (s := textOf k) Try.underlying9 (by simpa [textOf, ByteArray.size] using hk)
theorem elemM (v : List UInt8) (hv : v.length ≤ maxLen) : plainElem (H := Unit) Try.prog 9 (.string (textOf v)) = some (.lit (.string v), []) := plainElem_string (s := textOf v) Try.underlying9 (by simpa [textOf, ByteArray.size] using hv)
/-- Block b is a map that holds the tree's pairs. -/
def ModelIs (w : World) (b n : Nat) (T : PL) : Prop := ∃ D : DataW Unit, w.ownsMap Try.prog 9 (plainElem Try.prog 9) b n D ∧ Agree D T
theorem modelIs_made (w : World) : ModelIs (w.alloc (.map #[] 0)) w.heap.size 0 [] := ⟨.map [], World.ownsMap_made _ _ _ _, agree_empty⟩
theorem ModelIs.grown {w w' : World} {b n : Nat} {T : PL} (h : ModelIs w b n T) (hg : w.grownBy w' none) : ModelIs w' b n T := by
  obtain ⟨D, h1, h2⟩ := h
  exact ⟨D, h1.kept hg (by simp), h2⟩
theorem ModelIs.noCell {w : World} {b n : Nat} {T : PL} (h : ModelIs w b n T) (o : Nat) : w.cell? ⟨b, o, none⟩ = none := by
  obtain ⟨D, ⟨es, clock, hb, _⟩, _⟩ := h
  simp [World.cell?, hb]
theorem SliceIs.model {w w' : World} {v : Value} {bs : List UInt8} {b n : Nat} {T : PL} (h : SliceIs w v bs) (hm : ModelIs w b n T) (hg : w.grownBy w' (some b)) : SliceIs w' v bs := by
  obtain ⟨a, cap, rfl, hc, h⟩ := h
  refine ⟨a, cap, rfl, hc, ?_⟩
  rcases h with h | ⟨pb, o, rfl, h⟩
  · exact .inl h
  · refine .inr ⟨pb, o, rfl, fun i hi => ?_⟩
    have hi' := h i hi
    exact hg.cell hi' (fun e => by injection e with e; subst e; rw [hm.noCell] at hi'; cases hi')
theorem PairsIs.model {w w' : World} {v : Value} {l : PL} {b n : Nat} {T : PL} (h : PairsIs w v l) (hm : ModelIs w b n T) (hg : w.grownBy w' (some b)) : PairsIs w' v l := by
  obtain ⟨a, cap, rfl, hc, h⟩ := h
  refine ⟨a, cap, rfl, hc, ?_⟩
  rcases h with h | ⟨pb, o, rfl, h⟩
  · exact .inl h
  · refine .inr ⟨pb, o, rfl, fun i hi => ?_⟩
    obtain ⟨vk, vv, c1, c2, s1, s2⟩ := h i hi
    exact ⟨vk, vv, hg.cell c1 (fun e => by injection e with e; subst e; rw [hm.noCell] at c1; cases c1), hg.cell c2 (fun e => by injection e with e; subst e; rw [hm.noCell] at c2; cases c2), s1.model hm hg, s2.model hm hg⟩
section
variable {w : World} {ops : Array Oper} {rest : List Oper} {o : Oper} {a : Act} {Q : Exit → Act → World → Prop}
theorem wpList_model_put (hg : o.guard = none) (m x v : Operand) (hop : o.op = Op.mapUpdate 34 m x v) (b n : Nat) (T : PL) (hm : a.eval m = .map (some b)) (h : ModelIs w b n T) (hr : Rises T) (hn : n < maxLen)
    (p : Pr) (hx : a.eval x = .string (textOf p.1)) (hv : a.eval v = .string (textOf p.2)) (h1 : p.1.length ≤ maxLen) (h2 : p.2.length ≤ maxLen)
    (hK : ∀ w', ModelIs w' b (n + 1) (putL T p) → w.grownBy w' (some b) → wpList Try.prog ops Q rest (a.put o.dst undef) w') : wpList Try.prog ops Q (o :: rest) a w := by
  obtain ⟨D, ho, hA⟩ := h
  exact wpList_mapUpdate_own w hg m x v 34 hop 9 9 lawM Try.underlying34 (plainElem Try.prog 9) b n D hm ho hn _ _ (.string p.1) hx hv (keyM p.1 h1) (.lit (.string p.2)) [] (elemM p.2 h2) fun w' ho' hg' => hK w' ⟨_, ho', agree_put hA (ho.tidy lawM) hr p⟩ hg'
theorem wpList_model_del (hg : o.guard = none) (m x : Operand) (hop : o.op = Op.call { callee := Callee.builtin Builtin.delete, args := #[m, x], argTypes := #[34, 9] }) (b n : Nat) (T : PL) (hm : a.eval m = .map (some b)) (h : ModelIs w b n T) (hr : Rises T)
    (k : List UInt8) (hx : a.eval x = .string (textOf k)) (h1 : k.length ≤ maxLen)
    (hK : ∀ w', ModelIs w' b n (delL T k) → w.grownBy w' (some b) → wpList Try.prog ops Q rest (a.put o.dst (.tuple #[])) w') : wpList Try.prog ops Q (o :: rest) a w := by
  obtain ⟨D, ho, hA⟩ := h
  exact wpList_delete_own w hg m x 34 9 hop 9 lawM Try.underlying34 (plainElem Try.prog 9) b n D hm ho _ (.string k) hx (keyM k h1) fun w' ho' ht => hK w' ⟨_, ho', agree_del hA (ho.tidy lawM) hr k⟩ ht.grown
theorem wpList_model_get (hg : o.guard = none) (m x : Operand) (hop : o.op = Op.lookup 34 m x true) (b n : Nat) (T : PL) (hm : a.eval m = .map (some b)) (h : ModelIs w b n T)
    (k : List UInt8) (hx : a.eval x = .string (textOf k)) (h1 : k.length ≤ maxLen)
    (hK : wpList Try.prog ops Q rest (a.put o.dst (.tuple #[.string (textOf ((getF T k).getD [])), .bool (getF T k).isSome])) w) : wpList Try.prog ops Q (o :: rest) a w := by
  obtain ⟨D, ho, hA⟩ := h
  refine wpList_lookup_own_ok w hg m x 34 hop 9 9 lawM Try.underlying34 (plainElem Try.prog 9) (zeroM w) (.lit (.string [])) [] (elemM [] (by simp)) b n D hm ho _ (.string k) hx (keyM k h1) fun v ps hv => ?_
  obtain ⟨s, rfl, he, _⟩ := plainElem_string_inv Try.underlying9 hv
  rw [(hA.1 k).2] at he
  have hs : s = textOf ((getF T k).getD []) := by
    injection he with he1 he2
    injection he1 with he1
    injection he1 with he1
    rw [textOf, he1]
  rw [hs, (hA.1 k).1]
  exact hK
theorem wpList_model_len (hg : o.guard = none) (m : Operand) (hop : o.op = Op.call { callee := Callee.builtin Builtin.len, args := #[m], argTypes := #[34] }) (b n : Nat) (T : PL) (hm : a.eval m = .map (some b)) (h : ModelIs w b n T)
    (hK : wpList Try.prog ops Q rest (a.put o.dst (.int .i64 (T.length : Int))) w) : wpList Try.prog ops Q (o :: rest) a w := by
  obtain ⟨D, ho, hA⟩ := h
  refine wpList_len_own w hg m 34 hop 9 9 Try.underlying34 (plainElem Try.prog 9) b n D hm ho ?_
  rw [hA.2]
  exact hK
end
end Go.Proofs.Ytdpoickggdgddac
