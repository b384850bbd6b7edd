/-
  Texts of this proof, joined: PCProve, PCCheck, LProofMem.
-/
import Derived.Test.YtedmhejnbapklaaDoorStepMem
import Derived.Test.YtedmhejnbapklaaDoorPart2
import Derived.Test.YtedmhejnbapklaaDoorPart4
/-
  What proof.Prove and proof.Verify must keep.
-/
namespace Go.Proofs.YtedmhejnbapklaaDoor
open Go.RowKit
/-- proof.Prove keeps P4.1. -/
def PProveOK : Prop := ∀ (w : World) (v u : Value) (l : PL) (k : List UInt8), PairsIs w v l → SliceIs w u k → Fits l → Tabs w → Calls Tryd.prog 9 #[v, u] w fun e w' => ∃ x, e = .returned (.tuple #[x, .int .i64 (getE l k)]) ∧ ProofNew w.heap.size w' x (proveF l k) ∧ w.grownBy w' none
/-- proof.Verify keeps P4.3. -/
def PVerifyOK : Prop := ∀ (w : World) (r u v : Value) (root k : List UInt8) (p : Prf), SliceIs w r root → SliceIs w u k → ProofIs w v p → PrfFits p → Tabs w → Calls Tryd.prog 15 #[r, u, v] w fun e w' => ∃ x, e = .returned (.tuple #[.agg #[.bool (verB root k p), x], .int .i64 (verE root k p)]) ∧ SliceIs w' x (verV root k p) ∧ w.grownBy w' none
theorem ver_size {root k : List UInt8} {p : Prf} (h : root.length ≠ 32) : verE root k p = 1 ∧ verB root k p = false ∧ verV root k p = [] := by
  have h1 : verE root k p = 1 := by rw [verE, if_neg h]
  have h2 : verB root k p = false := by rw [verB, h1]; rfl
  exact ⟨h1, h2, by rw [verV, h2, if_neg (by simp)]⟩
theorem ver_form {root k : List UInt8} {p : Prf} (h : root.length = 32) (hp : proofE k p ≠ 0) : verE root k p = proofE k p ∧ verB root k p = false ∧ verV root k p = [] := by
  have h1 : verE root k p = proofE k p := by rw [verE, if_pos h, if_neg hp]
  have h2 : verB root k p = false := by rw [verB, h1]; simp [hp]
  exact ⟨h1, h2, by rw [verV, h2, if_neg (by simp)]⟩
theorem ver_proof {root k : List UInt8} {p : Prf} (h : root.length = 32) (hp : proofE k p = 0) (hr : rootP p ≠ root) : verE root k p = 8 ∧ verB root k p = false ∧ verV root k p = [] := by
  have h1 : verE root k p = 8 := by rw [verE, if_pos h, if_pos hp, if_neg hr]
  have h2 : verB root k p = false := by rw [verB, h1]; rfl
  exact ⟨h1, h2, by rw [verV, h2, if_neg (by simp)]⟩
theorem ver_ok {root k : List UInt8} {p : Prf} (h : root.length = 32) (hp : proofE k p = 0) (hr : rootP p = root) : verE root k p = 0 ∧ verB root k p = foundF k p ∧ verV root k p = if foundF k p = true then p.pair.2 else [] := by
  have h1 : verE root k p = 0 := by rw [verE, if_pos h, if_pos hp, if_pos hr]
  have h2 : verB root k p = foundF k p := by rw [verB, h1]; rfl
  exact ⟨h1, h2, by rw [verV, h2]⟩
end Go.Proofs.YtedmhejnbapklaaDoor

/-
  What proof.Check must keep.
-/
namespace Go.Proofs.YtedmhejnbapklaaDoor
open Go.RowKit
/-- proof.Check keeps P4.2. -/
def PCheckOK : Prop := ∀ (w : World) (u v : Value) (k : List UInt8) (p : Prf), SliceIs w u k → ProofIs w v p → PrfFits p → Calls Tryd.prog 23 #[u, v] w fun e w' => e = .returned (.int .i64 (proofE k p)) ∧ w.grownBy w' none
end Go.Proofs.YtedmhejnbapklaaDoor

/-
  A list of steps of the call's own: a step's way is turned; a step more, at a step of a region that draws.
-/
namespace Go.Proofs.YtedmhejnbapklaaDoor
open Go.RowKit
theorem OwnS.cases {base : Nat} {w : World} {v : Value} {l : List Stp} (h : OwnS base w v l) (h0 : 0 < l.length) : ∃ g cap, v = .slice (some ⟨g, 0, none⟩) l.length cap ∧ base ≤ g ∧ NotB w g ∧ ∀ i, w.frozen? ⟨g, i, none⟩ = false := by
  have hrow := h.row
  obtain ⟨us, _, hr, _, _⟩ := h
  rcases hr.2 with ⟨rfl, he⟩ | ⟨g, cap, cur, rfl, hb, hg, _⟩
  · omega
  · refine ⟨g, cap, rfl, hb, ?_, fun i => by simp [World.frozen?, hg]⟩
    rcases hrow with e | ⟨g', e, hn⟩
    · cases e
    · cases e; exact hn
theorem OwnS.frozen {base : Nat} {w : World} {g n cap : Nat} {l : List Stp} (h : OwnS base w (.slice (some ⟨g, 0, none⟩) n cap) l) (i : Nat) : w.frozen? ⟨g, i, none⟩ = false := by
  obtain ⟨us, _, hr, _, _⟩ := h
  rcases hr.2 with ⟨e, _⟩ | ⟨g', cap', cur, e, hb, hg, _⟩
  · cases e
  · simp only [Value.slice.injEq, Option.some.injEq, Addr.mk.injEq] at e
    obtain ⟨⟨rfl, _⟩, _, _⟩ := e
    simp [World.frozen?, hg]
theorem OwnS.notB {base : Nat} {w : World} {g n cap : Nat} {l : List Stp} (h : OwnS base w (.slice (some ⟨g, 0, none⟩) n cap) l) : NotB w g := by
  rcases h.row with e | ⟨g', e, hn⟩
  · cases e
  · cases e; exact hn
theorem OwnS.neBlock {base : Nat} {w : World} {v : Value} {l : List Stp} (h : OwnS base w v l) {b : Nat} {cur : Array Value} {t : TypeId} {fz : Nat × Nat} (hb : w.heap[b]? = some (.cells cur t fz)) (ht : t ≠ 55) : v.ownBlock ≠ some b := by
  obtain ⟨us, _, hr, _, _⟩ := h
  rcases hr.2 with ⟨rfl, _⟩ | ⟨g, cap, cur', rfl, _, hg, _⟩
  · simp [Value.ownBlock]
  · intro e
    simp [Value.ownBlock] at e
    subst e
    rw [hg] at hb
    simp only [Option.some.injEq, Obj.cells.injEq] at hb
    exact ht hb.2.1.symm
theorem OwnS.stepAt {base : Nat} {w : World} {g n cap : Nat} {l : List Stp} (h : OwnS base w (.slice (some ⟨g, 0, none⟩) n cap) l) (i : Nat) (hi : i < l.length) :
    ∃ vo, w.cell? ⟨g, i * 3, none⟩ = some (.int .i64 (l.getD i noStp).bit) ∧ w.cell? ⟨g, i * 3 + 1, none⟩ = some (.bool (l.getD i noStp).right) ∧ w.cell? ⟨g, i * 3 + 2, none⟩ = some vo ∧ PartS w vo (l.getD i noStp).other := by
  obtain ⟨us, hl, hr, hp, _⟩ := h
  have hul : us.length = l.length := by rw [← hl]; simp
  obtain ⟨e1, e2⟩ := map_getD hl i hi
  obtain ⟨c1, c2, c3⟩ := flatS_get us i (by omega)
  have hq := hp _ e2
  rw [e1] at c1 c2 hq
  exact ⟨_, OwnS.cells hr _ _ c1, OwnS.cells hr _ _ c2, OwnS.cells hr _ _ c3, hq⟩
theorem flatS_setRight : ∀ (us : List SV) (i : Nat) (z : Bool), i < us.length → flatS (us.set i (⟨(us.getD i noSV).1.bit, z, (us.getD i noSV).1.other⟩, (us.getD i noSV).2)) = (flatS us).set (i * 3 + 1) (.bool z)
  | [], i, z, h => by simp at h
  | y :: r, 0, z, _ => by simp [flatS]
  | y :: r, i + 1, z, h => by
    have := flatS_setRight r i z (by simpa using h)
    rw [show (i + 1) * 3 + 1 = (i * 3 + 1) + 3 by omega]
    simp only [List.set_cons_succ, List.getD_cons_succ, flatS, List.flatMap_cons, List.cons_append, List.nil_append] at this ⊢
    rw [this]
theorem OwnS.setRight {base : Nat} {w : World} {g n cap : Nat} {l : List Stp} (h : OwnS base w (.slice (some ⟨g, 0, none⟩) n cap) l) (i : Nat) (hi : i < l.length) (z : Bool) :
    OwnS base (w.setCell ⟨g, i * 3 + 1, none⟩ (.bool z)) (.slice (some ⟨g, 0, none⟩) n cap) (l.set i ⟨(l.getD i noStp).bit, z, (l.getD i noStp).other⟩) := by
  have hrow := h.row
  obtain ⟨us, hl, hr, hp, h0⟩ := h
  have hul : us.length = l.length := by rw [← hl]; simp
  obtain ⟨e1, e2⟩ := map_getD hl i hi
  have hNB : NotB w g := by
    rcases hrow with e | ⟨g', e, hn⟩
    · cases e
    · cases e; exact hn
  refine ⟨us.set i (⟨(us.getD i noSV).1.bit, z, (us.getD i noSV).1.other⟩, (us.getD i noSV).2), ?_, ?_, ?_, fun e => ?_⟩
  · rw [List.map_set, hl]
    dsimp only
    rw [e1]
  · refine ⟨by rw [flatS_len]; simp [hul], ?_⟩
    rcases hr.2 with ⟨e, _⟩ | ⟨g', cap', cur, e, hb, hg, hn, hm, hs, ht⟩
    · cases e
    · simp only [Value.slice.injEq, Option.some.injEq, Addr.mk.injEq] at e
      obtain ⟨⟨rfl, _⟩, rfl, rfl⟩ := e
      refine .inr ⟨g, cap, cur.setIfInBounds (i * 3 + 1) (.bool z), by simp, hb, ?_, by simpa using hn, hm, by simpa using hs, ?_⟩
      · simp only [World.setCell, Array.getElem?_modify, if_true, hg, Option.map_some]
        first | rfl | simp
      · rw [flatS_setRight us i z (by omega)]
        simp only [Array.toList_setIfInBounds, List.length_set]
        rw [List.take_set, ht]
  · intro x hx
    rcases List.mem_or_eq_of_mem_set hx with hx | rfl
    · exact (hp x hx).set hNB _ _
    · exact (hp _ e2).set hNB _ _
  · have : l = [] := by
      have := congrArg List.length e
      simp at this
      exact List.eq_nil_of_length_eq_zero (by simpa using this)
    subst this
    simp at hi
theorem sizeStep (w : World) : (sizeOf (Tryd.prog.elem 25)).run Tryd.prog w = .ok 3 w := by kernel_rfl
theorem StepsIs.sliced {w : World} {a : Option Addr} {cap : Nat} {l : List Stp} (h : StepsIs w (.slice a l.length cap) l) (i j : Nat) (hij : i ≤ j) (hj : j ≤ l.length) : StepsIs w (Go.sliced a i j cap 3) ((l.take j).drop i) := by
  obtain ⟨a', cap', e, hc, h⟩ := h
  simp only [Value.slice.injEq, true_and] at e
  obtain ⟨rfl, rfl⟩ := e
  have hlen : ((l.take j).drop i).length = j - i := by simp; omega
  refine ⟨if cap = i then a else a.map (·.add (i * 3)), cap - i, by rw [hlen]; rfl, by rw [hlen]; omega, ?_⟩
  by_cases hci : cap = i
  · left
    exact ⟨List.eq_nil_of_length_eq_zero (by rw [hlen]; omega), fun _ => by omega⟩
  · rw [if_neg hci]
    rcases h with ⟨rfl, h⟩ | ⟨b, o, rfl, h⟩
    · left
      refine ⟨by simp, fun e => ?_⟩
      cases a with
      | none => have := h rfl; simp at hj; omega
      | some x => cases e
    · right
      refine ⟨b, o + i * 3, by simp [addr_add], fun k hk => ?_⟩
      rw [hlen] at hk
      have := h (i + k) (by omega)
      have e : ((l.take j).drop i).getD k noStp = l.getD (i + k) noStp := by simp [show i + k < j by omega]
      rw [e, show o + i * 3 + k * 3 = o + (i + k) * 3 by omega]
      exact this
theorem sslice_l (a : Option Addr) (cap : Nat) (l : List Stp) (n : Nat) (hn : n ≤ l.length) : ∃ a1 c1, (∀ W, (Instr.slice 25 (.slice a l.length cap) (some (.int .i64 (n : Int))) none none).run Tryd.prog W = .ok (.slice a1 (l.length - n) c1) W) ∧ ∀ W, StepsIs W (.slice a l.length cap) l → StepsIs W (.slice a1 (l.length - n) c1) (l.drop n) := by
  refine ⟨if cap = n then a else a.map (·.add (n * 3)), cap - n, fun W => ?_, fun W h => ?_⟩
  · rw [run_slice_l _ _ _ _ _ (by kernel_rfl) _ _ (by omega) (by omega), sizeStep]
    simp only [Result.andThen, Go.sliced, Int.toNat_natCast]
  · have := h.sliced n l.length hn (Nat.le_refl _)
    simpa only [Go.sliced, List.take_length] using this
theorem step_append_step {w : World} {ops : Array Oper} {o : Oper} {a : Act} {K : Act → World → Prop} {Q : Exit → Act → World → Prop} {E : Prop} (hgd : o.guard = none) (s x : Operand)
    (ho : o.op = .call { callee := .builtin .append, args := #[s, x], argTypes := #[25, 25] }) (base : Nat) (v : Value) (l : List Stp) (hs : a.eval s = v) (hown : OwnS base w v l)
    (vo : Value) (p : Stp) (hk : PartS w vo p.other) (nb : Nat) (hb : ∀ j u, [Value.int .i64 p.bit, Value.bool p.right, vo][j]? = some u → w.cell? ⟨nb, j, none⟩ = some u)
    (hx : a.eval x = .slice (some ⟨nb, 0, none⟩) 1 1) (hl : (l.length + 1) * 40 ≤ 140737488355328) (hbase : base ≤ w.heap.size)
    (h : ∀ v' w', OwnS base w' v' (l ++ [p]) → w.grownBy w' v.ownBlock → K (a.put o.dst v') w') : if Region.wanted o (yielded ops a.tmps) = true then Oper.wp Tryd.prog o a w K Q else E := by
  have hw : Region.wanted o (yielded ops a.tmps) = true := by simp [Region.wanted, hgd]
  rw [if_pos hw]
  exact wp_append_step s x ho base v l hs hown vo p hk nb hb hx hl hbase h
end Go.Proofs.YtedmhejnbapklaaDoor
