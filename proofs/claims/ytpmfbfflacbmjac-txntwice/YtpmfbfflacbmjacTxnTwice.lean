/-
  canopykeep.TxnTwice returns true at every argument and leaves its arguments as they were. No condition.
-/
import Derived.Test.YtpmfbfflacbmjacFrameP
import Derived.Test.YtpmfbfflacbmjacFrameQ
import Derived.Test.YtpmfbfflacbmjacTxWrP
import Derived.Test.YtpmfbfflacbmjacTxNtP
import Derived.Test.YtpmfbfflacbmjacTxCnP
import Derived.Test.YtpmfbfflacbmjacTxLkP
import Derived.Test.YtpmfbfflacbmjacLTxnTwice
namespace Go.Proofs.Ytpmfbfflacbmjac
open Go.ChangeShapes Go.WideShapes Go.ChangeAt Go.RowKit
namespace txnTwice
set_option maxRecDepth 100000 in
theorem contract (H : Type) (enc : TypeId × Value → H) (W : World) (base : Nat) (args : Array Value) (ds gs : List (DataW H)) (before : List MemPlace)
    (hval : ∀ (j : Nat) t v, Try.f5.params[j]? = some t → args[j]? = some v → Value.okWide Try.prog W .any base t v)
    (hW : DataW.Whole enc Try.prog Try.f5.params.toList Rows.txnTwiceSpec.vars false W args.toList ds gs before) (_hL : laidMetH Try.prog Rows.txnTwiceRow.laid W)
    (hsz0 : (DataW.weightsEach Try.prog (Try.f5.params.toList ++ (OpenSpec.ofChange Rows.txnTwiceSpec).bare.plain.varTypes Try.prog) (ds ++ gs)).all (· ≤ reachBytes) = true) :
    Calls Try.prog 5 args W fun e W' => ∃ v, e = .returned v ∧ Rows.txnTwiceSpec.post enc Try.prog Try.f5 false true false false W args v W' := by
  have hW' := hW
  obtain ⟨p, q, hA0, hV, rfl, hfz, hnd⟩ := hW
  have hA : DataW.TrodAll enc Try.prog W 0 (fun _ => true) true Try.f5.params.toList args.toList ds p := hA0
  have hsz := hsz0
  rw [Try.params5] at hA hval hsz
  obtain ⟨v0, vs0, d0, ds0, p0, q0, hargs, rfl, rfl, h0, r0⟩ := trodAll_cons hA
  obtain ⟨v1, vs1, d1, ds1, p1, q1, rfl, rfl, rfl, h1, r1⟩ := trodAll_cons r0
  obtain ⟨v2, vs2, d2, ds2, p2, q2, rfl, rfl, rfl, h2, r2⟩ := trodAll_cons r1
  obtain ⟨rfl, rfl, rfl⟩ := trodAll_nil r2
  obtain rfl : args = #[v0, v1, v2] := by cases args; simp_all
  obtain ⟨rfl, rfl⟩ := trodVars_none hV
  obtain ⟨a0, len0, cap0, rfl⟩ := okWide_slice Try.underlying22 (hval 0 22 v0 rfl rfl)
  have k0 := h0
  have lt0 : ∀ x ∈ p0, x.block < W.heap.size := by obtain ⟨m, hm⟩ := k0; exact DataW.trod_lt m _ _ _ hm
  obtain ⟨ps0, hsl0, hfit0⟩ : ∃ l : List Plc, PlacesIs W (.slice a0 len0 cap0) l ∧ l.length * 80 ≤ 140737488351232 ∧ ∀ i, i < l.length → (l.getD i noPlc).name.length ≤ 140737488351232 ∧ (l.getD i noPlc).key.length ≤ 140737488351232 ∧ (l.getD i noPlc).value.length ≤ 140737488351232 := by
    obtain ⟨fuel, hf⟩ := h0
    obtain ⟨l, g1, _, g2⟩ := places_open Try.underlying22 Try.underlying58 (by kernel_rfl) (by kernel_rfl) rfl rfl rfl rfl rfl rfl rfl rfl (x := (d0, p0)) (by simpa [Value.cells] using hf)
    exact ⟨l, g1, g2 _ (reach_arg hsz (j := 0) rfl rfl)⟩
  obtain ⟨a1, len1, cap1, rfl⟩ := okWide_slice Try.underlying22 (hval 1 22 v1 rfl rfl)
  have k1 := h1
  have lt1 : ∀ x ∈ p1, x.block < W.heap.size := by obtain ⟨m, hm⟩ := k1; exact DataW.trod_lt m _ _ _ hm
  obtain ⟨ps1, hsl1, hfit1⟩ : ∃ l : List Plc, PlacesIs W (.slice a1 len1 cap1) l ∧ l.length * 80 ≤ 140737488351232 ∧ ∀ i, i < l.length → (l.getD i noPlc).name.length ≤ 140737488351232 ∧ (l.getD i noPlc).key.length ≤ 140737488351232 ∧ (l.getD i noPlc).value.length ≤ 140737488351232 := by
    obtain ⟨fuel, hf⟩ := h1
    obtain ⟨l, g1, _, g2⟩ := places_open Try.underlying22 Try.underlying58 (by kernel_rfl) (by kernel_rfl) rfl rfl rfl rfl rfl rfl rfl rfl (x := (d1, p1)) (by simpa [Value.cells] using hf)
    exact ⟨l, g1, g2 _ (reach_arg hsz (j := 1) rfl rfl)⟩
  obtain ⟨a2, rfl, rfl, rfl, w2⟩ := open_int Try.underlying3 (hval 2 3 v2 rfl rfl) h2
  clear hA0
  refine (txnTwice_walk txwrite_ok txnote_ok txcheck_ok txclash_ok txlook_ok W _ _ ps0 ps1 a2 hsl0 ⟨by have := hfit0.1; omega, fun i hi => by have := hfit0.2 i hi; exact ⟨by omega, by omega, by omega⟩⟩ hsl1 ⟨by have := hfit1.1; omega, fun i hi => by have := hfit1.2 i hi; exact ⟨by omega, by omega, by omega⟩⟩ (int_bounds w2).1 (int_bounds w2).2).mono fun e W' ⟨he, hg⟩ => ?_
  subst he
  have bel := below_of hg
  exact ⟨_, rfl, _, _, _, [], _, [], hW', trodAll_mk1 (shut_bool Try.underlying4 _), (trodAll_cons_mk (Below.trod laidOut (by kernel_rfl) (of_decide_eq_true (by kernel_rfl)) k0 bel lt0) (trodAll_cons_mk (Below.trod laidOut (by kernel_rfl) (of_decide_eq_true (by kernel_rfl)) k1 bel lt1) (trodAll_cons_mk (shut_int Try.underlying3 w2) trodAll_mk0))), rfl, bel.frame _, fun h => by cases h⟩
theorem laid_met (os : Os) : laidMet Try.prog Rows.txnTwiceRow.laid (((World.holding Try.prog os ⟨#[], #[], []⟩)).forCall (fun _ _ => 0) ⟨#[], #[.slice none 0 0, .slice none 0 0, .int .i64 0], []⟩).memory :=
  ⟨[], by first | exact .nil | constructor | rfl, by simp, fun _ _ h => by cases h⟩
theorem reads (os : Os) {H : Type} (enc : TypeId × Value → H) : ∃ places, DataW.whole enc Try.prog (((World.holding Try.prog os ⟨#[], #[], []⟩)).forCall (fun _ _ => 0) ⟨#[], #[.slice none 0 0, .slice none 0 0, .int .i64 0], []⟩).memory Try.f5.params.toList Rows.txnTwiceSpec.vars false (#[Value.slice none 0 0, Value.slice none 0 0, Value.int .i64 0] : Array Value).toList 8 = some ([.nil, .nil, .lit (.int .i64 0)], [], places) :=
  ⟨[], by kernel_rfl⟩
set_option maxRecDepth 100000 in
theorem lifted (os : Os) (started : os.Started) (H : Type) (enc : TypeId × Value → H) (F : Stop.Interp) :
    ReturnsInHanded {} Try.checked os 5 .any ((OpenSpec.ofChange Rows.txnTwiceSpec).preRow enc Try.prog Try.f5 Rows.txnTwiceRow.domain false Rows.txnTwiceRow.laid) (((OpenSpec.ofChange Rows.txnTwiceSpec).at F).post enc Try.prog Try.f5 false true false false) := by
  obtain ⟨places, hx⟩ := reads os enc
  refine returnsInHanded_of_row (C := Try.checked) (s := OpenSpec.ofChange Rows.txnTwiceSpec) own started (by kernel_rfl) Try.func5
    (witness_row_at (enc := enc) (C := Try.checked) false ((World.holding Try.prog os ⟨#[], #[], []⟩)) #[.slice none 0 0, .slice none 0 0, .int .i64 0] rfl (by kernel_rfl) (by kernel_rfl) (by kernel_rfl)
      (OpenSpec.preRow_of_cond 8 hx (by kernel_rfl) (fun k hk => by cases hk) (by kernel_rfl) (laid_met os))) ?_
  intro W base args ds gs before hval hW _ _ hsz hL _ _
  exact contract H enc W base args ds gs before hval hW hL hsz
theorem said : Rows.TxnTwiceSaid :=
  OpenClaim.holds_of_cond 5 Try.f5 rfl rfl rfl rfl rfl rfl rfl ⟨rfl, rfl, rfl, rfl, rfl⟩ rfl rfl rfl rfl rfl (by kernel_rfl) Try.func5 (by kernel_rfl)
    (of_decide_eq_true (by kernel_rfl)) (by unfold Func.isWrapper; first | (rw [if_pos (by decide +kernel)]; kernel_rfl) | (rw [if_neg (by decide +kernel)]; exact ⟨rfl, rfl⟩))
    (fun os started H enc _ F => by rw [OpenClaim.pre_eq_preRow]; exact lifted os started H enc F)
end txnTwice
/-- The statement. -/
theorem txnTwice_holds : Rows.TxnTwiceSaid := txnTwice.said
end Go.Proofs.Ytpmfbfflacbmjac
