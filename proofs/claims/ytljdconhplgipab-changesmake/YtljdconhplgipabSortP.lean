/-
  slices.SortFunc at a list of writes of the call's own, as history.spots calls it.
-/
import Derived.Test.YtljdconhplgipabSpotM
import Derived.Test.YtljdconhplgipabSpotC
import Derived.Test.YtljdconhplgipabSortL
import Derived.Shelf.SlSortCmp.NoneTotal
namespace Go.Proofs.Ytljdconhplgipab
open Go.RowKit Go.Shelf Go.Sort
theorem cmpLaysW (g m : Nat) (w : World) (hw : ∃ cur, w.heap[g]? = some (.cells cur 35)) : CmpLays Try.prog 28 #[] (encE (w := w)) 4 cfE g 0 m w := by
  intro k os dk hs x y
  obtain ⟨cur, hg⟩ := hw
  have hgr := sw_grown encE 4 w g 0 k dk os
  have hrow : (some g : Option Nat) = none ∨ ∃ g' cur t fz, (some g : Option Nat) = some g' ∧ 0 ≤ g' ∧ w.heap[g']? = some (.cells cur t fz) ∧ t ≠ 5 := .inr ⟨g, cur, _, _, rfl, Nat.zero_le _, hg, wrT5⟩
  exact cmp1_any _ x.1.2.1 x.1.2.2.1 x.1.2.2.2 y.1.2.1 y.1.2.2.1 y.1.2.2.2 x.1.1 y.1.1 (x.2.1.keptT hgr hrow).1 (x.2.2.1.keptT hgr hrow).1 (y.2.1.keptT hgr hrow).1 (y.2.2.1.keptT hgr hrow).1
set_option maxRecDepth 100000 in
set_option maxHeartbeats 2000000 in
theorem sort_any (rb : Nat) (w : World) (v : Value) (l : List Plc) (h : OwnV rb 0 w v l) (hl : l.length ≤ 1000000) :
    Calls Try.prog 31 #[v, .func (.func 28) #[] #[]] w fun e w' => e = .returned (.tuple #[]) ∧ ∃ l', OwnV rb 0 w' v l' ∧ l'.Perm l ∧ Sorted l' ∧ w.grownBy w' v.ownBlock := by
  have h0 := h
  obtain ⟨us, hul, hr, hp⟩ := h
  rcases hr.2 with ⟨rfl, he⟩ | ⟨g, cap, cur, rfl, _⟩
  · have hln : l = [] := List.eq_nil_of_length_eq_zero he
    subst hln
    have hn := AnyF.slices_SortFunc_none sortWr none 0 (.func (.func 28) #[] #[]) w
    refine Calls.mono hn ?_
    rintro e w' ⟨rfl, rfl⟩
    exact ⟨rfl, [], ownV_nil _ _ _, List.Perm.refl _, List.Pairwise.nil, grown_refl _ _⟩
  · obtain ⟨d, hd, hds, hn, hH, hblk, hc, hafter⟩ := h0.sorts
    have eg : ∀ args w, (callFunc 28 args).run Try.prog w = .ok (.enter 28 args) w := enters_of Try.func28 (by kernel_rfl) rfl
    have hcon := AnyQ.slices_SortFunc sortWr 4 Try.isAgg35 Try.sizeOf35 encE encE_len encE_one cfE (swoE w) 28 #[] g 0 cap d w eg (cmpLaysW g d.size w hc) hH hblk (by omega)
    rw [hds] at hcon
    refine Calls.mono hcon ?_
    rintro e w' ⟨rfl, d', n, os, hpm, hso, rfl⟩
    rw [← hds] at hpm hso
    refine ⟨rfl, d'.toList.map (·.1.1), hafter d' n os hpm.1, ?_, sortedIn_list hpm.1.symm hso, sw_grown _ _ _ _ _ _ _ _⟩
    rw [← hd]
    exact (permIn_list hpm).map _
end Go.Proofs.Ytljdconhplgipab
