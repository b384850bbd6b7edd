/-
  forest.pairsOf and forest.checkedPairs, as they landed.
-/
import Derived.Test.YtkkcjnhfbblgiacFPlaceP
import Derived.Test.YtkkcjnhfbblgiacPart1
namespace Go.Proofs.Ytkkcjnhfbblgiac
open Go.RowKit
theorem sizeTenS (w : World) : (sizeOf (Try.prog.elem 26)).run Try.prog w = .ok 2 w := by kernel_rfl
theorem TensIs.sliced {w : World} {a : Option Addr} {cap : Nat} {l : FL} (h : TensIs w (.slice a l.length cap) l) (i j : Nat) (hij : i ≤ j) (hj : j ≤ l.length) : TensIs w (Go.sliced a i j cap 2) ((l.take j).drop i) := by
  obtain ⟨a', cap', e, hc, h⟩ := h
  simp only [Value.slice.injEq, true_and] at e
  obtain ⟨rfl, rfl⟩ := e
  have hlen : ((l.take j).drop i).length = j - i := by simp; omega
  refine ⟨if cap = i then a else a.map (·.add (i * 2)), cap - i, by rw [hlen]; rfl, by rw [hlen]; omega, ?_⟩
  by_cases hci : cap = i
  · left
    exact ⟨List.eq_nil_of_length_eq_zero (by rw [hlen]; omega), fun _ => by omega⟩
  · rw [if_neg hci]
    rcases h with ⟨rfl, h⟩ | ⟨b, o, rfl, h⟩
    · left
      refine ⟨by simp, fun e => ?_⟩
      cases a with
      | none => have := h rfl; simp at hj; omega
      | some x => cases e
    · right
      refine ⟨b, o + i * 2, by simp [addr_add], fun k hk => ?_⟩
      rw [hlen] at hk
      have := h (i + k) (by omega)
      have e : ((l.take j).drop i).getD k ([], []) = l.getD (i + k) ([], []) := by simp [show i + k < j by omega]
      rw [e, show o + i * 2 + k * 2 = o + (i + k) * 2 by omega]
      exact this
theorem TensIs.cap {w : World} {a : Option Addr} {n cap : Nat} {l : FL} (h : TensIs w (.slice a n cap) l) : l.length ≤ cap := by
  obtain ⟨a', cap', e, hc, _⟩ := h
  simp only [Value.slice.injEq] at e
  obtain ⟨_, _, rfl⟩ := e
  exact hc
theorem tenslice_lh (a : Option Addr) (cap : Nat) (l : FL) (i j : Nat) (hij : i ≤ j) (hj : j ≤ l.length) (hc : l.length ≤ cap) : ∃ a1 c1, (∀ W, (Instr.slice 26 (.slice a l.length cap) (some (.int .i64 (i : Int))) (some (.int .i64 (j : Int))) none).run Try.prog W = .ok (.slice a1 (j - i) c1) W) ∧ ∀ W, TensIs W (.slice a l.length cap) l → TensIs W (.slice a1 (j - i) c1) ((l.take j).drop i) := by
  refine ⟨if cap = i then a else a.map (·.add (i * 2)), cap - i, fun W => ?_, fun W h => ?_⟩
  · rw [run_slice_lh _ _ _ _ _ (by kernel_rfl) _ _ _ _ (by omega) (by omega) (by omega), sizeTenS]
    simp only [Result.andThen, Go.sliced, Int.toNat_natCast]
  · have := h.sliced i j hij hj
    simpa only [Go.sliced] using this
set_option maxRecDepth 100000 in
set_option maxHeartbeats 1000000 in
theorem fpairsOf_none (w : World) (a : Option Addr) (cap : Nat) : Calls Try.prog 29 #[.slice a 0 cap] w fun e w' => e = .returned (.slice none 0 0) ∧ w' = w := by
  go_enter Try.func29, Try.ntmps29
  go_wp2
  go_ret
  exact ⟨rfl, rfl⟩
set_option maxRecDepth 100000 in
set_option maxHeartbeats 1000000 in
theorem fpairsOf_one (w : World) (b o cap : Nat) (vp : Value) (hc : w.cell? ⟨b, o + 1, none⟩ = some vp) (hs : ∃ a n c, vp = .slice a n c) : Calls Try.prog 29 #[.slice (some ⟨b, o, none⟩) 1 cap] w fun e w' => e = .returned vp ∧ w' = w := by
  obtain ⟨a, n, c, rfl⟩ := hs
  go_enter Try.func29, Try.ntmps29
  go_wp2
  go_ret
  exact ⟨rfl, rfl⟩
/-- What stands for what a name has: nothing, or the value in the tenant's second cell. -/
theorem fpairsOf_any (w : World) (v : Value) (l m : FL) (k : List UInt8) (hv : TensIs w v m) (hm : (m = [] ∧ ofF l k = []) ∨ ∃ t, m = [t] ∧ ofF l k = t.2) :
    Calls Try.prog 29 #[v] w fun e w' => ∃ x, e = .returned x ∧ PairsIs w x (ofF l k) ∧ w' = w := by
  rcases hm with ⟨rfl, h0⟩ | ⟨t, rfl, h1⟩
  · obtain ⟨a, cap, rfl⟩ := hv.shape
    refine (fpairsOf_none w a cap).mono ?_
    rintro e w' ⟨rfl, rfl⟩
    exact ⟨_, rfl, by rw [h0]; exact pairsIs_nil _, rfl⟩
  · obtain ⟨a, cap, rfl⟩ := hv.shape
    obtain ⟨b, o, rfl, vn, vp, c1, c2, s1, s2⟩ := hv.at 0 (by simp)
    rw [show (([t] : FL).getD 0 ([], [])) = t from rfl] at s1 s2
    refine (fpairsOf_one w b o cap vp (by simpa using c2) (by obtain ⟨a, c, e⟩ := s2.shape; exact ⟨_, _, _, e⟩)).mono ?_
    rintro e w' ⟨rfl, rfl⟩
    exact ⟨_, rfl, by rw [h1]; exact s2, rfl⟩
set_option maxRecDepth 100000 in
set_option maxHeartbeats 1000000 in
theorem checkedPairs_any (w : World) (v u : Value) (l : FL) (k : List UInt8) (hv : TensIs w v l) (hu : SliceIs w u k) (hl : FitsT l) :
    Calls Try.prog 19 #[v, u] w fun e w' => ∃ x, e = .returned (.tuple #[x, .int .i64 (fnE l k)]) ∧ (fnE l k = 0 → PairsIs w' x (ofF l k)) ∧ (∃ a n c, x = .slice a n c) ∧ w.grownBy w' none := by
  have CH : Hid (Calls Try.prog 14 #[v] w fun e w' => e = .returned (.int .i64 (forestE l)) ∧ w.grownBy w' none) := fcheck_ok w v l hv hl
  have HE : Hid (fnE l k = if forestE l = 0 then nameFaultF k.length else forestE l) := rfl
  obtain ⟨ua, uc, rfl⟩ := hu.shape
  by_cases hz : forestE l = 0
  · have hF := (forest_iff l).1 hz
    rw [hz] at CH
    by_cases hn : nameFaultF k.length = 0
    · have hE0 : fnE l k = 0 := by rw [HE.out, if_pos hz, hn]
      have hpn := t_next_le l k
      have hroom := hF.room
      have PL1 : Hid (∀ w', w.grownBy w' none → Calls Try.prog 28 #[v, .slice ua k.length uc] w' fun e w'' => e = .returned (.tuple #[.int .i64 (t_posF l k : Int), .int .i64 (t_nextF l k : Int)]) ∧ w'.grownBy w'' none) := fun w' hg => fplace_any w' v _ l k (hv.grown hg) (hu.grown hg) hF.rises hF.room
      obtain ⟨a, cap, rfl⟩ := hv.shape
      obtain ⟨a1, c1, k1, q1⟩ := tenslice_lh a cap l (t_posF l k) (t_nextF l k) hpn.1 hpn.2.1 hv.cap
      have PO : Hid (∀ w', w.grownBy w' none → Calls Try.prog 29 #[.slice a1 (t_nextF l k - t_posF l k) c1] w' fun e w'' => ∃ x, e = .returned x ∧ PairsIs w' x (ofF l k) ∧ w'' = w') := fun w' hg => fpairsOf_any w' _ l _ k (q1 w' (hv.grown hg)) (by
        rcases of_piece l k hF.rises with ⟨h1, h2, _⟩ | ⟨t, h1, h2, _⟩
        · exact .inl ⟨h1, h2⟩
        · exact .inr ⟨t, h1, h2⟩)
      rw [hE0]
      have HM : Hid (∀ w' x, PairsIs w' x (ofF l k) → ∃ a n c, x = .slice a n c) := fun w' x h => by obtain ⟨a, c, e⟩ := h.shape; exact ⟨_, _, _, e⟩
      have HNM : Hid (nameFaultF k.length = 0) := hn
      generalize ofF l k = M at *
      generalize t_posF l k = n at *
      generalize t_nextF l k = nx at *
      obtain ⟨p1, p2, p3⟩ := hpn
      clear hE0 hv hu hl hF hz hn HE q1
      go_enter Try.func19, Try.ntmps19
      go_wp2_with fail
      refine CH.out.mono ?_
      rintro e w1 ⟨rfl, hg1⟩
      go_wp2_with fail
      refine (fnm_any _ _ _ _).mono ?_
      rintro e w1' ⟨rfl, rfl⟩
      rw [HNM.out]
      go_wp2_with fail
      refine (PL1.out _ hg1).mono ?_
      rintro e w2 ⟨rfl, hg2⟩
      have hg12 := grown_trans hg1 hg2
      go_wp2_with fail
      refine (PO.out _ hg12).mono ?_
      rintro e w3 ⟨x, rfl, h3, rfl⟩
      obtain ⟨xa, xn, xc, rfl⟩ := HM.out _ _ h3
      have H3 : Hid (PairsIs w3 (.slice xa xn xc) M) := h3
      clear h3
      go_wp2
      go_ret2
      exact ⟨_, rfl, fun _ => H3.out, ⟨_, _, _, rfl⟩, hg12⟩
    · have hE0 : fnE l k = nameFaultF k.length := by rw [HE.out, if_pos hz]
      rw [hE0]
      obtain ⟨a, cap, rfl⟩ := hv.shape
      have HNM : Hid (nameFaultF k.length ≠ 0) := hn
      have NM : Hid (∀ W, Calls Try.prog 27 #[.slice ua k.length uc] W fun e w' => e = .returned (.int .i64 (nameFaultF k.length)) ∧ w' = W) := fun W => fnm_any W _ _ _
      clear hE0 hv hu hl hF hz hn HE
      generalize nameFaultF k.length = z at *
      go_enter Try.func19, Try.ntmps19
      go_wp2_with fail
      refine CH.out.mono ?_
      rintro e w1 ⟨rfl, hg1⟩
      go_wp2_with fail
      refine (NM.out _).mono ?_
      rintro e w1' ⟨rfl, rfl⟩
      have hz : (z != 0) = true := by simpa using HNM.out
      go_wp2
      go_ret2
      exact ⟨_, rfl, fun h => absurd h HNM.out, ⟨_, _, _, rfl⟩, hg1⟩
  · have hE0 : fnE l k = forestE l := by rw [HE.out, if_neg hz]
    rw [hE0]
    obtain ⟨a, cap, rfl⟩ := hv.shape
    have HNM : Hid (forestE l ≠ 0) := hz
    generalize forestE l = z at *
    have hz' : (z != 0) = true := by simpa using hz
    clear hE0 hv hu hl HE hz
    go_enter Try.func19, Try.ntmps19
    go_wp2_with fail
    refine CH.out.mono ?_
    rintro e w1 ⟨rfl, hg1⟩
    go_wp2
    go_ret2
    exact ⟨_, rfl, fun h => absurd h HNM.out, ⟨_, _, _, rfl⟩, hg1⟩
end Go.Proofs.Ytkkcjnhfbblgiac
