/-
  The pairs of a tenant of a forest that was checked, as forest's code takes them.
-/
import Derived.Test.YtpmfbfflacbmjacPart8
import Derived.Test.YtpmfbfflacbmjacPart1
namespace Go.Proofs.Ytpmfbfflacbmjac
open Go.RowKit
set_option maxRecDepth 100000 in
set_option maxHeartbeats 1000000 in
theorem checkedPairs_any (w : World) (v u : Value) (l : FL) (k : List UInt8) (hv : TensIs w v l) (hu : SliceIs w u k) (hl : FitsT l) :
    Calls Try.prog 29 #[v, u] w fun e w' => ∃ x, e = .returned (.tuple #[x, .int .i64 (fnE l k)]) ∧ (fnE l k = 0 → PairsIs w' x (ofF l k)) ∧ (∃ a n c, x = .slice a n c) ∧ w.grownBy w' none := by
  have CH : Hid (Calls Try.prog 45 #[v] w fun e w' => e = .returned (.int .i64 (forestE l)) ∧ w.grownBy w' none) := fcheck_ok w v l hv hl
  have HE : Hid (fnE l k = if forestE l = 0 then nameFaultF k.length else forestE l) := rfl
  obtain ⟨ua, uc, rfl⟩ := hu.shape
  by_cases hz : forestE l = 0
  · have hF := (forest_iff l).1 hz
    rw [hz] at CH
    by_cases hn : nameFaultF k.length = 0
    · have hE0 : fnE l k = 0 := by rw [HE.out, if_pos hz, hn]
      have hpn := t_next_le l k
      have hroom := hF.room
      have PL1 : Hid (∀ w', w.grownBy w' none → Calls Try.prog 56 #[v, .slice ua k.length uc] w' fun e w'' => e = .returned (.tuple #[.int .i64 (t_posF l k : Int), .int .i64 (t_nextF l k : Int)]) ∧ w'.grownBy w'' none) := fun w' hg => fplace_any w' v _ l k (hv.grown hg) (hu.grown hg) hF.rises hF.room
      obtain ⟨a, cap, rfl⟩ := hv.shape
      obtain ⟨a1, c1, k1, q1⟩ := tenslice_lh a cap l (t_posF l k) (t_nextF l k) hpn.1 hpn.2.1 hv.cap
      have PO : Hid (∀ w', w.grownBy w' none → Calls Try.prog 57 #[.slice a1 (t_nextF l k - t_posF l k) c1] w' fun e w'' => ∃ x, e = .returned x ∧ PairsIs w' x (ofF l k) ∧ w'' = w') := fun w' hg => fpairsOf_any w' _ l _ k (q1 w' (hv.grown hg)) (by
        rcases of_piece l k hF.rises with ⟨h1, h2, _⟩ | ⟨t, h1, h2, _⟩
        · exact .inl ⟨h1, h2⟩
        · exact .inr ⟨t, h1, h2⟩)
      rw [hE0]
      have HM : Hid (∀ w' x, PairsIs w' x (ofF l k) → ∃ a n c, x = .slice a n c) := fun w' x h => by obtain ⟨a, c, e⟩ := h.shape; exact ⟨_, _, _, e⟩
      have HNM : Hid (nameFaultF k.length = 0) := hn
      generalize ofF l k = M at *
      generalize t_posF l k = n at *
      generalize t_nextF l k = nx at *
      obtain ⟨p1, p2, p3⟩ := hpn
      clear hE0 hv hu hl hF hz hn HE q1
      go_enter Try.func29, Try.ntmps29
      go_wp2_with fail
      refine CH.out.mono ?_
      rintro e w1 ⟨rfl, hg1⟩
      go_wp2_with fail
      refine (fnm_any _ _ _ _).mono ?_
      rintro e w1' ⟨rfl, rfl⟩
      rw [HNM.out]
      go_wp2_with fail
      refine (PL1.out _ hg1).mono ?_
      rintro e w2 ⟨rfl, hg2⟩
      have hg12 := grown_trans hg1 hg2
      go_wp2_with fail
      refine (PO.out _ hg12).mono ?_
      rintro e w3 ⟨x, rfl, h3, rfl⟩
      obtain ⟨xa, xn, xc, rfl⟩ := HM.out _ _ h3
      have H3 : Hid (PairsIs w3 (.slice xa xn xc) M) := h3
      clear h3
      go_wp2
      go_ret2
      exact ⟨_, rfl, fun _ => H3.out, ⟨_, _, _, rfl⟩, hg12⟩
    · have hE0 : fnE l k = nameFaultF k.length := by rw [HE.out, if_pos hz]
      rw [hE0]
      obtain ⟨a, cap, rfl⟩ := hv.shape
      have HNM : Hid (nameFaultF k.length ≠ 0) := hn
      have NM : Hid (∀ W, Calls Try.prog 55 #[.slice ua k.length uc] W fun e w' => e = .returned (.int .i64 (nameFaultF k.length)) ∧ w' = W) := fun W => fnm_any W _ _ _
      clear hE0 hv hu hl hF hz hn HE
      generalize nameFaultF k.length = z at *
      go_enter Try.func29, Try.ntmps29
      go_wp2_with fail
      refine CH.out.mono ?_
      rintro e w1 ⟨rfl, hg1⟩
      go_wp2_with fail
      refine (NM.out _).mono ?_
      rintro e w1' ⟨rfl, rfl⟩
      have hz : (z != 0) = true := by simpa using HNM.out
      go_wp2
      go_ret2
      exact ⟨_, rfl, fun h => absurd h HNM.out, ⟨_, _, _, rfl⟩, hg1⟩
  · have hE0 : fnE l k = forestE l := by rw [HE.out, if_neg hz]
    rw [hE0]
    obtain ⟨a, cap, rfl⟩ := hv.shape
    have HNM : Hid (forestE l ≠ 0) := hz
    generalize forestE l = z at *
    have hz' : (z != 0) = true := by simpa using hz
    clear hE0 hv hu hl HE hz
    go_enter Try.func29, Try.ntmps29
    go_wp2_with fail
    refine CH.out.mono ?_
    rintro e w1 ⟨rfl, hg1⟩
    go_wp2
    go_ret2
    exact ⟨_, rfl, fun h => absurd h HNM.out, ⟨_, _, _, rfl⟩, hg1⟩
end Go.Proofs.Ytpmfbfflacbmjac
