/-
  forest.writtenPairs, as it landed.
-/
import Derived.Test.YtpmfbfflacbmjacWrMem
import Derived.Test.YtpmfbfflacbmjacPart1
import Derived.Test.YtpmfbfflacbmjacTPutP
import Derived.Test.YtpmfbfflacbmjacTDelP
namespace Go.Proofs.Ytpmfbfflacbmjac
open Go.RowKit
/-- What writtenPairs answers: an error, or pairs. -/
def wpE (m : PL) (w : Plc) : Int := if w.gone = true then (if getE m w.key = 0 then (if 0 < w.value.length then 4 else 0) else getE m w.key) else putE m (w.key, w.value)
def wpL (m : PL) (w : Plc) : PL := if w.gone = true then delL m w.key else putL m (w.key, w.value)
/-- An error of a write, or of room. -/
def stepE (l : FL) (w : Plc) : Int := if writeE w = 0 then writtenE l w else writeE w
theorem wp_name {l : FL} (w : Plc) (h : nameFaultF w.name.length ≠ 0) : stepE l w = nameFaultF w.name.length := by
  have : writeE w = nameFaultF w.name.length := by rw [writeE, if_neg h]
  rw [stepE, this, if_neg h]
theorem wp_step {l : FL} (hF : Forest l) (w : Plc) (h : nameFaultF w.name.length = 0) : (wpE (ofF l w.name) w ≠ 0 → stepE l w = wpE (ofF l w.name) w) ∧ (wpE (ofF l w.name) w = 0 → writeE w = 0 ∧ nextE l w = 0) ∧ wpL (ofF l w.name) w = nextL l w := by
  have hT := of_tree hF w.name
  have hT0 := (tree_iff _).2 hT
  have hg0 : getE (ofF l w.name) w.key = keyFaultF w.key.length := by rw [getE, if_pos hT0]
  have hp0 : putE0 (ofF l w.name) (w.key, w.value) = pairFaultF (w.key, w.value) := by rw [putE0, if_pos hT0]
  refine ⟨fun hne => ?_, fun he => ?_, rfl⟩
  · unfold wpE at hne ⊢
    by_cases hg : w.gone = true
    · rw [if_pos hg] at hne ⊢
      have hw : writeE w = if keyFaultF w.key.length = 0 then (if 0 < w.value.length then 4 else 0) else keyFaultF w.key.length := by rw [writeE, if_pos h, if_pos hg]
      rw [hg0, ← hw] at hne ⊢
      rw [stepE, if_neg hne]
    · rw [if_neg hg] at hne ⊢
      have hw : writeE w = pairFaultF (w.key, w.value) := by rw [writeE, if_pos h, if_neg hg]
      by_cases h0 : pairFaultF (w.key, w.value) = 0
      · rw [stepE, hw, if_pos h0, writtenE, nextE, if_neg hg, if_neg hne]
      · rw [stepE, hw, if_neg h0, putE, hp0, if_neg h0]
  · unfold wpE at he
    by_cases hg : w.gone = true
    · rw [if_pos hg] at he
      have hw : writeE w = if keyFaultF w.key.length = 0 then (if 0 < w.value.length then 4 else 0) else keyFaultF w.key.length := by rw [writeE, if_pos h, if_pos hg]
      rw [hg0, ← hw] at he
      refine ⟨he, ?_⟩
      rw [nextE, if_pos hg, hg0]
      exact (keyFault_iff _).2 ((writeE_iff w).1 he).2.1
    · rw [if_neg hg] at he
      have hw : writeE w = pairFaultF (w.key, w.value) := by rw [writeE, if_pos h, if_neg hg]
      refine ⟨?_, by rw [nextE, if_neg hg]; exact he⟩
      rw [hw]
      by_cases h0 : pairFaultF (w.key, w.value) = 0
      · exact h0
      · rw [putE, hp0, if_neg h0] at he; exact he
set_option maxRecDepth 100000 in
set_option maxHeartbeats 1000000 in
theorem writtenPairs_any (w : World) (v u : Value) (m : PL) (p : Plc) (hv : PairsIs w v m) (hu : WriteIs w u p) (hl : Fits m) (hp : PlcFits p) :
    Calls Try.prog 67 #[v, u] w fun e w' => ∃ x, e = .returned (.tuple #[x, .int .i64 (wpE m p)]) ∧ (wpE m p = 0 → PairsB 0 w' x (wpL m p)) ∧ (∃ a n c, x = .slice a n c) ∧ w.grownBy w' none := by
  obtain ⟨vn, vk, vv, rfl, h1, h2, h3⟩ := hu
  obtain ⟨na, nc, rfl⟩ := h1.shape
  obtain ⟨ka, kc, rfl⟩ := h2.shape
  obtain ⟨va, vc, rfl⟩ := h3.shape
  obtain ⟨W, hW⟩ : ∃ W : World, W = w.alloc (.cells #[.slice na p.name.length nc, .slice ka p.key.length kc, .bool p.gone, .slice va p.value.length vc] 53) := ⟨_, rfl⟩
  have HW : Hid (W = w.alloc (.cells #[.slice na p.name.length nc, .slice ka p.key.length kc, .bool p.gone, .slice va p.value.length vc] 53)) := hW
  have hg : w.grownBy W none := by rw [hW]; exact World.grownBy_alloc _ _ _
  have BK : Hid (W.heap[w.heap.size]? = some (.cells #[.slice na p.name.length nc, .slice ka p.key.length kc, .bool p.gone, .slice va p.value.length vc] 53)) := by rw [hW]; exact heap_alloc_new w _
  obtain ⟨⟨c0, c1, c2, c3⟩, _⟩ := quad_room (grown_refl W none) BK.out
  by_cases hgo : p.gone = true
  · have DE : Hid (Calls Try.prog 78 #[v, .slice ka p.key.length kc] W fun e w' => ∃ x, e = .returned (.tuple #[x, .int .i64 (getE m p.key)]) ∧ PairsB 0 w' x (delF m p.key) ∧ W.grownBy w' none) := tdel_new W v _ m p.key (hv.grown hg) (h2.grown hg) hl hp.2.1
    have e1 : wpE m p = if getE m p.key = 0 then (if 0 < p.value.length then 4 else 0) else getE m p.key := by rw [wpE, if_pos hgo]
    have e2 : wpL m p = delL m p.key := by rw [wpL, if_pos hgo]
    have HF : Hid (getE m p.key = 0 → delF m p.key = delL m p.key) := fun h => by rw [delF, if_pos h]
    rw [e1, e2]
    rw [hgo] at HW BK c2 ⊢
    obtain ⟨a, cap, rfl⟩ := hv.shape
    generalize delF m p.key = D at *
    generalize delL m p.key = D2 at *
    generalize getE m p.key = z at *
    clear e1 e2 hv h1 h2 h3 hW hl hp hgo
    by_cases hz : z = 0
    · subst hz
      by_cases hvl : 0 < p.value.length
      · rw [if_pos rfl, if_pos hvl]
        have t1 : (p.value.length : Int) > 0 := by omega
        go_enter Try.func67, Try.ntmps67
        go_wp2_with fail
        rw [← HW.out]
        go_wp2_with fail
        refine DE.out.mono ?_
        rintro e w1 ⟨x, rfl, hx, hg1⟩
        obtain ⟨xa, xc, rfl⟩ := hx.shape
        obtain ⟨⟨d0, d1, d2, d3⟩, _⟩ := quad_room hg1 BK.out
        clear c0 c1 c2 c3 hx
        go_wp2
        go_ret2
        exact ⟨_, rfl, fun h => absurd h (by decide), ⟨_, _, _, rfl⟩, grown_trans hg hg1⟩
      · rw [if_pos rfl, if_neg hvl]
        have t1 : ¬ (p.value.length : Int) > 0 := by omega
        go_enter Try.func67, Try.ntmps67
        go_wp2_with fail
        rw [← HW.out]
        go_wp2_with fail
        refine DE.out.mono ?_
        rintro e w1 ⟨x, rfl, hx, hg1⟩
        have HX : Hid (PairsB 0 w1 x D2) := by rw [← HF.out trivial]; exact hx
        obtain ⟨xa, xc, rfl⟩ := hx.shape
        obtain ⟨⟨d0, d1, d2, d3⟩, _⟩ := quad_room hg1 BK.out
        clear c0 c1 c2 c3 hx
        go_wp2
        go_ret2
        exact ⟨_, rfl, fun _ => HX.out, ⟨_, _, _, rfl⟩, grown_trans hg hg1⟩
    · rw [if_neg hz]
      have hz' : (z == 0) = false := by simpa using hz
      have HZ : Hid (z ≠ 0) := hz
      clear hz
      go_enter Try.func67, Try.ntmps67
      go_wp2_with fail
      rw [← HW.out]
      go_wp2_with fail
      refine DE.out.mono ?_
      rintro e w1 ⟨x, rfl, hx, hg1⟩
      obtain ⟨xa, xc, rfl⟩ := hx.shape
      obtain ⟨⟨d0, d1, d2, d3⟩, _⟩ := quad_room hg1 BK.out
      clear c0 c1 c2 c3 hx
      go_wp2
      go_ret2
      exact ⟨_, rfl, fun h => absurd h HZ.out, ⟨_, _, _, rfl⟩, grown_trans hg hg1⟩
  · have hgf : p.gone = false := by simpa using hgo
    have PU : Hid (Calls Try.prog 77 #[v, .agg #[.slice ka p.key.length kc, .slice va p.value.length vc]] W fun e w' => ∃ x, e = .returned (.tuple #[x, .int .i64 (putE m (p.key, p.value))]) ∧ PairsB 0 w' x (putF m (p.key, p.value)) ∧ W.grownBy w' none) := tput_new W v _ m (p.key, p.value) (hv.grown hg) ⟨_, _, rfl, h2.grown hg, h3.grown hg⟩ hl hp.2.1 hp.2.2
    have e1 : wpE m p = putE m (p.key, p.value) := by rw [wpE, if_neg hgo]
    have e2 : wpL m p = putL m (p.key, p.value) := by rw [wpL, if_neg hgo]
    have HF : Hid (putE m (p.key, p.value) = 0 → putF m (p.key, p.value) = putL m (p.key, p.value)) := fun h => by rw [putF, if_pos h]
    rw [e1, e2]
    rw [hgf] at HW BK c2 ⊢
    obtain ⟨a, cap, rfl⟩ := hv.shape
    generalize putF m (p.key, p.value) = D at *
    generalize putL m (p.key, p.value) = D2 at *
    generalize putE m (p.key, p.value) = z at *
    clear e1 e2 hv h1 h2 h3 hW hl hp hgo hgf
    go_enter Try.func67, Try.ntmps67
    go_wp2_with fail
    rw [← HW.out]
    go_wp2_with fail
    refine PU.out.mono ?_
    rintro e w1 ⟨x, rfl, hx, hg1⟩
    have HX : Hid (PairsB 0 w1 x D) := hx
    obtain ⟨xa, xc, rfl⟩ := hx.shape
    clear hx
    go_wp2
    go_ret2
    exact ⟨_, rfl, fun h => by rw [← HF.out h]; exact HX.out, ⟨_, _, _, rfl⟩, grown_trans hg hg1⟩
end Go.Proofs.Ytpmfbfflacbmjac
