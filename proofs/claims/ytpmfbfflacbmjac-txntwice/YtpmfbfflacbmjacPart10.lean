/-
  Texts of this proof, joined: FWPairsP, FWrittenP.
-/
import Derived.Test.YtpmfbfflacbmjacWrMem
import Derived.Test.YtpmfbfflacbmjacPart1
import Derived.Test.YtpmfbfflacbmjacTPutP
import Derived.Test.YtpmfbfflacbmjacTDelP
import Derived.Test.YtpmfbfflacbmjacPart8
import Derived.Test.YtpmfbfflacbmjacPart9
/-
  forest.writtenPairs, as it landed.
-/
namespace Go.Proofs.Ytpmfbfflacbmjac
open Go.RowKit
/-- What writtenPairs answers: an error, or pairs. -/
def wpE (m : PL) (w : Plc) : Int := if w.gone = true then (if getE m w.key = 0 then (if 0 < w.value.length then 4 else 0) else getE m w.key) else putE m (w.key, w.value)
def wpL (m : PL) (w : Plc) : PL := if w.gone = true then delL m w.key else putL m (w.key, w.value)
/-- An error of a write, or of room. -/
def stepE (l : FL) (w : Plc) : Int := if writeE w = 0 then writtenE l w else writeE w
theorem wp_name {l : FL} (w : Plc) (h : nameFaultF w.name.length ≠ 0) : stepE l w = nameFaultF w.name.length := by
  have : writeE w = nameFaultF w.name.length := by rw [writeE, if_neg h]
  rw [stepE, this, if_neg h]
theorem wp_step {l : FL} (hF : Forest l) (w : Plc) (h : nameFaultF w.name.length = 0) : (wpE (ofF l w.name) w ≠ 0 → stepE l w = wpE (ofF l w.name) w) ∧ (wpE (ofF l w.name) w = 0 → writeE w = 0 ∧ nextE l w = 0) ∧ wpL (ofF l w.name) w = nextL l w := by
  have hT := of_tree hF w.name
  have hT0 := (tree_iff _).2 hT
  have hg0 : getE (ofF l w.name) w.key = keyFaultF w.key.length := by rw [getE, if_pos hT0]
  have hp0 : putE0 (ofF l w.name) (w.key, w.value) = pairFaultF (w.key, w.value) := by rw [putE0, if_pos hT0]
  refine ⟨fun hne => ?_, fun he => ?_, rfl⟩
  · unfold wpE at hne ⊢
    by_cases hg : w.gone = true
    · rw [if_pos hg] at hne ⊢
      have hw : writeE w = if keyFaultF w.key.length = 0 then (if 0 < w.value.length then 4 else 0) else keyFaultF w.key.length := by rw [writeE, if_pos h, if_pos hg]
      rw [hg0, ← hw] at hne ⊢
      rw [stepE, if_neg hne]
    · rw [if_neg hg] at hne ⊢
      have hw : writeE w = pairFaultF (w.key, w.value) := by rw [writeE, if_pos h, if_neg hg]
      by_cases h0 : pairFaultF (w.key, w.value) = 0
      · rw [stepE, hw, if_pos h0, writtenE, nextE, if_neg hg, if_neg hne]
      · rw [stepE, hw, if_neg h0, putE, hp0, if_neg h0]
  · unfold wpE at he
    by_cases hg : w.gone = true
    · rw [if_pos hg] at he
      have hw : writeE w = if keyFaultF w.key.length = 0 then (if 0 < w.value.length then 4 else 0) else keyFaultF w.key.length := by rw [writeE, if_pos h, if_pos hg]
      rw [hg0, ← hw] at he
      refine ⟨he, ?_⟩
      rw [nextE, if_pos hg, hg0]
      exact (keyFault_iff _).2 ((writeE_iff w).1 he).2.1
    · rw [if_neg hg] at he
      have hw : writeE w = pairFaultF (w.key, w.value) := by rw [writeE, if_pos h, if_neg hg]
      refine ⟨?_, by rw [nextE, if_neg hg]; exact he⟩
      rw [hw]
      by_cases h0 : pairFaultF (w.key, w.value) = 0
      · exact h0
      · rw [putE, hp0, if_neg h0] at he; exact he
set_option maxRecDepth 100000 in
set_option maxHeartbeats 1000000 in
theorem writtenPairs_any (w : World) (v u : Value) (m : PL) (p : Plc) (hv : PairsIs w v m) (hu : WriteIs w u p) (hl : Fits m) (hp : PlcFits p) :
    Calls Try.prog 67 #[v, u] w fun e w' => ∃ x, e = .returned (.tuple #[x, .int .i64 (wpE m p)]) ∧ (wpE m p = 0 → PairsB 0 w' x (wpL m p)) ∧ (∃ a n c, x = .slice a n c) ∧ w.grownBy w' none := by
  obtain ⟨vn, vk, vv, rfl, h1, h2, h3⟩ := hu
  obtain ⟨na, nc, rfl⟩ := h1.shape
  obtain ⟨ka, kc, rfl⟩ := h2.shape
  obtain ⟨va, vc, rfl⟩ := h3.shape
  obtain ⟨W, hW⟩ : ∃ W : World, W = w.alloc (.cells #[.slice na p.name.length nc, .slice ka p.key.length kc, .bool p.gone, .slice va p.value.length vc] 53) := ⟨_, rfl⟩
  have HW : Hid (W = w.alloc (.cells #[.slice na p.name.length nc, .slice ka p.key.length kc, .bool p.gone, .slice va p.value.length vc] 53)) := hW
  have hg : w.grownBy W none := by rw [hW]; exact World.grownBy_alloc _ _ _
  have BK : Hid (W.heap[w.heap.size]? = some (.cells #[.slice na p.name.length nc, .slice ka p.key.length kc, .bool p.gone, .slice va p.value.length vc] 53)) := by rw [hW]; exact heap_alloc_new w _
  obtain ⟨⟨c0, c1, c2, c3⟩, _⟩ := quad_room (grown_refl W none) BK.out
  by_cases hgo : p.gone = true
  · have DE : Hid (Calls Try.prog 78 #[v, .slice ka p.key.length kc] W fun e w' => ∃ x, e = .returned (.tuple #[x, .int .i64 (getE m p.key)]) ∧ PairsB 0 w' x (delF m p.key) ∧ W.grownBy w' none) := tdel_new W v _ m p.key (hv.grown hg) (h2.grown hg) hl hp.2.1
    have e1 : wpE m p = if getE m p.key = 0 then (if 0 < p.value.length then 4 else 0) else getE m p.key := by rw [wpE, if_pos hgo]
    have e2 : wpL m p = delL m p.key := by rw [wpL, if_pos hgo]
    have HF : Hid (getE m p.key = 0 → delF m p.key = delL m p.key) := fun h => by rw [delF, if_pos h]
    rw [e1, e2]
    rw [hgo] at HW BK c2 ⊢
    obtain ⟨a, cap, rfl⟩ := hv.shape
    generalize delF m p.key = D at *
    generalize delL m p.key = D2 at *
    generalize getE m p.key = z at *
    clear e1 e2 hv h1 h2 h3 hW hl hp hgo
    by_cases hz : z = 0
    · subst hz
      by_cases hvl : 0 < p.value.length
      · rw [if_pos rfl, if_pos hvl]
        have t1 : (p.value.length : Int) > 0 := by omega
        go_enter Try.func67, Try.ntmps67
        go_wp2_with fail
        rw [← HW.out]
        go_wp2_with fail
        refine DE.out.mono ?_
        rintro e w1 ⟨x, rfl, hx, hg1⟩
        obtain ⟨xa, xc, rfl⟩ := hx.shape
        obtain ⟨⟨d0, d1, d2, d3⟩, _⟩ := quad_room hg1 BK.out
        clear c0 c1 c2 c3 hx
        go_wp2
        go_ret2
        exact ⟨_, rfl, fun h => absurd h (by decide), ⟨_, _, _, rfl⟩, grown_trans hg hg1⟩
      · rw [if_pos rfl, if_neg hvl]
        have t1 : ¬ (p.value.length : Int) > 0 := by omega
        go_enter Try.func67, Try.ntmps67
        go_wp2_with fail
        rw [← HW.out]
        go_wp2_with fail
        refine DE.out.mono ?_
        rintro e w1 ⟨x, rfl, hx, hg1⟩
        have HX : Hid (PairsB 0 w1 x D2) := by rw [← HF.out trivial]; exact hx
        obtain ⟨xa, xc, rfl⟩ := hx.shape
        obtain ⟨⟨d0, d1, d2, d3⟩, _⟩ := quad_room hg1 BK.out
        clear c0 c1 c2 c3 hx
        go_wp2
        go_ret2
        exact ⟨_, rfl, fun _ => HX.out, ⟨_, _, _, rfl⟩, grown_trans hg hg1⟩
    · rw [if_neg hz]
      have hz' : (z == 0) = false := by simpa using hz
      have HZ : Hid (z ≠ 0) := hz
      clear hz
      go_enter Try.func67, Try.ntmps67
      go_wp2_with fail
      rw [← HW.out]
      go_wp2_with fail
      refine DE.out.mono ?_
      rintro e w1 ⟨x, rfl, hx, hg1⟩
      obtain ⟨xa, xc, rfl⟩ := hx.shape
      obtain ⟨⟨d0, d1, d2, d3⟩, _⟩ := quad_room hg1 BK.out
      clear c0 c1 c2 c3 hx
      go_wp2
      go_ret2
      exact ⟨_, rfl, fun h => absurd h HZ.out, ⟨_, _, _, rfl⟩, grown_trans hg hg1⟩
  · have hgf : p.gone = false := by simpa using hgo
    have PU : Hid (Calls Try.prog 77 #[v, .agg #[.slice ka p.key.length kc, .slice va p.value.length vc]] W fun e w' => ∃ x, e = .returned (.tuple #[x, .int .i64 (putE m (p.key, p.value))]) ∧ PairsB 0 w' x (putF m (p.key, p.value)) ∧ W.grownBy w' none) := tput_new W v _ m (p.key, p.value) (hv.grown hg) ⟨_, _, rfl, h2.grown hg, h3.grown hg⟩ hl hp.2.1 hp.2.2
    have e1 : wpE m p = putE m (p.key, p.value) := by rw [wpE, if_neg hgo]
    have e2 : wpL m p = putL m (p.key, p.value) := by rw [wpL, if_neg hgo]
    have HF : Hid (putE m (p.key, p.value) = 0 → putF m (p.key, p.value) = putL m (p.key, p.value)) := fun h => by rw [putF, if_pos h]
    rw [e1, e2]
    rw [hgf] at HW BK c2 ⊢
    obtain ⟨a, cap, rfl⟩ := hv.shape
    generalize putF m (p.key, p.value) = D at *
    generalize putL m (p.key, p.value) = D2 at *
    generalize putE m (p.key, p.value) = z at *
    clear e1 e2 hv h1 h2 h3 hW hl hp hgo hgf
    go_enter Try.func67, Try.ntmps67
    go_wp2_with fail
    rw [← HW.out]
    go_wp2_with fail
    refine PU.out.mono ?_
    rintro e w1 ⟨x, rfl, hx, hg1⟩
    have HX : Hid (PairsB 0 w1 x D) := hx
    obtain ⟨xa, xc, rfl⟩ := hx.shape
    clear hx
    go_wp2
    go_ret2
    exact ⟨_, rfl, fun h => by rw [← HF.out h]; exact HX.out, ⟨_, _, _, rfl⟩, grown_trans hg hg1⟩
end Go.Proofs.Ytpmfbfflacbmjac

/-
  forest.written, as it landed: one write to tenants of the call's own.
-/
namespace Go.Proofs.Ytpmfbfflacbmjac
open Go.RowKit
theorem written_pos {l : FL} (hF : Forest l) (p : Plc) (hw : writeE p = 0) (hn : nextE l p = 0) :
    ((nextL l p).length = 0 → stepE l p = 0 ∧ writtenL l p = l.take (t_posF l p.name) ++ l.drop (t_nextF l p.name)) ∧
    ((nextL l p).length ≠ 0 → t_posF l p.name = t_nextF l p.name ∧ l.length = 8 → stepE l p = 11) ∧
    ((nextL l p).length ≠ 0 → ¬ (t_posF l p.name = t_nextF l p.name ∧ l.length = 8) → stepE l p = 0 ∧ writtenL l p = l.take (t_posF l p.name) ++ [(p.name, nextL l p)] ++ l.drop (t_nextF l p.name)) := by
  have hs : stepE l p = if 8 < (writtenL l p).length then 11 else 0 := by rw [stepE, if_pos hw, writtenE, if_pos hn]
  have hroom := hF.room
  refine ⟨fun h0 => ?_, fun h0 hf => ?_, fun h0 hf => ?_⟩
  · have e : writtenL l p = t_delL l p.name := by rw [writtenL, if_pos h0]
    have := t_del_len l p.name
    exact ⟨by rw [hs, e, if_neg (by omega)], by rw [e, t_del_next l p.name hF.rises]⟩
  · have e : writtenL l p = t_putL l (p.name, nextL l p) := by rw [writtenL, if_neg h0]
    rw [hs, e, if_pos ((t_put_room l (p.name, nextL l p) hroom).2 hf)]
  · have e : writtenL l p = t_putL l (p.name, nextL l p) := by rw [writtenL, if_neg h0]
    refine ⟨by rw [hs, e, if_neg (fun h => hf ((t_put_room l (p.name, nextL l p) hroom).1 h))], ?_⟩
    rw [e, t_put_next]
    simp only [List.append_assoc]
set_option maxRecDepth 100000 in
set_option maxHeartbeats 2000000 in
theorem fwritten_any (base : Nat) (w : World) (v u : Value) (l : FL) (p : Plc) (hown : OwnT base w v l) (hF : Forest l) (hu : WriteIs w u p) (hp : PlcFits p) (hbase : base ≤ w.heap.size) :
    Calls Try.prog 47 #[v, u] w fun e w' => ∃ x, e = .returned (.tuple #[x, .int .i64 (stepE l p)]) ∧ (stepE l p = 0 → OwnT base w' x (writtenL l p)) ∧ (∃ a n c, x = .slice a n c) ∧ w.grownBy w' v.ownBlock := by
  have hu0 := hu
  obtain ⟨vn, vk, vv, rfl, h1, h2, h3⟩ := hu
  obtain ⟨na, nc, rfl⟩ := h1.shape
  obtain ⟨ka, kc, rfl⟩ := h2.shape
  obtain ⟨va, vc, rfl⟩ := h3.shape
  obtain ⟨W, hW⟩ : ∃ W : World, W = w.alloc (.cells #[.slice na p.name.length nc, .slice ka p.key.length kc, .bool p.gone, .slice va p.value.length vc] 53) := ⟨_, rfl⟩
  have HW : Hid (W = w.alloc (.cells #[.slice na p.name.length nc, .slice ka p.key.length kc, .bool p.gone, .slice va p.value.length vc] 53)) := hW
  have hg : w.grownBy W none := by rw [hW]; exact World.grownBy_alloc _ _ _
  have BK : Hid (W.heap[w.heap.size]? = some (.cells #[.slice na p.name.length nc, .slice ka p.key.length kc, .bool p.gone, .slice va p.value.length vc] 53)) := by rw [hW]; exact heap_alloc_new w _
  obtain ⟨⟨c0, c1, c2, c3⟩, _⟩ := quad_room (grown_refl W none) BK.out
  have hv := hown.list
  have HO : Hid (OwnT base w v l) := hown
  obtain ⟨a, cap, rfl⟩ := hv.shape
  by_cases hn : nameFaultF p.name.length = 0
  · have hpn := t_next_le l p.name
    have hroom := hF.room
    have hT := of_tree hF p.name
    have PL1 : Hid (∀ w', W.grownBy w' none → Calls Try.prog 56 #[.slice a l.length cap, .slice na p.name.length nc] w' fun e w'' => e = .returned (.tuple #[.int .i64 (t_posF l p.name : Int), .int .i64 (t_nextF l p.name : Int)]) ∧ w'.grownBy w'' none) := fun w' hg' => fplace_any w' _ _ l p.name (hv.grown (grown_trans hg hg')) (h1.grown (grown_trans hg hg')) hF.rises hF.room
    obtain ⟨a1, k1c, k1, q1⟩ := tenslice_lh a cap l (t_posF l p.name) (t_nextF l p.name) hpn.1 hpn.2.1 hv.cap
    have PO : Hid (∀ w', W.grownBy w' none → Calls Try.prog 57 #[.slice a1 (t_nextF l p.name - t_posF l p.name) k1c] w' fun e w'' => ∃ x, e = .returned x ∧ PairsIs w' x (ofF l p.name) ∧ w'' = w') := fun w' hg' => fpairsOf_any w' _ l _ p.name (q1 w' (hv.grown (grown_trans hg hg'))) (by
      rcases of_piece l p.name hF.rises with ⟨h1, h2, _⟩ | ⟨t, h1, h2, _⟩
      · exact .inl ⟨h1, h2⟩
      · exact .inr ⟨t, h1, h2⟩)
    have WP : Hid (∀ w' x, W.grownBy w' none → PairsIs w' x (ofF l p.name) → Calls Try.prog 67 #[x, .agg #[.slice na p.name.length nc, .slice ka p.key.length kc, .bool p.gone, .slice va p.value.length vc]] w' fun e w'' => ∃ y, e = .returned (.tuple #[y, .int .i64 (wpE (ofF l p.name) p)]) ∧ (wpE (ofF l p.name) p = 0 → PairsB 0 w'' y (wpL (ofF l p.name) p)) ∧ (∃ a n c, y = .slice a n c) ∧ w'.grownBy w'' none) := fun w' x hg' hx => writtenPairs_any w' x _ _ p hx (hu0.grown (grown_trans hg hg')) hT.fits hp
    have HS : Hid (∀ w' x, PairsIs w' x (ofF l p.name) → ∃ a n c, x = .slice a n c) := fun w' x h => by obtain ⟨a, c, e⟩ := h.shape; exact ⟨_, _, _, e⟩
    obtain ⟨s1, s2, s3⟩ := wp_step hF p hn
    rw [s3] at WP
    have HNM : Hid (nameFaultF p.name.length = 0) := hn
    have H1 : Hid (SliceIs w (.slice na p.name.length nc) p.name) := h1
    have hnl : p.name.length ≤ 8 := ((nameFault_iff _).1 hn).2
    by_cases hE : wpE (ofF l p.name) p = 0
    · obtain ⟨hw0, hn0⟩ := s2 hE
      obtain ⟨r1, r2, r3⟩ := written_pos hF p hw0 hn0
      rw [hE] at WP
      by_cases h0 : (nextL l p).length = 0
      · obtain ⟨e1, e2⟩ := r1 h0
        rw [e1, e2]
        have t0 : ∀ (y : Value) (w' : World), PairsB 0 w' y (nextL l p) → ∃ a c, y = .slice a 0 c := fun y w' h => by
          obtain ⟨a, c, e⟩ := h.shape
          rw [h0] at e
          exact ⟨a, c, e⟩
        have HT0 : Hid (∀ (y : Value) (w' : World), PairsB 0 w' y (nextL l p) → ∃ a c, y = .slice a 0 c) := t0
        have DL : Hid (∀ w', W.grownBy w' none → Calls Try.prog 68 #[.slice a l.length cap, .int .i64 (t_posF l p.name : Int), .int .i64 (t_nextF l p.name : Int)] w' fun e w'' => ∃ v', e = .returned v' ∧ OwnT base w'' v' (l.take (t_posF l p.name) ++ l.drop (t_nextF l p.name)) ∧ w'.grownBy w'' (Value.ownBlock (.slice a l.length cap))) := fun w' hg' => tdelete_any base w' _ l _ _ (HO.out.grownNone (grown_trans hg hg')) (by omega) hpn.2.1 (by omega)
        generalize wpE (ofF l p.name) p = zz at *
        generalize ofF l p.name = M at *
        generalize nextL l p = D at *
        generalize l.take (t_posF l p.name) ++ l.drop (t_nextF l p.name) = R at *
        generalize t_posF l p.name = n at *
        generalize t_nextF l p.name = nx at *
        obtain ⟨p1, p2, p3⟩ := hpn
        clear r1 r2 r3 s1 s2 s3 e1 e2 hv hT hF hu0 h1 h2 h3 hW q1 hown t0 hE hn h0 hp
        go_enter Try.func47, Try.ntmps47
        go_wp2_with fail
        rw [← HW.out]
        go_wp2_with fail
        refine (fnm_any _ _ _ _).mono ?_
        rintro e w0 ⟨rfl, rfl⟩
        rw [HNM.out]
        go_wp2_with fail
        refine (PL1.out _ (grown_refl _ _)).mono ?_
        rintro e w1 ⟨rfl, hg1⟩
        obtain ⟨⟨d0, d1, d2, d3⟩, _⟩ := quad_room hg1 BK.out
        clear c0 c1 c2 c3
        have hgd := grown_drew hg1
        go_wp2_with fail
        go_region_with (first
          | (go_at_call 57; refine (PO.out _ hgd).mono ?_; rintro e w2 ⟨x, rfl, hx, rfl⟩; obtain ⟨xa, xn, xc, rfl⟩ := HS.out _ _ hx; have HX : Hid (PairsIs w1.drew (.slice xa xn xc) M) := hx; clear hx)
          | (go_at_call 67; refine (WP.out _ _ hgd HX.out).mono ?_; rintro e w3 ⟨y, rfl, hy, ⟨ya, yn, yc, rfl⟩, hg3⟩))
        all_goals
          have HY : Hid (PairsB 0 w3 (.slice ya yn yc) D) := hy trivial
          have hg13 := grown_trans hgd hg3
          obtain ⟨ya2, yc2, ey⟩ := HT0.out _ _ HY.out
          simp only [Value.slice.injEq] at ey
          obtain ⟨rfl, rfl, rfl⟩ := ey
          clear hy
          go_wp2_with fail
          refine (DL.out _ hg13).mono ?_
          rintro e w4 ⟨v4, rfl, ho4, hg4⟩
          have H4 : Hid (OwnT base w4 v4 R) := ho4
          obtain ⟨a4, c4, rfl⟩ := ho4.shape
          clear ho4
          go_wp2
          go_ret2
          exact ⟨_, rfl, fun _ => H4.out, ⟨_, _, _, rfl⟩, grownBy_trans (grownBy_any (grown_trans hg hg13)) hg4⟩
      · have t0 : ((nextL l p).length : Int) ≠ 0 := by omega
        have HLN : Hid (∀ (y : Value) (w' : World), PairsB 0 w' y (nextL l p) → ∃ a c, y = .slice a (nextL l p).length c) := fun y w' h => by
          obtain ⟨a, c, e⟩ := h.shape
          exact ⟨a, c, e⟩
        by_cases hfull : t_posF l p.name = t_nextF l p.name ∧ l.length = 8
        · rw [r2 h0 hfull]
          have u1 : ((t_posF l p.name : Int) == (t_nextF l p.name : Int)) = true := by simp [hfull.1]
          have u2 : ((l.length : Int) == 8) = true := by simp [hfull.2]
          have t1 : (((nextL l p).length : Int) == 0) = false := by simpa using h0
          clear hfull
          generalize wpE (ofF l p.name) p = zz at *
          generalize ofF l p.name = M at *
          generalize nextL l p = D at *
          generalize t_posF l p.name = n at *
          generalize t_nextF l p.name = nx at *
          obtain ⟨p1, p2, p3⟩ := hpn
          clear r1 r2 r3 s1 s2 s3 hv hT hF hu0 h1 h2 h3 hW q1 hown hE hn h0 hp t0
          go_enter Try.func47, Try.ntmps47
          go_wp2_with fail
          rw [← HW.out]
          go_wp2_with fail
          refine (fnm_any _ _ _ _).mono ?_
          rintro e w0 ⟨rfl, rfl⟩
          rw [HNM.out]
          go_wp2_with fail
          refine (PL1.out _ (grown_refl _ _)).mono ?_
          rintro e w1 ⟨rfl, hg1⟩
          obtain ⟨⟨d0, d1, d2, d3⟩, _⟩ := quad_room hg1 BK.out
          clear c0 c1 c2 c3
          have hgd := grown_drew hg1
          go_wp2_with fail
          go_region_with (first
            | (go_at_call 57; refine (PO.out _ hgd).mono ?_; rintro e w2 ⟨x, rfl, hx, rfl⟩; obtain ⟨xa, xn, xc, rfl⟩ := HS.out _ _ hx; have HX : Hid (PairsIs w1.drew (.slice xa xn xc) M) := hx; clear hx)
            | (go_at_call 67; refine (WP.out _ _ hgd HX.out).mono ?_; rintro e w3 ⟨y, rfl, hy, ⟨ya, yn, yc, rfl⟩, hg3⟩))
          all_goals
            have HY : Hid (PairsB 0 w3 (.slice ya yn yc) D) := hy trivial
            have hg13 := grown_trans hgd hg3
            obtain ⟨ya2, yc2, ey⟩ := HLN.out _ _ HY.out
            simp only [Value.slice.injEq] at ey
            obtain ⟨rfl, rfl, rfl⟩ := ey
            clear hy
            generalize List.length D = dl at *
            go_wp2
            go_ret2
            exact ⟨_, rfl, fun h => absurd h (by decide), ⟨_, _, _, rfl⟩, grownBy_any (grown_trans hg hg13)⟩
        · obtain ⟨e1, e2⟩ := r3 h0 hfull
          rw [e1, e2]
          have t1 : (((nextL l p).length : Int) == 0) = false := by simpa using h0
          have uu : ((t_posF l p.name : Int) == (t_nextF l p.name : Int)) = true ∧ ((l.length : Int) == 8) = false ∨ ((t_posF l p.name : Int) == (t_nextF l p.name : Int)) = false := by
            by_cases hq : t_posF l p.name = t_nextF l p.name
            · exact .inl ⟨by simp [hq], by have : l.length ≠ 8 := fun h => hfull ⟨hq, h⟩; simp; omega⟩
            · exact .inr (by simp; omega)
          have RE : Hid (∀ (w' : World) (nb : Nat) (x : VP), w.grownBy w' none → OneT 0 w' nb x (p.name, nextL l p) → w.heap.size ≤ nb → Calls Try.prog 69 #[.slice a l.length cap, .int .i64 (t_posF l p.name : Int), .int .i64 (t_nextF l p.name : Int), .slice (some ⟨nb, 0, none⟩) 1 1] w' fun e w'' => ∃ v', e = .returned v' ∧ OwnT base w'' v' (l.take (t_posF l p.name) ++ [(p.name, nextL l p)] ++ l.drop (t_nextF l p.name)) ∧ w'.grownBy w'' (Value.ownBlock (.slice a l.length cap))) := fun w' nb x hg' hx hnb => treplace_any base w' _ l _ _ nb x _ (HO.out.grownNone hg') (by omega) hpn.2.1 (by omega) hx (fun e => by have := (HO.out.lt nb e).2; omega) (by have := hg'.size; omega)
          clear hfull
          generalize wpE (ofF l p.name) p = zz at *
          generalize ofF l p.name = M at *
          generalize nextL l p = D at *
          generalize l.take (t_posF l p.name) ++ [(p.name, D)] ++ l.drop (t_nextF l p.name) = R at *
          generalize t_posF l p.name = n at *
          generalize t_nextF l p.name = nx at *
          obtain ⟨p1, p2, p3⟩ := hpn
          clear r1 r2 r3 s1 s2 s3 hv hT hF hu0 h1 h2 h3 hW q1 hown hE hn h0 hp t0 e1 e2
          rcases uu with ⟨u1, u2⟩ | u1
          all_goals
            go_enter Try.func47, Try.ntmps47
            go_wp2_with fail
            rw [← HW.out]
            go_wp2_with fail
            refine (fnm_any _ _ _ _).mono ?_
            rintro e w0 ⟨rfl, rfl⟩
            rw [HNM.out]
            go_wp2_with fail
            refine (PL1.out _ (grown_refl _ _)).mono ?_
            rintro e w1 ⟨rfl, hg1⟩
            obtain ⟨⟨d0, d1, d2, d3⟩, _⟩ := quad_room hg1 BK.out
            clear c0 c1 c2 c3
            have hgd := grown_drew hg1
            go_wp2_with fail
            go_region_with (first
              | (go_at_call 57; refine (PO.out _ hgd).mono ?_; rintro e w2 ⟨x, rfl, hx, rfl⟩; obtain ⟨xa, xn, xc, rfl⟩ := HS.out _ _ hx; have HX : Hid (PairsIs w1.drew (.slice xa xn xc) M) := hx; clear hx)
              | (go_at_call 67; refine (WP.out _ _ hgd HX.out).mono ?_; rintro e w3 ⟨y, rfl, hy, ⟨ya, yn, yc, rfl⟩, hg3⟩))
            all_goals
              have HY : Hid (PairsB 0 w3 (.slice ya yn yc) D) := hy trivial
              have hg13 := grown_trans hgd hg3
              obtain ⟨ya2, yc2, ey⟩ := HLN.out _ _ HY.out
              simp only [Value.slice.injEq] at ey
              obtain ⟨rfl, rfl, rfl⟩ := ey
              clear hy
              have hgw3 := grown_trans hg hg13
              have CN : Hid (Calls Try.prog 44 #[.slice na p.name.length nc] w3 fun e w'' => ∃ v', e = .returned v' ∧ Own w3.heap.size w'' v' p.name ∧ w3.grownBy w'' none) := clone_any w3 _ p.name (H1.out.grown hgw3) (by omega)
              obtain ⟨⟨f0, f1, f2, f3⟩, _⟩ := quad_room hg13 BK.out
              clear d0 d1 d2 d3
              generalize List.length D = dl at *
              go_wp2_with fail
              refine CN.out.mono ?_
              rintro e w4 ⟨v4, rfl, ho4, hg4⟩
              obtain ⟨a4, c4, rfl⟩ := ho4.shape
              have ON : Hid (OneT 0 (w4.alloc (.cells #[.slice a4 p.name.length c4, .slice ya dl yc] 113)) w4.heap.size (.slice a4 p.name.length c4, .slice ya dl yc) (p.name, D)) := ⟨heap_alloc_new w4 _, (ho4.alloc _).part, ((HY.out.grown hg4).grown (World.grownBy_alloc _ _ _)).up _⟩
              have hgw4 := grown_trans hgw3 hg4
              have hsz := hgw4.size
              clear ho4
              go_wp2_with fail
              refine (RE.out _ _ _ (grown_alloc hgw4 _) ON.out hsz).mono ?_
              rintro e w5 ⟨v5, rfl, ho5, hg5⟩
              have H5 : Hid (OwnT base w5 v5 R) := ho5
              obtain ⟨a5, c5, rfl⟩ := ho5.shape
              clear ho5
              go_wp2
              go_ret2
              exact ⟨_, rfl, fun _ => H5.out, ⟨_, _, _, rfl⟩, grownBy_trans (grownBy_any (grown_alloc hgw4 _)) hg5⟩
    · rw [s1 hE]
      have HE : Hid (wpE (ofF l p.name) p ≠ 0) := hE
      generalize wpE (ofF l p.name) p = z at *
      generalize ofF l p.name = M at *
      generalize nextL l p = D at *
      generalize t_posF l p.name = n at *
      generalize t_nextF l p.name = nx at *
      obtain ⟨p1, p2, p3⟩ := hpn
      have hz' : (z != 0) = true := by simpa using hE
      clear s1 s2 s3 hv hT hF hu0 h1 h2 h3 hW q1 hown hE hn hp
      go_enter Try.func47, Try.ntmps47
      go_wp2_with fail
      rw [← HW.out]
      go_wp2_with fail
      refine (fnm_any _ _ _ _).mono ?_
      rintro e w0 ⟨rfl, rfl⟩
      rw [HNM.out]
      go_wp2_with fail
      refine (PL1.out _ (grown_refl _ _)).mono ?_
      rintro e w1 ⟨rfl, hg1⟩
      obtain ⟨⟨d0, d1, d2, d3⟩, _⟩ := quad_room hg1 BK.out
      clear c0 c1 c2 c3
      have hgd := grown_drew hg1
      go_wp2_with fail
      go_region_with (first
        | (go_at_call 57; refine (PO.out _ hgd).mono ?_; rintro e w2 ⟨x, rfl, hx, rfl⟩; obtain ⟨xa, xn, xc, rfl⟩ := HS.out _ _ hx; have HX : Hid (PairsIs w1.drew (.slice xa xn xc) M) := hx; clear hx)
        | (go_at_call 67; refine (WP.out _ _ hgd HX.out).mono ?_; rintro e w3 ⟨y, rfl, hy, ⟨ya, yn, yc, rfl⟩, hg3⟩))
      all_goals
        clear hy
        have hg13 := grown_trans hgd hg3
        go_wp2
        go_ret2
        exact ⟨_, rfl, fun h => absurd h HE.out, ⟨_, _, _, rfl⟩, grownBy_any (grown_trans hg hg13)⟩
  · rw [wp_name p hn]
    have HN : Hid (nameFaultF p.name.length ≠ 0) := hn
    have NM : Hid (Calls Try.prog 55 #[.slice na p.name.length nc] W fun e w' => e = .returned (.int .i64 (nameFaultF p.name.length)) ∧ w' = W) := fnm_any W _ _ _
    generalize nameFaultF p.name.length = z at *
    have hz' : (z != 0) = true := by simpa using hn
    clear hv hF hu0 h1 h2 h3 hW hown hn hp
    go_enter Try.func47, Try.ntmps47
    go_wp2_with fail
    rw [← HW.out]
    go_wp2_with fail
    refine NM.out.mono ?_
    rintro e w0 ⟨rfl, rfl⟩
    go_wp2
    go_ret2
    exact ⟨_, rfl, fun h => absurd h HN.out, ⟨_, _, _, rfl⟩, grownBy_any hg⟩
end Go.Proofs.Ytpmfbfflacbmjac
