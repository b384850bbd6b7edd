/-
  The walk of the document's answer to P4.3: digestUp.
-/
import Derived.Test.YtkkcjnhfbblgiabDoorPart2
import Derived.Test.YtkkcjnhfbblgiabDoorStepMem
import Derived.Test.YtkkcjnhfbblgiabDoorRRoot
import Derived.Handy
namespace Go.Proofs.YtkkcjnhfbblgiabDoor
open Go.RowKit
theorem up_drop (S : List Stp) (P : Pr) (n : Nat) (h : n < S.length) : upL (S.drop n) P = upS (S.getD n noStp) (upL (S.drop (n + 1)) P) := by
  rw [List.drop_eq_getElem_cons h, upL]
  simp [h]
set_option maxRecDepth 100000 in
set_option maxHeartbeats 2000000 in
theorem digestUp_any (w : World) (v : Value) (p : Prf) (hv : ProofIs w v p) (hp : (1 ≤ p.pair.1.length ∧ p.pair.1.length ≤ 16) ∧ p.pair.2.length ≤ 32)
    (hs : ∀ i, i < p.steps.length → (0 ≤ (p.steps.getD i noStp).bit ∧ (p.steps.getD i noStp).bit ≤ 144) ∧ (p.steps.getD i noStp).other.length = 32) (hl : p.steps.length ≤ 140737488355328) :
    Calls Tryd.prog 65 #[v] w fun e w' => ∃ x, e = .returned x ∧ SliceIs w' x (upL p.steps p.pair) ∧ w.grownBy w' none := by
  obtain ⟨vs, vk, vv, rfl, hst, h1, h2⟩ := hv
  obtain ⟨sa, sc, rfl⟩ := hst.shape
  obtain ⟨ka, kc, rfl⟩ := h1.shape
  obtain ⟨va, vc, rfl⟩ := h2.shape
  obtain ⟨W1, hW1⟩ : ∃ W1 : World, W1 = w.alloc (.cells #[.bool p.empty, .slice sa p.steps.length sc, .slice ka p.pair.1.length kc, .slice va p.pair.2.length vc] 29) := ⟨_, rfl⟩
  have hgW : w.grownBy W1 none := by rw [hW1]; exact World.grownBy_alloc _ _ _
  have HW1 : Hid (W1 = w.alloc (.cells #[.bool p.empty, .slice sa p.steps.length sc, .slice ka p.pair.1.length kc, .slice va p.pair.2.length vc] 29)) := hW1
  have bP : W1.heap[w.heap.size]? = some (.cells #[.bool p.empty, .slice sa p.steps.length sc, .slice ka p.pair.1.length kc, .slice va p.pair.2.length vc] 29) := by rw [hW1]; exact heap_alloc_new w _
  obtain ⟨⟨a0, a1, a2, a3⟩, _⟩ := quad_room (grown_refl W1 none) bP
  have LD : Hid (Calls Tryd.prog 84 #[.agg #[.slice ka p.pair.1.length kc, .slice va p.pair.2.length vc]] W1 fun e w' => ∃ x, e = .returned x ∧ SliceIs w' x (leafD p.pair) ∧ W1.grownBy w' none) :=
    leafDigest_any W1 _ p.pair ⟨_, _, rfl, h1.grown hgW, h2.grown hgW⟩ hp
  have HS : Hid (StepsIs W1 (.slice sa p.steps.length sc) p.steps) := hst.grown hgW
  have HB : Hid (∀ i, i < p.steps.length → (0 ≤ (p.steps.getD i noStp).bit ∧ (p.steps.getD i noStp).bit ≤ 144) ∧ (p.steps.getD i noStp).other.length = 32) := hs
  generalize p.pair.1.length = nk at *
  generalize p.pair.2.length = nv at *
  generalize p.pair = P at *
  generalize p.steps = S at *
  generalize p.empty = pe at *
  clear hst h1 h2 hs hW1 bP hp
  have iw : IntKind.i64.wrap ((S.length : Int) - 1) = (S.length : Int) - 1 := by rw [IntKind.wrap_i64]; omega
  go_enter Tryd.func65, Tryd.ntmps65
  go_wp2_with fail
  rw [← HW1.out]
  refine LD.out.mono ?_
  rintro e w1 ⟨x, rfl, hx, hg1⟩
  have b1 := hg1.cell a1 (by simp)
  have HS1 : Hid (StepsIs w1 (.slice sa S.length sc) S) := HS.out.grown hg1
  have hgw1 := grown_trans hgW hg1
  clear HS LD a0 a1 a2 a3
  go_wp2_with fail
  go_loopw [3, 4] (fun s3 s4 wr => ∃ m : Nat, m ≤ S.length ∧ s4 = .int .i64 ((m : Int) - 1) ∧ SliceIs wr s3 (upL (S.drop m) P) ∧ w1.grownBy wr none) (fun _ s4 _ => (intOf s4 + 1).toNat)
  case atStart => exact ⟨S.length, Nat.le_refl _, rfl, by rw [List.drop_length]; exact hx, grown_refl _ _⟩
  case round =>
    obtain ⟨m, hm, rfl, hd, hgr⟩ := hrel
    obtain ⟨da, dc, rfl⟩ := hd.shape
    have c1 := hgr.cell b1 (by simp)
    by_cases h0 : m = 0
    · subst h0
      rw [List.drop_zero] at hd ⊢
      have HX : Hid (SliceIs wr (.slice da (upL S P).length dc) (upL S P)) := hd
      clear hd
      go_wp2
      go_ret
      exact ⟨_, rfl, HX.out, grown_trans hgw1 hgr⟩
    · obtain ⟨n, rfl⟩ : ∃ n, m = n + 1 := ⟨m - 1, by omega⟩
      obtain ⟨b, o, rfl, hat⟩ := HS1.out.at n (by omega)
      obtain ⟨vo, x0, x1, x2, so⟩ := hat.grown hgr
      obtain ⟨⟨hb0, hb1⟩, ho⟩ := HB.out n (by omega)
      have HU : Hid (upL (S.drop n) P = upS (S.getD n noStp) (upL (S.drop (n + 1)) P)) := up_drop S P n (by omega)
      have hDl := upL_len (S.drop (n + 1)) P
      obtain ⟨st, hst⟩ : ∃ st, S.getD n noStp = st := ⟨_, rfl⟩
      rw [hst] at x0 x1 so hb0 hb1 ho HU
      clear hst hat
      generalize upL (S.drop (n + 1)) P = D at *
      obtain ⟨D', hD'⟩ : ∃ D', upL (S.drop n) P = D' := ⟨_, rfl⟩
      have HD' : Hid (upL (S.drop n) P = D') := hD'
      rw [hD'] at HU
      clear hD'
      obtain ⟨sb, sr, sot⟩ := st
      obtain ⟨B, rfl⟩ : ∃ B : Nat, sb = (B : Int) := ⟨sb.toNat, by have : 0 ≤ sb := hb0; omega⟩
      have hB : B < 145 := by have : (B : Int) ≤ 144 := hb1; omega
      obtain ⟨oa, oc, rfl⟩ := so.shape
      have e1 : ((n + 1 : Nat) : Int) - 1 = (n : Int) := by omega
      rw [e1] at *
      have t1 : (n : Int) < (S.length : Int) := by omega
      have t2 : IntKind.i64.wrap ((n : Int) - 1) = (n : Int) - 1 := by rw [IntKind.wrap_i64]; omega
      obtain ⟨V, hV⟩ : ∃ V : World, V = wr.alloc (.cells #[.int .i64 (B : Int), .bool sr, .slice oa sot.length oc] 71) := ⟨_, rfl⟩
      have hgV : wr.grownBy V none := by rw [hV]; exact World.grownBy_alloc _ _ _
      have HV : Hid (V = wr.alloc (.cells #[.int .i64 (B : Int), .bool sr, .slice oa sot.length oc] 71)) := hV
      obtain ⟨⟨y0, y1, y2⟩, _⟩ := three_cells (by rw [hV]; exact heap_alloc_new wr _ : V.heap[wr.heap.size]? = some (.cells #[.int .i64 (B : Int), .bool sr, .slice oa sot.length oc] 71))
      cases sr with
      | true =>
        have FD : Hid (Calls Tryd.prog 85 #[.int .i64 (B : Int), .slice oa sot.length oc, .slice da D.length dc] V fun e w' => ∃ z, e = .returned z ∧ SliceIs w' z D' ∧ V.grownBy w' none) := by
          have := forkDigest_any V B hB _ _ sot D (so.grown hgV) (hd.grown hgV) ho hDl
          rw [HU.out]
          exact this
        clear so hd hV HU ho hDl
        go_wp2_with fail
        rw [← HV.out]
        refine FD.out.mono ?_
        rintro e w2 ⟨z, rfl, hz, hg2⟩
        go_wp2_with fail
        go_roundw
        case rel => exact ⟨n, by omega, by go_num, by rw [HD'.out]; exact hz, grown_trans hgr (grown_trans hgV hg2)⟩
        case measure => simp [intOf]
      | false =>
        have FD : Hid (Calls Tryd.prog 85 #[.int .i64 (B : Int), .slice da D.length dc, .slice oa sot.length oc] V fun e w' => ∃ z, e = .returned z ∧ SliceIs w' z D' ∧ V.grownBy w' none) := by
          have := forkDigest_any V B hB _ _ D sot (hd.grown hgV) (so.grown hgV) hDl ho
          rw [HU.out]
          exact this
        clear so hd hV HU ho hDl
        go_wp2_with fail
        rw [← HV.out]
        refine FD.out.mono ?_
        rintro e w2 ⟨z, rfl, hz, hg2⟩
        go_wp2_with fail
        go_roundw
        case rel => exact ⟨n, by omega, by go_num, by rw [HD'.out]; exact hz, grown_trans hgr (grown_trans hgV hg2)⟩
        case measure => simp [intOf]
end Go.Proofs.YtkkcjnhfbblgiabDoor
