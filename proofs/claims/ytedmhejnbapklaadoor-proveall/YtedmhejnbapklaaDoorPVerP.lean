/-
  proof.Verify, as it landed, keeps P4.3.
-/
import Derived.Test.YtedmhejnbapklaaDoorPRootP
import Derived.Test.YtedmhejnbapklaaDoorPCheckP
import Derived.Test.YtedmhejnbapklaaDoorPart5
import Derived.Test.YtedmhejnbapklaaDoorCloneP
namespace Go.Proofs.YtedmhejnbapklaaDoor
open Go.RowKit
theorem equal_any (w : World) (v1 v2 : Value) (b1 b2 : List UInt8) (h1 : SliceIs w v1 b1) (h2 : SliceIs w v2 b2) :
    Calls Tryd.prog 40 #[v1, v2] w fun e w' => e = .returned (.bool (decide (b1 = b2))) ∧ w' = w := by
  have c1 := conv_bytes w v1 b1 h1
  have c2 := conv_bytes w v2 b2 h2
  go_enter Tryd.func40, Tryd.ntmps40
  go_wp2
  go_ret
  refine ⟨?_, rfl⟩
  have e : ((textOf b1).toList == (textOf b2).toList) = decide (b1 = b2) := by rw [textOf_list, textOf_list]; by_cases h : b1 = b2 <;> simp [h]
  rw [← e]
  rfl
set_option maxRecDepth 100000 in
set_option maxHeartbeats 2000000 in
theorem pverify_ok : PVerifyOK := by
  intro w r u v root k p hr hu hv hf ht
  have hv0 := hv
  obtain ⟨vs, vk, vv, rfl, hs, h1, h2⟩ := hv
  obtain ⟨ra, rc, rfl⟩ := hr.shape
  obtain ⟨ua, uc, rfl⟩ := hu.shape
  obtain ⟨sa, sc, rfl⟩ := hs.shape
  obtain ⟨ka, kc, rfl⟩ := h1.shape
  obtain ⟨va, vc, rfl⟩ := h2.shape
  obtain ⟨W1, hW1⟩ : ∃ W1 : World, W1 = (w.alloc (.cells #[.bool p.empty, .slice sa p.steps.length sc, .slice ka p.pair.1.length kc, .slice va p.pair.2.length vc] 29)).alloc (.cells #[.bool false, .slice none 0 0] 39) := ⟨_, rfl⟩
  have hgW : w.grownBy W1 none := by rw [hW1]; exact grown_alloc (World.grownBy_alloc _ _ _) _
  have HW1 : Hid (W1 = (w.alloc (.cells #[.bool p.empty, .slice sa p.steps.length sc, .slice ka p.pair.1.length kc, .slice va p.pair.2.length vc] 29)).alloc (.cells #[.bool false, .slice none 0 0] 39)) := hW1
  have bP : Hid (W1.heap[w.heap.size]? = some (.cells #[.bool p.empty, .slice sa p.steps.length sc, .slice ka p.pair.1.length kc, .slice va p.pair.2.length vc] 29)) := by
    show _ = _
    rw [hW1]; exact pair_old (World.grownBy_alloc _ _ _) (heap_alloc_new w _)
  have bF : Hid (W1.heap[w.heap.size + 1]? = some (.cells #[.bool false, .slice none 0 0] 39)) := by
    have := heap_alloc_new (w.alloc (.cells #[.bool p.empty, .slice sa p.steps.length sc, .slice ka p.pair.1.length kc, .slice va p.pair.2.length vc] 29)) (.cells #[.bool false, .slice none 0 0] 39)
    rw [World.size_alloc] at this
    show _ = _
    rw [hW1]; exact this
  have hsz : W1.heap.size = w.heap.size + 1 + 1 := by rw [hW1]; simp
  by_cases h32 : root.length = 32
  · have t32 : ((root.length : Int) != 32) = false := by simp [h32]
    have CK : Hid (Calls Tryd.prog 23 #[.slice ua k.length uc, .agg #[.bool p.empty, .slice sa p.steps.length sc, .slice ka p.pair.1.length kc, .slice va p.pair.2.length vc]] W1 fun e w' => e = .returned (.int .i64 (proofE k p)) ∧ W1.grownBy w' none) := pcheck_ok W1 _ _ k p (hu.grown hgW) (hv0.grown hgW) hf
    obtain ⟨⟨a0, a1, a2, a3⟩, _⟩ := quad_room (grown_refl W1 none) bP.out
    by_cases hp : proofE k p = 0
    · obtain ⟨_, hm⟩ := proofE_ok hp
      have RO : Hid (∀ w', W1.grownBy w' none → Calls Tryd.prog 39 #[.agg #[.bool p.empty, .slice sa p.steps.length sc, .slice ka p.pair.1.length kc, .slice va p.pair.2.length vc]] w' fun e w'' => ∃ x, e = .returned (.tuple #[x, .int .i64 0]) ∧ SliceIs w'' x (rootP p) ∧ w'.grownBy w'' none) := fun w' hg => prootOf_any w' _ k p (hv0.grown (grown_trans hgW hg)) hm hf (ht.grownNone (grown_trans hgW hg))
      have HR : Hid (SliceIs W1 (.slice ra root.length rc) root) := hr.grown hgW
      have HU : Hid (SliceIs W1 (.slice ua k.length uc) k) := hu.grown hgW
      have HK : Hid (SliceIs W1 (.slice ka p.pair.1.length kc) p.pair.1) := h1.grown hgW
      have HV : Hid (SliceIs W1 (.slice va p.pair.2.length vc) p.pair.2) := h2.grown hgW
      have hl2 := hf.2.2.2
      rw [hp] at CK
      by_cases hroot : rootP p = root
      · obtain ⟨e1, e2, e3⟩ := ver_ok h32 hp hroot
        have EQ : Hid (∀ w' x, W1.grownBy w' none → SliceIs w' x (rootP p) → Calls Tryd.prog 40 #[x, .slice ra root.length rc] w' fun e w'' => e = .returned (.bool true) ∧ w'' = w') := fun w' x hg hx => by
          have := equal_any w' x _ _ _ hx (HR.out.grown hg)
          rw [decide_eq_true hroot] at this
          exact this
        have EK : Hid (∀ w', W1.grownBy w' none → Calls Tryd.prog 40 #[.slice ka p.pair.1.length kc, .slice ua k.length uc] w' fun e w'' => e = .returned (.bool (decide (p.pair.1 = k))) ∧ w'' = w') := fun w' hg => equal_any w' _ _ _ _ (HK.out.grown hg) (HU.out.grown hg)
        have CL : Hid (∀ w', W1.grownBy w' none → Calls Tryd.prog 30 #[.slice va p.pair.2.length vc] w' fun e w'' => ∃ v', e = .returned v' ∧ Own w'.heap.size w'' v' p.pair.2 ∧ w'.grownBy w'' none) := fun w' hg => clone_any w' _ _ (HV.out.grown hg) hl2
        rw [e1, e2, e3]
        have hF : foundF k p = (!p.empty && decide (p.pair.1 = k)) := by
          unfold foundF
          cases p.empty <;> by_cases h : p.pair.1 = k <;> simp [h]
        clear hs h1 h2 hv0 hf ht hr hu hm HR HU HK HV e1 e2 e3 hroot hW1 h32
        cases he : p.empty with
        | true =>
          have hF2 : foundF k p = false := by rw [hF, he]; rfl
          rw [hF2, if_neg (by simp)]
          rw [he] at HW1 bP CK RO a0
          clear hF hF2 he
          go_enter Tryd.func15, Tryd.ntmps15
          go_wp2_with fail
          rw [← HW1.out]
          refine CK.out.mono ?_
          rintro e w1 ⟨rfl, hg1⟩
          have b0 := hg1.cell a0 (by simp)
          have b1 := hg1.cell a1 (by simp)
          have b2 := hg1.cell a2 (by simp)
          have b3 := hg1.cell a3 (by simp)
          go_wp2_with fail
          refine (RO.out _ hg1).mono ?_
          rintro e w2 ⟨x, rfl, hx, hg2⟩
          have hg12 := grown_trans hg1 hg2
          have d0 := hg2.cell b0 (by simp)
          have d2 := hg2.cell b2 (by simp)
          have d3 := hg2.cell b3 (by simp)
          have BB := pair_old hg12 bF.out
          have EQ1 := EQ.out w2 x hg12 hx
          have HEQ : Hid (Calls Tryd.prog 40 #[x, .slice ra root.length rc] w2 fun e w'' => e = .returned (.bool true) ∧ w'' = w2) := EQ1
          obtain ⟨xa, xc, rfl⟩ := hx.shape
          clear EQ1 hx
          go_wp2_with fail
          refine HEQ.out.mono ?_
          rintro e w3 ⟨rfl, rfl⟩
          obtain ⟨c0, c1, f0, f1⟩ := two_cells BB
          obtain ⟨r0, r1, _, _⟩ := two_cells (two_set BB (.bool false) (.slice none 0 0))
          go_wp2
          refine bodyPost_ret (v := .tuple #[.agg #[.bool false, .slice none 0 0], .int .i64 0]) (by simp [results, Tryd.results15, go_sem, r0, r1]) rfl ?_
          exact ⟨_, rfl, sliceIs_nil _, grown_two (grown_trans hgW hg12) _ (by omega) _ _⟩
        | false =>
          rw [he] at HW1 bP CK RO a0
          by_cases hkk : p.pair.1 = k
          · have hF2 : foundF k p = true := by rw [hF, he, decide_eq_true hkk]; rfl
            rw [hF2, if_pos rfl]
            rw [decide_eq_true hkk] at EK
            clear hF hF2 he hkk
            go_enter Tryd.func15, Tryd.ntmps15
            go_wp2_with fail
            rw [← HW1.out]
            refine CK.out.mono ?_
            rintro e w1 ⟨rfl, hg1⟩
            have b0 := hg1.cell a0 (by simp)
            have b1 := hg1.cell a1 (by simp)
            have b2 := hg1.cell a2 (by simp)
            have b3 := hg1.cell a3 (by simp)
            go_wp2_with fail
            refine (RO.out _ hg1).mono ?_
            rintro e w2 ⟨x, rfl, hx, hg2⟩
            have hg12 := grown_trans hg1 hg2
            have d0 := hg2.cell b0 (by simp)
            have d2 := hg2.cell b2 (by simp)
            have d3 := hg2.cell b3 (by simp)
            have HEQ : Hid (Calls Tryd.prog 40 #[x, .slice ra root.length rc] w2 fun e w'' => e = .returned (.bool true) ∧ w'' = w2) := EQ.out w2 x hg12 hx
            obtain ⟨xa, xc, rfl⟩ := hx.shape
            clear hx
            go_wp2_with fail
            refine HEQ.out.mono ?_
            rintro e w3 ⟨rfl, rfl⟩
            go_wp2_with fail
            refine (EK.out _ hg12).mono ?_
            rintro e w4 ⟨rfl, rfl⟩
            go_wp2_with fail
            refine (CL.out _ hg12).mono ?_
            rintro e w5 ⟨v5, rfl, ho5, hg5⟩
            have hg15 := grown_trans hg12 hg5
            have BB := pair_old hg15 bF.out
            have hsz5 := hg12.size
            obtain ⟨xa5, xc5, rfl⟩ := ho5.shape
            have OF := (ho5.setOther (w.heap.size + 1) 0 (.bool true) (by omega)).setOther (w.heap.size + 1) 1 (.slice xa5 p.pair.2.length xc5) (by omega)
            obtain ⟨c0, c1, f0, f1⟩ := two_cells BB
            obtain ⟨r0, r1, _, _⟩ := two_cells (two_set BB (.bool true) (.slice xa5 p.pair.2.length xc5))
            go_wp2
            refine bodyPost_ret (v := .tuple #[.agg #[.bool true, .slice xa5 p.pair.2.length xc5], .int .i64 0]) (by simp [results, Tryd.results15, go_sem, r0, r1]) rfl ?_
            exact ⟨_, rfl, OF.slice, grown_two (grown_trans hgW hg15) _ (by omega) _ _⟩
          · have hF2 : foundF k p = false := by rw [hF, he, decide_eq_false hkk]; rfl
            rw [hF2, if_neg (by simp)]
            rw [decide_eq_false hkk] at EK
            clear hF hF2 he hkk
            go_enter Tryd.func15, Tryd.ntmps15
            go_wp2_with fail
            rw [← HW1.out]
            refine CK.out.mono ?_
            rintro e w1 ⟨rfl, hg1⟩
            have b0 := hg1.cell a0 (by simp)
            have b1 := hg1.cell a1 (by simp)
            have b2 := hg1.cell a2 (by simp)
            have b3 := hg1.cell a3 (by simp)
            go_wp2_with fail
            refine (RO.out _ hg1).mono ?_
            rintro e w2 ⟨x, rfl, hx, hg2⟩
            have hg12 := grown_trans hg1 hg2
            have d0 := hg2.cell b0 (by simp)
            have d2 := hg2.cell b2 (by simp)
            have d3 := hg2.cell b3 (by simp)
            have HEQ : Hid (Calls Tryd.prog 40 #[x, .slice ra root.length rc] w2 fun e w'' => e = .returned (.bool true) ∧ w'' = w2) := EQ.out w2 x hg12 hx
            obtain ⟨xa, xc, rfl⟩ := hx.shape
            clear hx
            go_wp2_with fail
            refine HEQ.out.mono ?_
            rintro e w3 ⟨rfl, rfl⟩
            go_wp2_with fail
            refine (EK.out _ hg12).mono ?_
            rintro e w4 ⟨rfl, rfl⟩
            have BB := pair_old hg12 bF.out
            obtain ⟨c0, c1, f0, f1⟩ := two_cells BB
            obtain ⟨r0, r1, _, _⟩ := two_cells (two_set BB (.bool false) (.slice none 0 0))
            go_wp2
            refine bodyPost_ret (v := .tuple #[.agg #[.bool false, .slice none 0 0], .int .i64 0]) (by simp [results, Tryd.results15, go_sem, r0, r1]) rfl ?_
            exact ⟨_, rfl, sliceIs_nil _, grown_two (grown_trans hgW hg12) _ (by omega) _ _⟩
      · obtain ⟨e1, e2, e3⟩ := ver_proof (k := k) h32 hp hroot
        have EQ : Hid (∀ w' x, W1.grownBy w' none → SliceIs w' x (rootP p) → Calls Tryd.prog 40 #[x, .slice ra root.length rc] w' fun e w'' => e = .returned (.bool false) ∧ w'' = w') := fun w' x hg hx => by
          have := equal_any w' x _ _ _ hx (HR.out.grown hg)
          rw [decide_eq_false hroot] at this
          exact this
        rw [e1, e2, e3]
        clear hs h1 h2 hv0 hf ht hr hu hm HR HU HK HV e1 e2 e3 hroot hW1 h32
        go_enter Tryd.func15, Tryd.ntmps15
        go_wp2_with fail
        rw [← HW1.out]
        refine CK.out.mono ?_
        rintro e w1 ⟨rfl, hg1⟩
        have b0 := hg1.cell a0 (by simp)
        have b1 := hg1.cell a1 (by simp)
        have b2 := hg1.cell a2 (by simp)
        have b3 := hg1.cell a3 (by simp)
        go_wp2_with fail
        refine (RO.out _ hg1).mono ?_
        rintro e w2 ⟨x, rfl, hx, hg2⟩
        have hg12 := grown_trans hg1 hg2
        have HEQ : Hid (Calls Tryd.prog 40 #[x, .slice ra root.length rc] w2 fun e w'' => e = .returned (.bool false) ∧ w'' = w2) := EQ.out w2 x hg12 hx
        obtain ⟨xa, xc, rfl⟩ := hx.shape
        clear hx
        go_wp2_with fail
        refine HEQ.out.mono ?_
        rintro e w3 ⟨rfl, rfl⟩
        have BB := pair_old hg12 bF.out
        obtain ⟨c0, c1, f0, f1⟩ := two_cells BB
        obtain ⟨r0, r1, _, _⟩ := two_cells (two_set BB (.bool false) (.slice none 0 0))
        go_wp2
        refine bodyPost_ret (v := .tuple #[.agg #[.bool false, .slice none 0 0], .int .i64 8]) (by simp [results, Tryd.results15, go_sem, r0, r1]) rfl ?_
        exact ⟨_, rfl, sliceIs_nil _, grown_two (grown_trans hgW hg12) _ (by omega) _ _⟩
    · obtain ⟨e1, e2, e3⟩ := ver_form h32 hp
      rw [e1, e2, e3]
      generalize proofE k p = z at *
      have hz' : (z != 0) = true := by simpa using hp
      clear hs h1 h2 hv0 hf ht hr hu e1 e2 e3 hW1 hp h32
      go_enter Tryd.func15, Tryd.ntmps15
      go_wp2_with fail
      rw [← HW1.out]
      refine CK.out.mono ?_
      rintro e w1 ⟨rfl, hg1⟩
      have BB := pair_old hg1 bF.out
      obtain ⟨c0, c1, f0, f1⟩ := two_cells BB
      obtain ⟨r0, r1, _, _⟩ := two_cells (two_set BB (.bool false) (.slice none 0 0))
      go_wp2
      refine bodyPost_ret (v := .tuple #[.agg #[.bool false, .slice none 0 0], .int .i64 z]) (by simp [results, Tryd.results15, go_sem, r0, r1]) rfl ?_
      exact ⟨_, rfl, sliceIs_nil _, grown_two (grown_trans hgW hg1) _ (by omega) _ _⟩
  · obtain ⟨e1, e2, e3⟩ := ver_size (k := k) (p := p) h32
    rw [e1, e2, e3]
    have t32 : ((root.length : Int) != 32) = true := by simp; omega
    have BB := bF.out
    clear hs h1 h2 hv0 hf ht hr hu e1 e2 e3 hW1 h32
    obtain ⟨c0, c1, f0, f1⟩ := two_cells BB
    obtain ⟨r0, r1, _, _⟩ := two_cells (two_set BB (.bool false) (.slice none 0 0))
    rw [HW1.out] at c0 c1 f0 f1 r0 r1
    have hgf := grown_two hgW (w.heap.size + 1) (by omega) (.bool false) (.slice none 0 0)
    rw [HW1.out] at hgf
    go_enter Tryd.func15, Tryd.ntmps15
    go_wp2
    refine bodyPost_ret (v := .tuple #[.agg #[.bool false, .slice none 0 0], .int .i64 1]) (by simp [results, Tryd.results15, go_sem, c0, c1]) rfl ?_
    exact ⟨_, rfl, sliceIs_nil _, grown_alloc (World.grownBy_alloc _ _ _) _⟩
end Go.Proofs.YtedmhejnbapklaaDoor
