/-
  Texts of this proof, joined: LSame, LSamePair, LSamePs.
-/
import Derived.Test.YtpmfbfflacbmjaaBase
import Derived.Test.YtpmfbfflacbmjaaPart2
import Derived.Deep.RegionWith
import Derived.Handy
/-
  The walk of canopylaw.sameBytes.
-/
namespace Go.Proofs.Ytpmfbfflacbmjaa
open Go.RowKit
theorem sameBytes_any (w : World) (v1 v2 : Value) (b1 b2 : List UInt8) (h1 : SliceIs w v1 b1) (h2 : SliceIs w v2 b2) :
    Calls Try.prog 57 #[v1, v2] w fun e w' => e = .returned (.bool (decide (b1 = b2))) ∧ w' = w := by
  have c1 := conv_bytes w v1 b1 h1
  have c2 := conv_bytes w v2 b2 h2
  go_enter Try.func57, Try.ntmps57
  go_wp2
  go_ret
  refine ⟨?_, rfl⟩
  have e : ((textOf b1).toList == (textOf b2).toList) = decide (b1 = b2) := by rw [textOf_list, textOf_list]; by_cases h : b1 = b2 <;> simp [h]
  rw [← e]
  rfl
end Go.Proofs.Ytpmfbfflacbmjaa

/-
  The walk of canopylaw.samePair.
-/
namespace Go.Proofs.Ytpmfbfflacbmjaa
open Go.RowKit
set_option maxRecDepth 100000 in
set_option maxHeartbeats 1000000 in
theorem samePair_any (w : World) (v u : Value) (p q : Pr) (hv : PairIs w v p) (hu : PairIs w u q) :
    Calls Try.prog 65 #[v, u] w fun e w' => e = .returned (.bool (decide (p = q))) ∧ w.grownBy w' none := by
  obtain ⟨vk, vv, rfl, s1, s2⟩ := hv
  obtain ⟨uk, uv, rfl, r1, r2⟩ := hu
  obtain ⟨W0, hW0⟩ : ∃ W0 : World, W0 = (w.alloc (.cells #[vk, vv] 85)).alloc (.cells #[uk, uv] 85) := ⟨_, rfl⟩
  have hgW : w.grownBy W0 none := by rw [hW0]; exact grown_alloc (grown_alloc (grown_refl _ _) _) _
  have S1 : Hid (SliceIs W0 vk p.1) := s1.grown hgW
  have S2 : Hid (SliceIs W0 vv p.2) := s2.grown hgW
  have R1 : Hid (SliceIs W0 uk q.1) := r1.grown hgW
  have R2 : Hid (SliceIs W0 uv q.2) := r2.grown hgW
  have HW0 : Hid (W0 = (w.alloc (.cells #[vk, vv] 85)).alloc (.cells #[uk, uv] 85)) := hW0
  have HE : Hid (decide (p = q) = (decide (p.1 = q.1) && decide (p.2 = q.2))) := by
    show _ = _
    by_cases h1 : p.1 = q.1 <;> by_cases h2 : p.2 = q.2 <;> simp [Prod.ext_iff, h1, h2]
  have c1 : W0.cell? ⟨w.heap.size, 0, none⟩ = some vk := by rw [hW0]; simp
  have c2 : W0.cell? ⟨w.heap.size, 1, none⟩ = some vv := by rw [hW0]; simp
  have c3 : W0.cell? ⟨w.heap.size + 1, 0, none⟩ = some uk := by rw [hW0]; simp
  have c4 : W0.cell? ⟨w.heap.size + 1, 1, none⟩ = some uv := by rw [hW0]; simp
  clear s1 s2 r1 r2 hW0
  go_enter Try.func65, Try.ntmps65
  go_wp2_with fail
  rw [← HW0.out]
  refine (sameBytes_any _ _ _ _ _ S1.out R1.out).mono ?_
  rintro e w1 ⟨rfl, rfl⟩
  cases hb : decide (p.1 = q.1) with
  | true =>
    go_wp2_with fail
    refine (sameBytes_any _ _ _ _ _ S2.out R2.out).mono ?_
    rintro e w1 ⟨rfl, rfl⟩
    go_wp2
    go_ret
    exact ⟨by rw [HE.out, hb]; rfl, hgW⟩
  | false =>
    go_wp2
    go_ret
    exact ⟨by rw [HE.out, hb]; rfl, hgW⟩
end Go.Proofs.Ytpmfbfflacbmjaa

/-
  The walk of canopylaw's samePairs.
-/
namespace Go.Proofs.Ytpmfbfflacbmjaa
open Go.RowKit
set_option maxRecDepth 100000 in
set_option maxHeartbeats 1000000 in
theorem samePairs_any (w : World) (v u : Value) (l m : PL) (hv : PairsIs w v l) (hu : PairsIs w u m) (hl : l.length ≤ 140737488355328) :
    Calls Try.prog 26 #[v, u] w fun e w' => e = .returned (.bool (decide (l = m))) ∧ w.grownBy w' none := by
  obtain ⟨a, cap, rfl⟩ := hv.shape
  obtain ⟨a2, cap2, rfl⟩ := hu.shape
  by_cases hlen : l.length = m.length
  · have HL : Hid (l.length = m.length) := hlen
    rw [← hlen] at hu ⊢
    clear hlen
    go_enter Try.func26, Try.ntmps26
    go_wp2_with fail
    go_loopw [5] (fun i wr => ∃ k : Nat, k ≤ l.length ∧ i = .int .i64 (k : Int) ∧ w.grownBy wr none ∧ ∀ j, j < k → l.getD j ([], []) = m.getD j ([], [])) (fun i _ => l.length - (intOf i).toNat)
    case atStart => exact ⟨0, by omega, rfl, grown_refl _ _, fun j hj => by omega⟩
    case round =>
      obtain ⟨k, hk, rfl, hg, hsame⟩ := hrel
      have HS : Hid (∀ j, j < k → l.getD j ([], []) = m.getD j ([], [])) := hsame
      clear hsame
      by_cases hlt : k < l.length
      · obtain ⟨b, o, rfl, hat⟩ := hv.at k hlt
        obtain ⟨vk, vv, c1, c2, s1, s2⟩ := hat.grown hg
        obtain ⟨b2, o2, rfl, hat2⟩ := hu.at k (by rw [← HL.out]; exact hlt)
        obtain ⟨uk, uv, d1, d2, r1, r2⟩ := hat2.grown hg
        have SP : Hid (∀ w', wr.grownBy w' none → Calls Try.prog 65 #[.agg #[vk, vv], .agg #[uk, uv]] w' fun e w'' => e = .returned (.bool (decide (l.getD k ([], []) = m.getD k ([], [])))) ∧ w'.grownBy w'' none) :=
          fun w' hg => samePair_any w' _ _ _ _ ⟨vk, vv, rfl, s1.grown hg, s2.grown hg⟩ ⟨uk, uv, rfl, r1.grown hg, r2.grown hg⟩
        obtain ⟨ak, ck, rfl⟩ := s1.shape
        obtain ⟨av, cv, rfl⟩ := s2.shape
        obtain ⟨bk, dk, rfl⟩ := r1.shape
        obtain ⟨bv, dv, rfl⟩ := r2.shape
        generalize (l.getD k ([], [])).1.length = n1 at *
        generalize (l.getD k ([], [])).2.length = n2 at *
        generalize (m.getD k ([], [])).1.length = n3 at *
        generalize (m.getD k ([], [])).2.length = n4 at *
        have i2 : (k : Int) < (l.length : Int) := by omega
        clear hat hat2 hv hu s1 s2 r1 r2
        have hgd := grown_drew (grown_refl wr none)
        cases hb : decide (l.getD k ([], []) = m.getD k ([], [])) with
        | true =>
          rw [hb] at SP
          have hb2 : l.getD k ([], []) = m.getD k ([], []) := of_decide_eq_true hb
          have HB : Hid (l.getD k ([], []) = m.getD k ([], [])) := hb2
          clear hb2
          clear hb
          go_wp2_with fail
          go_region_with (go_at_call 65; refine (SP.out _ ?_).mono ?_; exact hgd; rintro e w1 ⟨rfl, hg1⟩)
          all_goals (go_wp2_with fail; go_roundw)
          case rel =>
            have hs : ∀ j, j < k + 1 → l.getD j ([], []) = m.getD j ([], []) := fun j hj => by
              by_cases hjk : j = k
              · subst hjk; exact HB.out
              · exact HS.out j (by omega)
            first
              | exact ⟨k + 1, by omega, by go_num, grown_trans (grown_trans hg hgd) hg1, hs⟩
              | ((repeat apply Exists.intro); refine ⟨⟨k + 1, by omega, ?_, grown_trans (grown_trans hg hgd) hg1, hs⟩, rfl⟩; go_num)
          case measure => simp [intOf]; omega
          case rel =>
            have hs : ∀ j, j < k + 1 → l.getD j ([], []) = m.getD j ([], []) := fun j hj => by
              by_cases hjk : j = k
              · subst hjk; exact HB.out
              · exact HS.out j (by omega)
            first
              | exact ⟨k + 1, by omega, by go_num, grown_trans (grown_trans hg hgd) hg1, hs⟩
              | ((repeat apply Exists.intro); refine ⟨⟨k + 1, by omega, ?_, grown_trans (grown_trans hg hgd) hg1, hs⟩, rfl⟩; go_num)
          case measure => simp [intOf]; omega
        | false =>
          rw [hb] at SP
          have HB : Hid (decide (l = m) = false) := decide_eq_false fun e => of_decide_eq_false hb (by rw [e])
          clear hb
          go_wp2_with fail
          go_region_with (go_at_call 65; refine (SP.out _ ?_).mono ?_; exact hgd; rintro e w1 ⟨rfl, hg1⟩)
          all_goals (go_wp2; go_ret; exact ⟨by rw [HB.out]; rfl, grown_trans (grown_trans hg hgd) hg1⟩)
      · obtain rfl : k = l.length := by omega
        have HB : Hid (decide (l = m) = true) := decide_eq_true <| List.ext_getElem HL.out fun i h1 h2 => by
          have := HS.out i h1
          simpa [h1, h2] using this
        go_wp2
        go_ret
        exact ⟨by rw [HB.out]; rfl, hg⟩
  · rw [decide_eq_false (fun e => hlen (by rw [e]))]
    have t1 : ¬ (l.length : Int) = (m.length : Int) := by omega
    go_enter Try.func26, Try.ntmps26
    go_wp2
    go_ret
    exact ⟨rfl, grown_refl _ _⟩
end Go.Proofs.Ytpmfbfflacbmjaa
