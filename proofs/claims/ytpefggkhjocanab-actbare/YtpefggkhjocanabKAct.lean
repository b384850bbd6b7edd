/-
  The walk of canopykeep.Act: an act that may be, of raw numbers.
-/
import Derived.Test.YtpefggkhjocanabAcM0
import Derived.Test.YtpefggkhjocanabLineG
import Derived.Test.YtpefggkhjocanabPicked
import Derived.Test.YtpefggkhjocanabSome
import Derived.Deep.RegionHeld3
import Derived.Deep.RegionWith
import Derived.Handy
namespace Go.Proofs.Ytpefggkhjocanab
open Go.RowKit
theorem tri_roomK {W w : World} {b : Nat} {x y z : Value} {t : TypeId} (hg : W.grownBy w none) (h : W.heap[b]? = some (.cells #[x, y, z] t)) :
    (w.cell? ⟨b, 0, none⟩ = some x ∧ w.cell? ⟨b, 1, none⟩ = some y ∧ w.cell? ⟨b, 2, none⟩ = some z) := by
  have hb : w.heap[b]? = some (.cells #[x, y, z] t) := by rw [hg.block b (Array.getElem?_eq_some_iff.1 h).1 (by simp)]; exact h
  refine ⟨?_, ?_, ?_⟩
  all_goals simp [World.cell?, hb]
theorem quad_oneK {w : World} {b : Nat} {x y z u : Value} {t : TypeId} (h : w.heap[b]? = some (.cells #[x, y, z, u] t)) (v : Value) :
    (w.setCell ⟨b, 1, none⟩ v).heap[b]? = some (.cells #[x, v, z, u] t) ∧ (w.setCell ⟨b, 2, none⟩ v).heap[b]? = some (.cells #[x, y, v, u] t) ∧ (w.setCell ⟨b, 3, none⟩ v).heap[b]? = some (.cells #[x, y, z, v] t) := by
  refine ⟨?_, ?_, ?_⟩ <;> (simp only [World.setCell, Array.getElem?_modify, if_true, h, Option.map_some]; first | rfl | simp)
theorem set_elseK {w : World} {b c i : Nat} {o : Obj} {u : Value} (h : w.heap[b]? = some o) (hne : b ≠ c) : (w.setCell ⟨c, i, none⟩ u).heap[b]? = some o := by
  simp only [World.setCell, Array.getElem?_modify]
  rw [if_neg (fun e => hne e.symm)]; exact h
/-- Raw numbers, as a value. -/
def FeatIs (w : World) (v : Value) (k A : Int) (d : List UInt8) : Prop := ∃ vd, v = .agg #[.int .i64 k, .int .i64 A, vd] ∧ SliceIs w vd d
structure FeatFits (k A : Int) (d : List UInt8) : Prop where
  kind : -9223372036854775808 ≤ k ∧ k ≤ 9223372036854775807
  num : -9223372036854775808 ≤ A ∧ A ≤ 9223372036854775807
  data : d.length ≤ 140737488355328
set_option maxRecDepth 100000 in
set_option maxHeartbeats 2000000 in
theorem kact_any (w : World) (v : Value) (k A : Int) (d : List UInt8) (hv : FeatIs w v k A d) (hf : FeatFits k A d) :
    Calls Try.prog 4 #[v] w fun e w' => ∃ (a : Ac) (vd : Value), e = .returned (.agg #[.int .i64 a.kind, .int .i64 a.sess, .int .i64 a.keep, vd]) ∧ ActOK a ∧ a.data.length ≤ 80 ∧ PartIs 0 w' vd a.data ∧ w.grownBy w' none := by
  obtain ⟨vd, rfl, hs⟩ := hv
  obtain ⟨da, dc, rfl⟩ := hs.shape
  obtain ⟨U0, HU0, hgU, BU⟩ := alloc_namedR w (.cells #[.int .i64 k, .int .i64 A, .slice da d.length dc] 24)
  obtain ⟨W0, HW0, hgA, R0⟩ := alloc_namedR U0 (.cells #[.int .i64 0, .int .i64 0, .int .i64 0, .slice none 0 0] 26)
  have HW : Hid (W0 = (w.alloc (.cells #[.int .i64 k, .int .i64 A, .slice da d.length dc] 24)).alloc (.cells #[.int .i64 0, .int .i64 0, .int .i64 0, .slice none 0 0] 26)) := by show _ = _; rw [HW0.out, HU0.out]
  have hsz : U0.heap.size = w.heap.size + 1 := by rw [HU0.out]; simp
  have P0 : Hid (W0.heap[w.heap.size]? = some (.cells #[.int .i64 k, .int .i64 A, .slice da d.length dc] 24)) := pair_old hgA BU.out
  rw [hsz] at R0
  have hg0 := grown_trans hgU hgA
  have hW0 : W0.heap.size = w.heap.size + 2 := by rw [HW0.out]; simp; omega
  have HDS : Hid (SliceIs W0 (.slice da d.length dc) d) := hs.grown hg0
  obtain ⟨X1, hX1, hgX, BX⟩ : ∃ f : Nat → World, (∀ n, f n = W0.alloc (.cells #[.int .i64 (1 + (n : Int)), .int .i64 0, .int .i64 0, .slice none 0 0] 26)) ∧ (∀ n, W0.grownBy (f n) none) ∧ (∀ n, (f n).heap[W0.heap.size]? = some (.cells #[.int .i64 (1 + (n : Int)), .int .i64 0, .int .i64 0, .slice none 0 0] 26)) := ⟨_, fun n => rfl, fun n => World.grownBy_alloc _ _ _, fun n => heap_alloc_new _ _⟩
  have HX1 : Hid (∀ n : Nat, X1 n = W0.alloc (.cells #[.int .i64 (1 + (n : Int)), .int .i64 0, .int .i64 0, .slice none 0 0] 26)) := hX1
  obtain ⟨P, hP⟩ : ∃ P, P = w.heap.size := ⟨_, rfl⟩
  obtain ⟨R, hR⟩ : ∃ R, R = w.heap.size + 1 := ⟨_, rfl⟩
  obtain ⟨X, hX⟩ : ∃ X, X = W0.heap.size := ⟨_, rfl⟩
  have hPR : P ≠ X := by omega
  have hRX : R ≠ X := by omega
  have HRw : Hid (w.heap.size ≤ R) := by show _ ≤ _; omega
  have HXw : Hid (w.heap.size ≤ X) := by show _ ≤ _; omega
  rw [← hP] at P0
  rw [← hR] at R0
  rw [← hX] at BX
  obtain ⟨c0, c1, c2⟩ := tri_roomK (grown_refl W0 none) P0.out
  have PK : Hid (Calls Try.prog 6 #[.int .i64 k, .int .i64 4] W0 fun e w' => ∃ n : Nat, e = .returned (.int .i64 (n : Int)) ∧ (n : Int) < 4 ∧ w' = W0) := picked_any k 4 W0 hf.kind.1 hf.kind.2 (by omega) (by omega)
  have PS : Hid (∀ W, Calls Try.prog 6 #[.int .i64 A, .int .i64 8] W fun e w' => ∃ n : Nat, e = .returned (.int .i64 (n : Int)) ∧ (n : Int) < 8 ∧ w' = W) := fun W => picked_any A 8 W hf.num.1 hf.num.2 (by omega) (by omega)
  have PQ : Hid (∀ W, Calls Try.prog 6 #[.int .i64 A, .int .i64 1000] W fun e w' => ∃ n : Nat, e = .returned (.int .i64 (n : Int)) ∧ (n : Int) < 1000 ∧ w' = W) := fun W => picked_any A 1000 W hf.num.1 hf.num.2 (by omega) (by omega)
  have hdl := hf.data
  have SM : Hid (∀ W, SliceIs W (.slice da d.length dc) d → Calls Try.prog 7 #[.slice da d.length dc, .int .i64 80] W fun e w' => ∃ v', e = .returned v' ∧ Own W.heap.size w' v' (d.take 80) ∧ W.grownBy w' none) := fun W h => some_any W _ d 80 (by omega) h (by unfold maxLen; omega)
  have hs0 := hs
  clear hs hf hsz HU0 HW0 BU hgU hgA hX1 hW0
  go_enter Try.func4, Try.ntmps4
  go_upto_region 1 with fail
  rw [← HW.out, ← hR, ← hP]
  clear hR hP HW
  go_wp2_with fail
  refine PK.out.mono ?_
  rintro e w' ⟨n, rfl, hn, hw'⟩
  subst w'
  have e1 : IntKind.i64.wrap (1 + (n : Int)) = 1 + (n : Int) := by rw [IntKind.wrap_i64]; omega
  go_upto_region 2 with fail
  rw [← HX1.out n, ← hX]
  clear hX
  have hgx := hgX n
  have BXn : Hid ((X1 n).heap[X]? = some (.cells #[.int .i64 (1 + (n : Int)), .int .i64 0, .int .i64 0, .slice none 0 0] 26)) := BX n
  clear hgX BX HX1
  generalize X1 n = W1 at *
  have hgw1 := grown_trans hg0 hgx
  have P1 := pair_old hgx P0.out
  have R1 : Hid (W1.heap[R]? = some (.cells #[.int .i64 0, .int .i64 0, .int .i64 0, .slice none 0 0] 26)) := pair_old hgx R0.out
  have HD1 : Hid (SliceIs W1 (.slice da d.length dc) d) := HDS.out.grown hgx
  clear c0 c1 c2
  obtain ⟨c0, c1, c2⟩ := tri_roomK (grown_refl W1 none) P1
  obtain ⟨⟨x0, x1, x2, x3⟩, k0, k1, k2, k3, _⟩ := quad_room (grown_refl W1 none) BXn.out
  by_cases h0 : n = 0
  · subst h0
    go_upto_region 4 with fail
    go_wp2_with fail
    refine (PS.out _).mono ?_
    rintro e w' ⟨m, rfl, hm, hw'⟩
    subst w'
    obtain ⟨W2, hW2⟩ : ∃ W2 : World, W2 = W1.setCell ⟨X, 1, none⟩ (.int .i64 (m : Int)) := ⟨_, rfl⟩
    have HW2 : Hid (W2 = W1.setCell ⟨X, 1, none⟩ (.int .i64 (m : Int))) := hW2
    have B2 : Hid (W2.heap[X]? = some (.cells #[.int .i64 1, .int .i64 (m : Int), .int .i64 0, .slice none 0 0] 26)) := by show _ = _; rw [hW2]; exact (quad_oneK BXn.out _).1
    have P2 : W2.heap[P]? = some (.cells #[.int .i64 k, .int .i64 A, .slice da d.length dc] 24) := by rw [hW2]; exact set_elseK P1 hPR
    have R2 : Hid (W2.heap[R]? = some (.cells #[.int .i64 0, .int .i64 0, .int .i64 0, .slice none 0 0] 26)) := by show _ = _; rw [hW2]; exact set_elseK R1.out hRX
    have hgw2 : w.grownBy W2 none := by rw [hW2]; exact grown_setNew hgw1 _ HXw.out _ _
    have HD2 : Hid (SliceIs W2 (.slice da d.length dc) d) := hs0.grown hgw2
    go_upto_region 5 with fail
    rw [← HW2.out]
    clear c0 c1 c2 x0 x1 x2 x3 k0 k1 k2 k3 hW2 HW2
    obtain ⟨c0, c1, c2⟩ := tri_roomK (grown_refl W2 none) P2
    go_wp2_with fail
    refine (SM.out _ HD2.out).mono ?_
    rintro e w3 ⟨v3, rfl, ho3, hg3⟩
    have HOK := acOf_ok (k := 0) (s := m) (q := 0) (by omega) (by omega) (by omega) d
    rw [show acOf 0 m 0 d = ⟨1, (m : Int), 0, d.take 80⟩ by rfl] at HOK
    have HOK' : Hid (ActOK ⟨1, (m : Int), 0, d.take 80⟩ ∧ (⟨1, (m : Int), 0, d.take 80⟩ : Ac).data.length ≤ 80) := HOK
    generalize d.take 80 = D at *
    clear HOK
    have B3 : Hid (w3.heap[X]? = some (.cells #[.int .i64 1, .int .i64 (m : Int), .int .i64 0, .slice none 0 0] 26)) := pair_old hg3 B2.out
    have R3 : Hid (w3.heap[R]? = some (.cells #[.int .i64 0, .int .i64 0, .int .i64 0, .slice none 0 0] 26)) := pair_old hg3 R2.out
    obtain ⟨va, vc, rfl⟩ := ho3.shape
    obtain ⟨⟨x0, x1, x2, x3⟩, k0, k1, k2, k3, _⟩ := quad_room (grown_refl w3 none) B3.out
    obtain ⟨W4, hW4⟩ : ∃ W4 : World, W4 = w3.setCell ⟨X, 3, none⟩ (.slice va D.length vc) := ⟨_, rfl⟩
    have HW4 : Hid (W4 = w3.setCell ⟨X, 3, none⟩ (.slice va D.length vc)) := hW4
    have B4 : Hid (W4.heap[X]? = some (.cells #[.int .i64 1, .int .i64 (m : Int), .int .i64 0, .slice va D.length vc] 26)) := by show _ = _; rw [hW4]; exact (quad_oneK B3.out _).2.2
    have R4 : Hid (W4.heap[R]? = some (.cells #[.int .i64 0, .int .i64 0, .int .i64 0, .slice none 0 0] 26)) := by show _ = _; rw [hW4]; exact set_elseK R3.out hRX
    have hgw4 : w.grownBy W4 none := by rw [hW4]; exact grown_setNew (grown_trans hgw2 hg3) _ HXw.out _ _
    have HP4 : Hid (PartIs 0 W4 (.slice va D.length vc) D) := by
      show PartIs 0 W4 _ _
      rw [hW4]
      exact (ho3.part (base := 0)).keptT (grown_set (grown_refl w3 (some X)) 3 _) (.inr ⟨X, _, _, _, rfl, Nat.zero_le _, B3.out, acT5⟩)
    clear ho3 hW4
    go_upto_region 8 with fail
    rw [← HW4.out]
    clear c0 c1 c2 x0 x1 x2 x3 k0 k1 k2 k3 HW4
    obtain ⟨⟨x0, x1, x2, x3⟩, _⟩ := quad_room (grown_refl W4 none) B4.out
    have RX : Hid (W4.heap[R]? = some (.cells #[.int .i64 0, .int .i64 0, .int .i64 0, .slice none 0 0] 26)) := R4.out
    obtain ⟨⟨r0, r1, r2, r3⟩, s0, s1, s2, s3, _⟩ := quad_room (grown_refl W4 none) RX.out
    obtain ⟨_, q0, q1, q2, q3⟩ := quad_set RX.out (.int .i64 1) (.int .i64 (m : Int)) (.int .i64 0) (.slice va D.length vc)
    go_wp2
    obtain ⟨qb, _⟩ := quad_set RX.out (.int .i64 1) (.int .i64 (m : Int)) (.int .i64 0) (.slice va D.length vc)
    obtain ⟨⟨p0, p1, p2, p3⟩, _⟩ := quad_room (grown_refl _ none) qb
    have hgr := grown_set (grown_set (grown_set (grown_set (grown_refl W4 (some R)) 0 (.int .i64 1)) 1 (.int .i64 (m : Int))) 2 (.int .i64 0)) 3 (.slice va D.length vc)
    refine bodyPost_ret (v := .agg #[.int .i64 1, .int .i64 (m : Int), .int .i64 0, .slice va D.length vc]) (by simp [results, Try.results4, go_sem, p0, p1, p2, p3]) rfl ?_
    exact ⟨⟨1, (m : Int), 0, D⟩, _, rfl, HOK'.out.1, HOK'.out.2, HP4.out.keptT hgr (.inr ⟨R, _, _, _, rfl, Nat.zero_le _, RX.out, acT5⟩), grown_setNew (grown_setNew (grown_setNew (grown_setNew hgw4 _ HRw.out _ _) _ HRw.out _ _) _ HRw.out _ _) _ HRw.out _ _⟩
  by_cases h2 : n = 2
  · subst h2
    go_upto_region 7 with fail
    go_wp2_with fail
    refine (PQ.out _).mono ?_
    rintro e w' ⟨m, rfl, hm, hw'⟩
    subst w'
    obtain ⟨W2, hW2⟩ : ∃ W2 : World, W2 = W1.setCell ⟨X, 2, none⟩ (.int .i64 (m : Int)) := ⟨_, rfl⟩
    have HW2 : Hid (W2 = W1.setCell ⟨X, 2, none⟩ (.int .i64 (m : Int))) := hW2
    have B2 : Hid (W2.heap[X]? = some (.cells #[.int .i64 3, .int .i64 0, .int .i64 (m : Int), .slice none 0 0] 26)) := by show _ = _; rw [hW2]; exact (quad_oneK BXn.out _).2.1
    have R2 : Hid (W2.heap[R]? = some (.cells #[.int .i64 0, .int .i64 0, .int .i64 0, .slice none 0 0] 26)) := by show _ = _; rw [hW2]; exact set_elseK R1.out hRX
    have hgw2 : w.grownBy W2 none := by rw [hW2]; exact grown_setNew hgw1 _ HXw.out _ _
    have HOK := acOf_ok (k := 2) (s := 0) (q := m) (by omega) (by omega) (by omega) d
    rw [show acOf 2 0 m d = ⟨3, 0, (m : Int), []⟩ by rfl] at HOK
    have HOK' : Hid (ActOK ⟨3, 0, (m : Int), []⟩ ∧ (⟨3, 0, (m : Int), []⟩ : Ac).data.length ≤ 80) := HOK
    have HP2 : Hid (PartIs 0 W2 (.slice none 0 0) []) := (own_nil 0 W2).part
    clear HOK hW2
    go_upto_region 8 with fail
    rw [← HW2.out]
    clear c0 c1 c2 x0 x1 x2 x3 k0 k1 k2 k3 HW2
    obtain ⟨⟨x0, x1, x2, x3⟩, _⟩ := quad_room (grown_refl W2 none) B2.out
    have RX : Hid (W2.heap[R]? = some (.cells #[.int .i64 0, .int .i64 0, .int .i64 0, .slice none 0 0] 26)) := R2.out
    obtain ⟨⟨r0, r1, r2, r3⟩, s0, s1, s2, s3, _⟩ := quad_room (grown_refl W2 none) RX.out
    obtain ⟨_, q0, q1, q2, q3⟩ := quad_set RX.out (.int .i64 3) (.int .i64 0) (.int .i64 (m : Int)) (.slice none 0 0)
    go_wp2
    obtain ⟨qb, _⟩ := quad_set RX.out (.int .i64 3) (.int .i64 0) (.int .i64 (m : Int)) (.slice none 0 0)
    obtain ⟨⟨p0, p1, p2, p3⟩, _⟩ := quad_room (grown_refl _ none) qb
    have hgr := grown_set (grown_set (grown_set (grown_set (grown_refl W2 (some R)) 0 (.int .i64 3)) 1 (.int .i64 0)) 2 (.int .i64 (m : Int))) 3 (.slice none 0 0)
    refine bodyPost_ret (v := .agg #[.int .i64 3, .int .i64 0, .int .i64 (m : Int), .slice none 0 0]) (by simp [results, Try.results4, go_sem, p0, p1, p2, p3]) rfl ?_
    exact ⟨⟨3, 0, (m : Int), []⟩, _, rfl, HOK'.out.1, HOK'.out.2, HP2.out.keptT hgr (.inr ⟨R, _, _, _, rfl, Nat.zero_le _, RX.out, acT5⟩), grown_setNew (grown_setNew (grown_setNew (grown_setNew hgw2 _ HRw.out _ _) _ HRw.out _ _) _ HRw.out _ _) _ HRw.out _ _⟩
  · have f1 : ¬ (1 + (n : Int) = 1) := by omega
    have f2 : ¬ (1 + (n : Int) = 3) := by omega
    have f1' : ¬ (n : Int) = 0 := by omega
    have HOK := acOf_ok (k := n) (s := 0) (q := 0) (by omega) (by omega) (by omega) d
    rw [show acOf n 0 0 d = ⟨1 + (n : Int), 0, 0, []⟩ by rw [acOf, if_neg h0, if_neg h2, Int.add_comm]] at HOK
    have HOK' : Hid (ActOK ⟨1 + (n : Int), 0, 0, []⟩ ∧ (⟨1 + (n : Int), 0, 0, []⟩ : Ac).data.length ≤ 80) := HOK
    have HP1 : Hid (PartIs 0 W1 (.slice none 0 0) []) := (own_nil 0 W1).part
    clear HOK
    have RX : Hid (W1.heap[R]? = some (.cells #[.int .i64 0, .int .i64 0, .int .i64 0, .slice none 0 0] 26)) := R1.out
    obtain ⟨⟨r0, r1, r2, r3⟩, s0, s1, s2, s3, _⟩ := quad_room (grown_refl W1 none) RX.out
    obtain ⟨_, q0, q1, q2, q3⟩ := quad_set RX.out (.int .i64 (1 + (n : Int))) (.int .i64 0) (.int .i64 0) (.slice none 0 0)
    go_wp2
    obtain ⟨qb, _⟩ := quad_set RX.out (.int .i64 (1 + (n : Int))) (.int .i64 0) (.int .i64 0) (.slice none 0 0)
    obtain ⟨⟨p0, p1, p2, p3⟩, _⟩ := quad_room (grown_refl _ none) qb
    have hgr := grown_set (grown_set (grown_set (grown_set (grown_refl W1 (some R)) 0 (.int .i64 (1 + (n : Int)))) 1 (.int .i64 0)) 2 (.int .i64 0)) 3 (.slice none 0 0)
    refine bodyPost_ret (v := .agg #[.int .i64 (1 + (n : Int)), .int .i64 0, .int .i64 0, .slice none 0 0]) (by simp [results, Try.results4, go_sem, p0, p1, p2, p3]) rfl ?_
    exact ⟨⟨1 + (n : Int), 0, 0, []⟩, _, rfl, HOK'.out.1, HOK'.out.2, HP1.out.keptT hgr (.inr ⟨R, _, _, _, rfl, Nat.zero_le _, RX.out, acT5⟩), grown_setNew (grown_setNew (grown_setNew (grown_setNew hgw1 _ HRw.out _ _) _ HRw.out _ _) _ HRw.out _ _) _ HRw.out _ _⟩
end Go.Proofs.Ytpefggkhjocanab
