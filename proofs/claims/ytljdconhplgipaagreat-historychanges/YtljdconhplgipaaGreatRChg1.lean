/-
  The document's answers: placedBefore, keyIn, changeless.
-/
import Derived.Test.YtljdconhplgipaaGreatPart18
import Derived.Test.YtljdconhplgipaaGreatPart17
import Derived.Test.YtljdconhplgipaaGreatWrMem
import Derived.Test.YtljdconhplgipaaGreatPart4
import Derived.Test.YtljdconhplgipaaGreatPart22
namespace Go.Proofs.YtljdconhplgipaaGreat
open Go.RowKit
theorem get_noneH : ∀ {l : PL} {k : List UInt8}, (∀ j, j < l.length → (l.getD j ([], [])).1 ≠ k) → getF l k = none
  | [], _, _ => rfl
  | p :: l, k, h => by
    have h0 := h 0 (by simp)
    rw [get_cons, if_neg (by simpa using h0)]
    exact get_noneH fun j hj => by
      have := h (j + 1) (by simp; omega)
      simpa using this
theorem get_atH : ∀ {l : PL} {k : List UInt8} (m : Nat) (_ : m < l.length) (_ : ∀ j, j < m → (l.getD j ([], [])).1 ≠ k) (_ : (l.getD m ([], [])).1 = k), getF l k = some (l.getD m ([], [])).2
  | [], _, m, hm, _, _ => by simp at hm
  | p :: l, k, 0, _, _, he => by rw [get_cons, if_pos (by simpa using he)]; rfl
  | p :: l, k, m + 1, hm, hn, he => by
    have h0 := hn 0 (by omega)
    rw [get_cons, if_neg (by simpa using h0)]
    have := get_atH (l := l) m (by simpa using hm) (fun j hj => by have := hn (j + 1) (by omega); simpa using this) (by simpa using he)
    simpa using this
set_option maxRecDepth 100000 in
set_option maxHeartbeats 1000000 in
theorem placedBefore_any (w : World) (v u : Value) (a b : Plc) (hv : WriteIs w v a) (hu : WriteIs w u b) :
    Calls Tryz.prog 37 #[v, u] w fun e w' => e = .returned (.bool (plt a b)) ∧ w.grownBy w' none := by
  obtain ⟨vn, vk, vv, rfl, s1, s2, s3⟩ := hv
  obtain ⟨un, uk, uv, rfl, r1, r2, r3⟩ := hu
  obtain ⟨U0, HU0, hgU, BU⟩ := alloc_named4 w (.cells #[vn, vk, .bool a.gone, vv] 40)
  obtain ⟨W0, HW0, hgA, B0⟩ := alloc_named4 U0 (.cells #[un, uk, .bool b.gone, uv] 40)
  have HW : Hid (W0 = (w.alloc (.cells #[vn, vk, .bool a.gone, vv] 40)).alloc (.cells #[un, uk, .bool b.gone, uv] 40)) := by show _ = _; rw [HW0.out, HU0.out]
  have hsz : U0.heap.size = w.heap.size + 1 := by rw [HU0.out]; simp
  rw [hsz] at B0
  clear hsz
  have hg0 := grown_trans hgU hgA
  obtain ⟨⟨c0, c1, c2, c3⟩, _⟩ := quad_room (grown_refl W0 none) (pair_old hgA BU.out)
  obtain ⟨⟨d0, d1, d2, d3⟩, _⟩ := quad_room (grown_refl W0 none) B0.out
  have BN : Hid (Calls Tryz.prog 52 #[vn, un] W0 fun e w' => e = .returned (.bool (klt a.name b.name)) ∧ w' = W0) := before_any W0 _ _ _ _ (s1.grown hg0) (r1.grown hg0)
  have SN : Hid (Calls Tryz.prog 36 #[vn, un] W0 fun e w' => e = .returned (.bool (decide (a.name = b.name))) ∧ w' = W0) := rsame_any W0 _ _ _ _ (s1.grown hg0) (r1.grown hg0)
  have BK : Hid (Calls Tryz.prog 52 #[vk, uk] W0 fun e w' => e = .returned (.bool (klt a.key b.key)) ∧ w' = W0) := before_any W0 _ _ _ _ (s2.grown hg0) (r2.grown hg0)
  obtain ⟨Z, hZ⟩ : ∃ Z, Z = plt a b := ⟨_, rfl⟩
  have HZ : Hid (Z = (klt a.name b.name || (decide (a.name = b.name) && klt a.key b.key))) := hZ
  rw [← hZ]
  obtain ⟨na, nc, rfl⟩ := s1.shape
  obtain ⟨ka, kc, rfl⟩ := s2.shape
  obtain ⟨va, vc, rfl⟩ := s3.shape
  obtain ⟨ma, mc, rfl⟩ := r1.shape
  obtain ⟨la, lc, rfl⟩ := r2.shape
  obtain ⟨ua, uc, rfl⟩ := r3.shape
  generalize klt a.name b.name = K1 at *
  generalize decide (a.name = b.name) = K2 at *
  generalize klt a.key b.key = K3 at *
  clear s1 s2 s3 r1 r2 r3 hZ
  cases K1 with
  | true =>
    have HZ2 : Hid (Z = true) := HZ.out
    go_enter Tryz.func37, Tryz.ntmps37
    go_upto_region 1 with fail
    rw [← HW.out]
    go_wp2_with fail
    refine BN.out.mono ?_
    rintro e w1 ⟨rfl, rfl⟩
    go_wp2
    go_ret
    exact ⟨ret_bool HZ2.out, hg0⟩
  | false =>
    cases K2 with
    | false =>
      have HZ2 : Hid (Z = false) := HZ.out
      go_enter Tryz.func37, Tryz.ntmps37
      go_upto_region 1 with fail
      rw [← HW.out]
      go_wp2_with fail
      refine BN.out.mono ?_
      rintro e w1 ⟨rfl, rfl⟩
      go_wp2_with fail
      refine SN.out.mono ?_
      rintro e w2 ⟨rfl, rfl⟩
      go_wp2
      go_ret
      exact ⟨ret_bool HZ2.out, hg0⟩
    | true =>
      have HZ2 : Hid (Z = K3) := HZ.out
      go_enter Tryz.func37, Tryz.ntmps37
      go_upto_region 1 with fail
      rw [← HW.out]
      go_wp2_with fail
      refine BN.out.mono ?_
      rintro e w1 ⟨rfl, rfl⟩
      go_wp2_with fail
      refine SN.out.mono ?_
      rintro e w2 ⟨rfl, rfl⟩
      go_wp2_with fail
      refine BK.out.mono ?_
      rintro e w3 ⟨rfl, rfl⟩
      go_wp2
      go_ret
      exact ⟨ret_bool HZ2.out, hg0⟩
set_option maxRecDepth 100000 in
set_option maxHeartbeats 1000000 in
theorem keyIn_any (w : World) (v u t : Value) (f : FL) (n k : List UInt8) (hv : TensIs w v f) (hu : SliceIs w u n) (ht : SliceIs w t k) (hf : f.length ≤ 8) (hl : (ofF f n).length ≤ 1000000) :
    Calls Tryz.prog 18 #[v, u, t] w fun e w' => e = .returned (.bool (getF (ofF f n) k).isSome) ∧ w' = w := by
  have PO : Hid (Calls Tryz.prog 35 #[v, u] w fun e w' => ∃ x, e = .returned x ∧ PairsIs w x (ofF f n) ∧ w' = w) := pairsOf_any w v u f n hv hu hf
  obtain ⟨fa, fc, rfl⟩ := hv.shape
  obtain ⟨na, nc, rfl⟩ := hu.shape
  obtain ⟨ka, kc, rfl⟩ := ht.shape
  have HT : Hid (SliceIs w (.slice ka k.length kc) k) := ht
  have HNO : Hid ((∀ j, j < (ofF f n).length → ((ofF f n).getD j ([], [])).1 ≠ k) → getF (ofF f n) k = none) := get_noneH
  have HAT : Hid (∀ m, m < (ofF f n).length → (∀ j, j < m → ((ofF f n).getD j ([], [])).1 ≠ k) → ((ofF f n).getD m ([], [])).1 = k → getF (ofF f n) k = some ((ofF f n).getD m ([], [])).2) := fun m h1 h2 h3 => get_atH m h1 h2 h3
  generalize hG : getF (ofF f n) k = G at *
  generalize ofF f n = L at *
  clear hv hu ht hG
  go_enter Tryz.func18, Tryz.ntmps18
  go_wp2_with fail
  refine PO.out.mono ?_
  rintro e w1 ⟨x, rfl, hx, rfl⟩
  obtain ⟨xa, xc, rfl⟩ := hx.shape
  have HX : Hid (PairsIs w1 (.slice xa L.length xc) L) := hx
  clear hx
  go_wp2_with fail
  go_loopw [8] (fun i wr => ∃ m : Nat, m ≤ L.length ∧ i = .int .i64 (m : Int) ∧ (∀ j, j < m → (L.getD j ([], [])).1 ≠ k) ∧ wr = w1) (fun i _ => L.length - (intOf i).toNat)
  case atStart => exact ⟨0, by omega, rfl, fun j hj => by omega, rfl⟩
  case round =>
    obtain ⟨m, hm, rfl, hne, hw⟩ := hrel
    have hw := hw.symm
    subst hw
    have HN : Hid (∀ j, j < m → (L.getD j ([], [])).1 ≠ k) := hne
    clear hne
    by_cases hlt : m < L.length
    · have i1 : (m : Int) < (L.length : Int) := by omega
      obtain ⟨b, o, rfl, hat⟩ := HX.out.at m hlt
      obtain ⟨vk, vv, c1, c2, s1, _⟩ := hat
      have SB : Hid (Calls Tryz.prog 36 #[vk, .slice ka k.length kc] w1 fun e w' => e = .returned (.bool (decide ((L.getD m ([], [])).1 = k))) ∧ w' = w1) := rsame_any w1 _ _ _ _ s1 HT.out
      obtain ⟨qa, qc, rfl⟩ := s1.shape
      clear s1
      by_cases he : (L.getD m ([], [])).1 = k
      · have HG : Hid (G.isSome = true) := by show _ = _; rw [HAT.out m hlt HN.out he]; rfl
        rw [decide_eq_true he] at SB
        generalize (L.getD m ([], [])).1 = PK at *
        clear he
        go_wp2_with fail
        refine SB.out.mono ?_
        rintro e w2 ⟨rfl, rfl⟩
        go_wp2
        go_ret
        exact ⟨ret_bool HG.out, rfl⟩
      · have HNE : Hid (∀ j, j < m + 1 → (L.getD j ([], [])).1 ≠ k) := fun j hj => by
          by_cases hjm : j = m
          · subst hjm; exact he
          · exact HN.out j (by omega)
        rw [decide_eq_false he] at SB
        generalize (L.getD m ([], [])).1 = PK at *
        clear he
        go_wp2_with fail
        refine SB.out.mono ?_
        rintro e w2 ⟨rfl, rfl⟩
        go_wp2_with fail
        go_roundw
        case rel => exact ⟨m + 1, by omega, by go_num, HNE.out, by first | rfl | trivial⟩
        case measure => simp [intOf]; omega
    · obtain rfl : m = L.length := by omega
      have HG : Hid (G.isSome = false) := by show _ = _; rw [HNO.out HN.out]; rfl
      go_wp2
      go_ret
      exact ⟨ret_bool HG.out, rfl⟩
end Go.Proofs.YtljdconhplgipaaGreat
