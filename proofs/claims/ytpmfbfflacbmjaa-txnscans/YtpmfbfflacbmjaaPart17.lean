/-
  Texts of this proof, joined: RSameB, RPsOf, RForN.
-/
import Derived.Test.YtpmfbfflacbmjaaBase
import Derived.Test.YtpmfbfflacbmjaaPart4
import Derived.Test.YtpmfbfflacbmjaaPart16
import Derived.Test.YtpmfbfflacbmjaaPart1
/-
  The walk of the document's answer: sameBytes.
-/
namespace Go.Proofs.Ytpmfbfflacbmjaa
open Go.RowKit
theorem rsame_any (w : World) (v1 v2 : Value) (b1 b2 : List UInt8) (h1 : SliceIs w v1 b1) (h2 : SliceIs w v2 b2) :
    Calls Try.prog 55 #[v1, v2] w fun e w' => e = .returned (.bool (decide (b1 = b2))) ∧ w' = w := by
  have c1 := conv_bytes w v1 b1 h1
  have c2 := conv_bytes w v2 b2 h2
  go_enter Try.func55, Try.ntmps55
  go_wp2
  go_ret
  refine ⟨?_, rfl⟩
  have e : ((textOf b1).toList == (textOf b2).toList) = decide (b1 = b2) := by rw [textOf_list, textOf_list]; by_cases h : b1 = b2 <;> simp [h]
  rw [← e]
  rfl
end Go.Proofs.Ytpmfbfflacbmjaa

/-
  The walk of the document's answer to P5: pairsOf.
-/
namespace Go.Proofs.Ytpmfbfflacbmjaa
open Go.RowKit
set_option maxRecDepth 100000 in
set_option maxHeartbeats 1000000 in
theorem pairsOf_any (w : World) (v u : Value) (l : FL) (k : List UInt8) (hv : TensIs w v l) (hu : SliceIs w u k) (hl : l.length ≤ 8) :
    Calls Try.prog 87 #[v, u] w fun e w' => ∃ x, e = .returned x ∧ PairsIs w x (ofF l k) ∧ w' = w := by
  obtain ⟨a, cap, rfl⟩ := hv.shape
  obtain ⟨ka, kcap, rfl⟩ := hu.shape
  have HU : Hid (SliceIs w (.slice ka k.length kcap) k) := hu
  clear hu
  go_enter Try.func87, Try.ntmps87
  go_wp2_with fail
  go_loopw [5] (fun i wr => ∃ m : Nat, m ≤ l.length ∧ i = .int .i64 (m : Int) ∧ wr = w ∧ ∀ j, j < m → (l.getD j ([], [])).1 ≠ k) (fun i _ => l.length - (intOf i).toNat)
  case atStart => exact ⟨0, by omega, rfl, rfl, fun j hj => by omega⟩
  case round =>
    obtain ⟨m, hm, rfl, rfl, hne⟩ := hrel
    have HN : Hid (∀ j, j < m → (l.getD j ([], [])).1 ≠ k) := hne
    clear hne
    by_cases hlt : m < l.length
    · obtain ⟨b, o, rfl, hat⟩ := hv.at m hlt
      obtain ⟨vk, vv, c1, c2, s1, s2⟩ := hat
      have HG : Hid ((l.getD m ([], [])).1 = k → ofF l k = (l.getD m ([], [])).2) := fun e => by
        unfold ofF
        rw [t_get_at l k m hlt HN.out e]
        rfl
      generalize hP : l.getD m ([], []) = P at *
      have HPm : Hid (l.getD m ([], []) = P) := hP
      have SB : Hid (Calls Try.prog 55 #[vk, .slice ka k.length kcap] wr fun e w' => e = .returned (.bool (decide (P.1 = k))) ∧ w' = wr) := rsame_any wr _ _ _ _ s1 HU.out
      have S2 : Hid (PairsIs wr vv P.2) := s2
      obtain ⟨va, vc, rfl⟩ := s2.shape
      clear s1 s2 hP
      have i1 : (m : Int) < (l.length : Int) := by omega
      go_wp2_with fail
      refine SB.out.mono ?_
      rintro e w2 ⟨rfl, rfl⟩
      by_cases he : P.1 = k
      · rw [decide_eq_true he]
        have HF : Hid (ofF l k = P.2) := HG.out he
        go_wp2
        go_ret
        exact ⟨_, rfl, by rw [HF.out]; exact S2.out, rfl⟩
      · rw [decide_eq_false he]
        have HE : Hid (P.1 ≠ k) := he
        clear he
        go_wp2_with fail
        go_roundw
        case rel =>
          have hs : ∀ j, j < m + 1 → (l.getD j ([], [])).1 ≠ k := fun j hj => by
            by_cases hjm : j = m
            · subst hjm; rw [HPm.out]; exact HE.out
            · exact HN.out j (by omega)
          exact ⟨m + 1, by omega, by go_num, by trivial, hs⟩
        case measure => simp [intOf]; omega
    · obtain rfl : m = l.length := by omega
      have HF : Hid (ofF l k = []) := by
        show _ = _
        unfold ofF
        rw [t_get_none l k HN.out]; rfl
      go_wp2
      go_ret
      exact ⟨_, rfl, by rw [HF.out]; exact pairsIs_nil _, rfl⟩
end Go.Proofs.Ytpmfbfflacbmjaa

/-
  The walks of the document's answer to P5: forestAndName.
-/
namespace Go.Proofs.Ytpmfbfflacbmjaa
open Go.RowKit
set_option maxRecDepth 100000 in
set_option maxHeartbeats 1000000 in
theorem forestAndName_any (w : World) (v : Value) (l : FL) (a : Option Addr) (k : List UInt8) (cap : Nat) (hv : TensIs w v l) :
    Calls Try.prog 86 #[v, .slice a k.length cap] w fun e w' => e = .returned (.int .i64 (fnE l k)) ∧ w.grownBy w' none := by
  have FF : Hid (Calls Try.prog 85 #[v] w fun e w' => e = .returned (.int .i64 (forestE l)) ∧ w.grownBy w' none) := forestFault_any w v l hv
  by_cases h : forestE l = 0
  · rw [fnE, if_pos h]
    rw [h] at FF
    generalize k.length = n at *
    clear hv h
    go_enter Try.func86, Try.ntmps86
    go_wp2_with fail
    refine FF.out.mono ?_
    rintro e w1 ⟨rfl, hg1⟩
    go_wp2_with fail
    refine (nameFault_any _ _ _ _).mono ?_
    rintro e w2 ⟨rfl, rfl⟩
    go_wp2
    go_ret
    exact ⟨rfl, hg1⟩
  · rw [fnE, if_neg h]
    generalize forestE l = z at *
    have hz : (z == 0) = false := by simpa using h
    clear hv
    go_enter Try.func86, Try.ntmps86
    go_wp2_with fail
    refine FF.out.mono ?_
    rintro e w1 ⟨rfl, hg1⟩
    go_wp2
    go_ret
    exact ⟨rfl, hg1⟩
end Go.Proofs.Ytpmfbfflacbmjaa
