/-
  The walk of canopykeep.find.
-/
import Derived.Test.YtdpoickggdgddabDoorPairMem
import Derived.Test.YtdpoickggdgddabDoorKSame
namespace Go.Proofs.YtdpoickggdgddabDoor
open Go.RowKit
set_option maxRecDepth 100000 in
set_option maxHeartbeats 1000000 in
theorem find_any (w : World) (v u : Value) (l : PL) (k : List UInt8) (hv : PairsIs w v l) (hu : SliceIs w u k) (hl : l.length ≤ 1000000) :
    Calls Tryd.prog 8 #[v, u] w fun e w' => ∃ i : Int, e = .returned (.tuple #[.int .i64 i, .bool (getF l k).isSome]) ∧ w.grownBy w' none := by
  obtain ⟨a, cap, rfl⟩ := hv.shape
  obtain ⟨ka, kcap, rfl⟩ := hu.shape
  go_enter Tryd.func8, Tryd.ntmps8
  go_wp2_with fail
  go_loopw [6] (fun i wr => ∃ m : Nat, m ≤ l.length ∧ i = .int .i64 (m : Int) ∧ w.grownBy wr none ∧ ∀ j, j < m → (l.getD j ([], [])).1 ≠ k) (fun i _ => l.length - (intOf i).toNat)
  case atStart => exact ⟨0, by omega, rfl, grown_refl _ _, fun j hj => by omega⟩
  case round =>
    obtain ⟨m, hm, rfl, hgr, hne⟩ := hrel
    have HN : Hid (∀ j, j < m → (l.getD j ([], [])).1 ≠ k) := hne
    clear hne
    by_cases hlt : m < l.length
    · obtain ⟨b, o, rfl, hat⟩ := hv.at m hlt
      obtain ⟨vk, vv, c1, c2, s1, s2⟩ := hat.grown hgr
      have HG : Hid ((l.getD m ([], [])).1 = k → getF l k = some (l.getD m ([], [])).2) := get_at l k m hlt HN.out
      generalize hP : l.getD m ([], []) = P at *
      have HPm : Hid (l.getD m ([], []) = P) := hP
      have SB : Hid (Calls Tryd.prog 12 #[vk, .slice ka k.length kcap] wr fun e w' => e = .returned (.bool (decide (P.1 = k))) ∧ w' = wr) := same_any wr _ _ _ _ s1 (hu.grown hgr)
      obtain ⟨pa, pc, rfl⟩ := s1.shape
      clear s1 s2 hat hP
      have i1 : (m : Int) < (l.length : Int) := by omega
      go_wp2_with fail
      refine SB.out.mono ?_
      rintro e w2 ⟨rfl, rfl⟩
      by_cases he : P.1 = k
      · rw [decide_eq_true he]
        have HF : Hid ((getF l k).isSome = true) := by show _ = _; rw [HG.out he]; rfl
        go_wp2
        go_ret2
        exact ⟨(m : Int), by rw [HF.out]; rfl, hgr⟩
      · rw [decide_eq_false he]
        have HE : Hid (P.1 ≠ k) := he
        clear he
        go_wp2_with fail
        go_roundw
        case rel =>
          have hs : ∀ j, j < m + 1 → (l.getD j ([], [])).1 ≠ k := fun j hj => by
            by_cases hjm : j = m
            · subst hjm; rw [HPm.out]; exact HE.out
            · exact HN.out j (by omega)
          first
            | exact ⟨m + 1, by omega, by go_num, hgr, hs⟩
            | ((repeat apply Exists.intro); refine ⟨⟨m + 1, by omega, ?_, hgr, hs⟩, rfl⟩; go_num)
        case measure => simp [intOf]; omega
    · obtain rfl : m = l.length := by omega
      have HF : Hid ((getF l k).isSome = false) := by show _ = _; rw [get_none l k HN.out]; rfl
      go_wp2
      go_ret2
      exact ⟨0, by rw [HF.out]; rfl, hgr⟩
end Go.Proofs.YtdpoickggdgddabDoor
