/-
  The walk of the document's answer to P2.3: partOf.
-/
import Derived.Test.YtdpoickggdgddaaDoorRKey
namespace Go.Proofs.YtdpoickggdgddaaDoor
open Go.RowKit
set_option maxRecDepth 100000 in
set_option maxHeartbeats 1000000 in
theorem partOf_any (w : World) (v u : Value) (a b : List UInt8) (hv : SliceIs w v a) (hu : SliceIs w u b) (ha : a.length ≤ 16) (hb : b.length ≤ 16) :
    Calls Tryd.prog 37 #[v, u] w fun e w' => e = .returned (.int .i64 (partK a b)) ∧ w.grownBy w' none := by
  go_enter Tryd.func37, Tryd.ntmps37
  go_wp2_with fail
  refine (allBits_any _ _ _ hv ha).mono ?_
  rintro e w1 ⟨v1, rfl, ho1, hg1⟩
  go_wp2_with fail
  refine (allBits_any _ _ _ (hu.grown hg1) hb).mono ?_
  rintro e w2 ⟨v2, rfl, ho2, hg2⟩
  obtain ⟨g1, cap1, rfl, hc1⟩ := (ho1.grownNone hg2).block (by intro e; have := bitsN_len a 145; rw [e] at this; simp at this)
  obtain ⟨g2, cap2, rfl, hc2⟩ := ho2.block (by intro e; have := bitsN_len b 145; rw [e] at this; simp at this)
  have hgw := grown_trans hg1 hg2
  clear ho1 ho2 hg1 hg2 hv hu
  rw [bitsN_len] at hc1 hc2 ⊢
  rw [bitsN_len]
  have HC1 : Hid (∀ i, i < 145 → w2.cell? ⟨g1, i, none⟩ = some (.bool (kbit a i))) := fun i hi => by rw [hc1 i hi, bitsN_get _ _ _ hi]
  have HC2 : Hid (∀ i, i < 145 → w2.cell? ⟨g2, i, none⟩ = some (.bool (kbit b i))) := fun i hi => by rw [hc2 i hi, bitsN_get _ _ _ hi]
  clear hc1 hc2
  go_wp2_with fail
  go_loopw [7] (fun iv wr => ∃ m : Nat, m ≤ 145 ∧ iv = .int .i64 (m : Int) ∧ w2.grownBy wr none ∧ ∀ j, j < m → kbit a j = kbit b j) (fun iv _ => 145 - (intOf iv).toNat)
  case atStart => exact ⟨0, by omega, rfl, grown_refl _ _, fun j hj => by omega⟩
  case round =>
    obtain ⟨m, hm, rfl, hgr, hsame⟩ := hrel
    have HSame : Hid (∀ j, j < m → kbit a j = kbit b j) := hsame
    have hgw2 := grown_trans hgw hgr
    clear hsame
    by_cases hlt : m < 145
    · have c1 := hgr.cell (HC1.out m hlt) (by simp)
      have c2 := hgr.cell (HC2.out m hlt) (by simp)
      have t1 : (m : Int) < 145 := by omega
      by_cases he : kbit a m = kbit b m
      · have HE : Hid (kbit a m = kbit b m) := he
        rw [he] at c1
        clear he
        generalize kbit b m = y at c1 c2
        go_wp2_with fail
        go_region
        all_goals go_wp2_with fail
        go_roundw
        case rel =>
          have hs : ∀ j, j < m + 1 → kbit a j = kbit b j := fun j hj => by
            by_cases hjm : j = m
            · subst hjm; exact HE.out
            · exact HSame.out j (by omega)
          first
            | exact ⟨m + 1, by omega, by go_num, grown_drew hgr, hs⟩
            | ((repeat apply Exists.intro); refine ⟨⟨m + 1, by omega, ?_, grown_drew hgr, hs⟩, rfl⟩; go_num)
        case measure => simp [intOf]; omega
      · have HP : Hid (partK a b = (m : Int)) := partK_of a b m hlt HSame.out he
        generalize kbit a m = x at *
        generalize kbit b m = y at *
        have he2 : (!x == y) = true := by cases x <;> cases y <;> simp_all
        clear he
        go_wp2_with fail
        go_region
        all_goals go_wp2
        go_ret
        exact ⟨by rw [HP.out]; rfl, grown_drew hgw2⟩
    · obtain rfl : m = 145 := by omega
      have HP : Hid (partK a b = -1) := partK_none a b HSame.out
      go_wp2
      go_ret
      exact ⟨by rw [HP.out]; rfl, hgw2⟩
end Go.Proofs.YtdpoickggdgddaaDoor
