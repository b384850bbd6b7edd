/-
  The walks of the document's answer to P2: BitOf, partOf, PartOf.
-/
import Derived.Test.YtdpmfekkieblmaaRKey
namespace Go.Proofs.Ytdpmfekkieblmaa
open Go.RowKit

set_option maxRecDepth 100000 in
set_option maxHeartbeats 1000000 in
theorem bitOf_any (w : World) (v : Value) (bs : List UInt8) (i : Int) (hv : SliceIs w v bs) :
    Calls Try.prog 13 #[v, .int .i64 i] w fun e w' => e = .returned (.tuple #[.bool (bitF bs i).1, .int .i64 (bitF bs i).2]) ∧ w.grownBy w' none := by
  obtain ⟨a, cap, rfl, hc, hrest⟩ := hv
  have hv : SliceIs w (.slice a bs.length cap) bs := ⟨a, cap, rfl, hc, hrest⟩
  clear hrest
  by_cases hk : 1 ≤ bs.length ∧ bs.length ≤ 16
  · by_cases hi : 0 ≤ i ∧ i ≤ 144
    · rw [bitF, if_pos hk, if_pos hi]
      obtain ⟨n, rfl⟩ : ∃ n : Nat, i = (n : Int) := ⟨i.toNat, by omega⟩
      have hn : n < 145 := by omega
      go_enter Try.func13, Try.ntmps13
      go_wp2_with fail
      refine (keyFault_any _ _ _ _).mono ?_
      rintro e w1 ⟨rfl, rfl⟩
      rw [keyFaultF, if_pos hk]
      go_wp2_with fail
      refine (in_any _ _ _ _).mono ?_
      rintro e w1 ⟨rfl, rfl⟩
      rw [decide_eq_true hi]
      go_wp2_with fail
      refine (allBits_any _ _ _ hv hk.2).mono ?_
      rintro e w1 ⟨v1, rfl, ho1, hg1⟩
      obtain ⟨g, bcap, rfl, hcell⟩ := ho1.block (by intro e; have := bitsN_len bs 145; rw [e] at this; simp at this)
      rw [bitsN_len] at hcell ⊢
      have c0 := hcell n hn
      rw [bitsN_get _ _ _ hn] at c0
      clear ho1 hcell
      have t1 : (n : Int) < 145 := by omega
      go_wp2
      go_ret2
      exact ⟨rfl, hg1⟩
    · rw [bitF, if_pos hk, if_neg hi]
      go_enter Try.func13, Try.ntmps13
      go_wp2_with fail
      refine (keyFault_any _ _ _ _).mono ?_
      rintro e w1 ⟨rfl, rfl⟩
      rw [keyFaultF, if_pos hk]
      go_wp2_with fail
      refine (in_any _ _ _ _).mono ?_
      rintro e w1 ⟨rfl, rfl⟩
      rw [decide_eq_false hi]
      go_wp2
      go_ret2
      exact ⟨rfl, grown_refl _ _⟩
  · rw [bitF, if_neg hk]
    go_enter Try.func13, Try.ntmps13
    go_wp2_with fail
    refine (keyFault_any _ _ _ _).mono ?_
    rintro e w1 ⟨rfl, rfl⟩
    rw [keyFaultF, if_neg hk]
    go_wp2
    go_ret2
    exact ⟨rfl, grown_refl _ _⟩
set_option maxRecDepth 100000 in
set_option maxHeartbeats 1000000 in
theorem partOf_any (w : World) (v u : Value) (a b : List UInt8) (hv : SliceIs w v a) (hu : SliceIs w u b) (ha : a.length ≤ 16) (hb : b.length ≤ 16) :
    Calls Try.prog 22 #[v, u] w fun e w' => e = .returned (.int .i64 (partK a b)) ∧ w.grownBy w' none := by
  go_enter Try.func22, Try.ntmps22
  go_wp2_with fail
  refine (allBits_any _ _ _ hv ha).mono ?_
  rintro e w1 ⟨v1, rfl, ho1, hg1⟩
  go_wp2_with fail
  refine (allBits_any _ _ _ (hu.grown hg1) hb).mono ?_
  rintro e w2 ⟨v2, rfl, ho2, hg2⟩
  obtain ⟨g1, cap1, rfl, hc1⟩ := (ho1.grownNone hg2).block (by intro e; have := bitsN_len a 145; rw [e] at this; simp at this)
  obtain ⟨g2, cap2, rfl, hc2⟩ := ho2.block (by intro e; have := bitsN_len b 145; rw [e] at this; simp at this)
  have hgw := grown_trans hg1 hg2
  clear ho1 ho2 hg1 hg2 hv hu
  rw [bitsN_len] at hc1 hc2 ⊢
  rw [bitsN_len]
  have HC1 : Hid (∀ i, i < 145 → w2.cell? ⟨g1, i, none⟩ = some (.bool (kbit a i))) := fun i hi => by rw [hc1 i hi, bitsN_get _ _ _ hi]
  have HC2 : Hid (∀ i, i < 145 → w2.cell? ⟨g2, i, none⟩ = some (.bool (kbit b i))) := fun i hi => by rw [hc2 i hi, bitsN_get _ _ _ hi]
  clear hc1 hc2
  go_wp2_with fail
  go_loopw [7] (fun iv wr => ∃ m : Nat, m ≤ 145 ∧ iv = .int .i64 (m : Int) ∧ w2.grownBy wr none ∧ ∀ j, j < m → kbit a j = kbit b j) (fun iv _ => 145 - (intOf iv).toNat)
  case atStart => exact ⟨0, by omega, rfl, grown_refl _ _, fun j hj => by omega⟩
  case round =>
    obtain ⟨m, hm, rfl, hgr, hsame⟩ := hrel
    have HSame : Hid (∀ j, j < m → kbit a j = kbit b j) := hsame
    have hgw2 := grown_trans hgw hgr
    clear hsame
    by_cases hlt : m < 145
    · have c1 := hgr.cell (HC1.out m hlt) (by simp)
      have c2 := hgr.cell (HC2.out m hlt) (by simp)
      have t1 : (m : Int) < 145 := by omega
      by_cases he : kbit a m = kbit b m
      · have HE : Hid (kbit a m = kbit b m) := he
        rw [he] at c1
        clear he
        generalize kbit b m = y at c1 c2
        go_wp2_with fail
        go_region
        all_goals go_wp2_with fail
        go_roundw
        case rel =>
          have hs : ∀ j, j < m + 1 → kbit a j = kbit b j := fun j hj => by
            by_cases hjm : j = m
            · subst hjm; exact HE.out
            · exact HSame.out j (by omega)
          first
            | exact ⟨m + 1, by omega, by go_num, grown_drew hgr, hs⟩
            | ((repeat apply Exists.intro); refine ⟨⟨m + 1, by omega, ?_, grown_drew hgr, hs⟩, rfl⟩; go_num)
        case measure => simp [intOf]; omega
      · have HP : Hid (partK a b = (m : Int)) := partK_of a b m hlt HSame.out he
        generalize kbit a m = x at *
        generalize kbit b m = y at *
        have he2 : (!x == y) = true := by cases x <;> cases y <;> simp_all
        clear he
        go_wp2_with fail
        go_region
        all_goals go_wp2
        go_ret
        exact ⟨by rw [HP.out]; rfl, grown_drew hgw2⟩
    · obtain rfl : m = 145 := by omega
      have HP : Hid (partK a b = -1) := partK_none a b HSame.out
      go_wp2
      go_ret
      exact ⟨by rw [HP.out]; rfl, hgw2⟩
theorem PartOf_any (w : World) (v u : Value) (a b : List UInt8) (hv : SliceIs w v a) (hu : SliceIs w u b) :
    Calls Try.prog 15 #[v, u] w fun e w' => e = .returned (.tuple #[.int .i64 (partF a b).1, .int .i64 (partF a b).2]) ∧ w.grownBy w' none := by
  obtain ⟨va, vcap, rfl, hvc, hvr⟩ := hv
  have hv : SliceIs w (.slice va a.length vcap) a := ⟨va, vcap, rfl, hvc, hvr⟩
  obtain ⟨ua, ucap, rfl, huc, hur⟩ := hu
  have hu : SliceIs w (.slice ua b.length ucap) b := ⟨ua, ucap, rfl, huc, hur⟩
  clear hvr hur
  by_cases ha : 1 ≤ a.length ∧ a.length ≤ 16
  · by_cases hb : 1 ≤ b.length ∧ b.length ≤ 16
    · rw [partF, if_pos ha, if_pos hb]
      go_enter Try.func15, Try.ntmps15
      go_wp2_with fail
      refine (keyFault_any _ _ _ _).mono ?_
      rintro e w1 ⟨rfl, rfl⟩
      rw [keyFaultF, if_pos ha]
      go_wp2_with fail
      refine (keyFault_any _ _ _ _).mono ?_
      rintro e w1 ⟨rfl, rfl⟩
      rw [keyFaultF, if_pos hb]
      go_wp2_with fail
      refine (partOf_any _ _ _ _ _ hv hu ha.2 hb.2).mono ?_
      rintro e w1 ⟨rfl, hg1⟩
      go_wp2
      go_ret2
      exact ⟨rfl, hg1⟩
    · rw [partF, if_pos ha, if_neg hb]
      go_enter Try.func15, Try.ntmps15
      go_wp2_with fail
      refine (keyFault_any _ _ _ _).mono ?_
      rintro e w1 ⟨rfl, rfl⟩
      rw [keyFaultF, if_pos ha]
      go_wp2_with fail
      refine (keyFault_any _ _ _ _).mono ?_
      rintro e w1 ⟨rfl, rfl⟩
      rw [keyFaultF, if_neg hb]
      go_wp2
      go_ret2
      exact ⟨rfl, grown_refl _ _⟩
  · rw [partF, if_neg ha]
    go_enter Try.func15, Try.ntmps15
    go_wp2_with fail
    refine (keyFault_any _ _ _ _).mono ?_
    rintro e w1 ⟨rfl, rfl⟩
    rw [keyFaultF, if_neg ha]
    go_wp2
    go_ret2
    exact ⟨rfl, grown_refl _ _⟩
end Go.Proofs.Ytdpmfekkieblmaa
