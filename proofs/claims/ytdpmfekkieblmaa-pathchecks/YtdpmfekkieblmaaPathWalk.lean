/-
  The walks of the laws of P2, over the code's contracts: CheckOK, BitOK, PartOK.
-/
import Derived.Test.YtdpmfekkieblmaaRPath
import Derived.Test.YtdpmfekkieblmaaOctets
import Derived.Test.YtdpmfekkieblmaaCheckC
import Derived.Test.YtdpmfekkieblmaaBitC
import Derived.Test.YtdpmfekkieblmaaPartC
namespace Go.Proofs.Ytdpmfekkieblmaa
open Go.RowKit

theorem pathChecks_walk (hC : CheckOK) (w : World) (v : Value) (bs : List UInt8) (hv : SliceIs w v bs) (hl : bs.length ≤ 140737488355328) :
    Calls Try.prog 3 #[v] w fun e w' => e = .returned (.bool true) ∧ w.grownBy w' none := by
  have ho := octets_any w v bs hv hl
  obtain ⟨a, cap, rfl, hc, hrest⟩ := hv
  clear hrest
  go_enter Try.func3, Try.ntmps3
  go_wp2_with fail
  refine ho.mono ?_
  rintro e w1 ⟨v1, rfl, ho1, hg1⟩
  clear ho
  obtain ⟨a1, cap1, rfl⟩ := ho1.shape
  go_wp2_with fail
  refine (hC _ _ _ _).mono ?_
  rintro e w2 ⟨rfl, hg2⟩
  go_wp2_with fail
  refine (keyFault_any _ _ _ _).mono ?_
  rintro e w3 ⟨rfl, rfl⟩
  generalize keyFaultF bs.length = f
  go_wp2
  go_ret
  exact ⟨rfl, grown_trans hg1 hg2⟩
theorem pathBits_walk (hB : BitOK) (w : World) (v : Value) (bs : List UInt8) (i : Int) (hv : SliceIs w v bs) (hl : bs.length ≤ 140737488355328) :
    Calls Try.prog 4 #[v, .int .i64 i] w fun e w' => e = .returned (.bool true) ∧ w.grownBy w' none := by
  have ho := octets_any w v bs hv hl
  go_enter Try.func4, Try.ntmps4
  go_wp2_with fail
  refine ho.mono ?_
  rintro e w1 ⟨v1, rfl, ho1, hg1⟩
  clear ho
  go_wp2_with fail
  refine (hB w1 v1 bs i ho1.slice).mono ?_
  rintro e w2 ⟨rfl, hg2⟩
  have g2 := grown_trans hg1 hg2
  go_wp2_with fail
  refine (bitOf_any w2 v bs i (hv.grown g2)).mono ?_
  rintro e w3 ⟨rfl, hg3⟩
  have g3 := grown_trans g2 hg3
  clear ho1 hg1 hg2 hg3 g2 hv
  generalize (bitF bs i).1 = x
  generalize (bitF bs i).2 = y
  go_wp2
  go_ret
  exact ⟨rfl, g3⟩
theorem pathParts_walk (hP : PartOK) (w : World) (v u : Value) (a b : List UInt8) (hv : SliceIs w v a) (hu : SliceIs w u b) (hl : a.length ≤ 140737488355328) (hl2 : b.length ≤ 140737488355328) :
    Calls Try.prog 5 #[v, u] w fun e w' => e = .returned (.bool true) ∧ w.grownBy w' none := by
  have ho := octets_any w v a hv hl
  go_enter Try.func5, Try.ntmps5
  go_wp2_with fail
  refine ho.mono ?_
  rintro e w1 ⟨v1, rfl, ho1, hg1⟩
  clear ho
  go_wp2_with fail
  refine (octets_any w1 u b (hu.grown hg1) hl2).mono ?_
  rintro e w2 ⟨v2, rfl, ho2, hg2⟩
  have g2 := grown_trans hg1 hg2
  go_wp2_with fail
  refine (hP w2 v1 v2 a b (ho1.slice.grown hg2) ho2.slice).mono ?_
  rintro e w3 ⟨rfl, hg3⟩
  have g3 := grown_trans g2 hg3
  go_wp2_with fail
  refine (PartOf_any w3 v u a b (hv.grown g3) (hu.grown g3)).mono ?_
  rintro e w4 ⟨rfl, hg4⟩
  have g4 := grown_trans g3 hg4
  clear ho1 hg1 hg2 hg3 g2 hv ho2 hu g3 hg4
  generalize (partF a b).1 = x
  generalize (partF a b).2 = y
  go_wp2
  go_ret
  exact ⟨rfl, g4⟩
end Go.Proofs.Ytdpmfekkieblmaa
