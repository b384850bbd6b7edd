/-
  The walk of canopykeep.KnownSums.
-/
import Derived.Test.YtpkegibjoieemaaDoorKnown
import Derived.Test.YtpkegibjoieemaaDoorSame
import Derived.Lib.SlBytesConst
namespace Go.Proofs.YtpkegibjoieemaaDoor
open Go.RowKit
theorem marked_slice (w : World) (t : TypeId) (fr : Nat × Nat) (bs : List UInt8) : SliceIs (w.alloc (.cells (bytesOf bs) t fr)) (.slice (some ⟨w.heap.size, 0, none⟩) bs.length bs.length) bs := by
  refine ⟨_, bs.length, rfl, Nat.le_refl _, .inr ⟨w.heap.size, 0, rfl, fun i hi => ?_⟩⟩
  unfold World.cell?
  rw [show (w.alloc (.cells (bytesOf bs) t fr)).heap[(⟨w.heap.size, 0 + i, none⟩ : Addr).block]? = some (.cells (bytesOf bs) t fr) from heap_alloc_new w _]
  simp [bytesOf, hi]
set_option maxRecDepth 100000 in
set_option maxHeartbeats 1000000 in
theorem knownSums_walk (w : World) (ht : Tabs w) :
    Calls Tryd.prog 5 #[] w fun e w' => e = .returned (.bool true) ∧ w.grownBy w' none := by
  have hcv := fun (w : World) (C : Array Value) (n c : Nat) => Lib.run_convert_bytes_const (P := Tryd.prog) w 22 5 C n c Tryd.underlying22 Tryd.underlying5
  go_enter Tryd.func5, Tryd.ntmps5
  go_wp2_with fail
  refine (sum_any w _ [] (sliceIs_nil w) (by simp) ht).mono ?_
  rintro e w1 ⟨na, hna, rfl, hb1, hg1⟩
  rw [knownA] at hb1
  go_wp2_with fail
  have hs : SliceIs (w1.alloc (.cells #[Value.int IntKind.u8 97, Value.int IntKind.u8 98, Value.int IntKind.u8 99] 5 (3, 4))) (.slice (some ⟨w1.heap.size, 0, none⟩) 3 3) [97, 98, 99] := marked_slice w1 5 (3, 4) [97, 98, 99]
  have hg2 := grown_alloc hg1 (.cells #[Value.int IntKind.u8 97, Value.int IntKind.u8 98, Value.int IntKind.u8 99] 5 (3, 4))
  refine (sum_any _ _ _ hs (by simp) (ht.grownNone hg2)).mono ?_
  rintro e w3 ⟨nc, hnc, rfl, hb3, hg3⟩
  rw [knownB] at hb3
  have hbA := (hb1.alloc (.cells #[Value.int IntKind.u8 97, Value.int IntKind.u8 98, Value.int IntKind.u8 99] 5 (3, 4))).grown hg3 (by simp)
  have g3 := grown_trans hg2 hg3
  clear hs hg2 hg3 hb1 hg1 hcv ht hna hnc
  have HA : Hid (Bytes w3 na (hexTo textA 32)) := hbA
  have HB : Hid (Bytes w3 nc (hexTo textB 32)) := hb3
  clear hbA hb3
  go_wp2_with fail
  show Calls Tryd.prog 16 #[.string textA] _ _
  refine (hex_any _ textA 32 sizeA (by omega) digitsA).mono ?_
  rintro e w4 ⟨v4, rfl, ho4, g4⟩
  go_wp2_with fail
  refine (same_any _ _ _ _ _ ((HA.out.grown g4 (by simp)).slice32 (hexTo_len _ _)) ho4.slice).mono ?_
  rintro e w5 ⟨rfl, rfl⟩
  rw [decide_eq_true (rfl : hexTo textA 32 = hexTo textA 32)]
  clear ho4
  go_wp2_with fail
  show Calls Tryd.prog 16 #[.string textB] _ _
  refine (hex_any _ textB 32 sizeB (by omega) digitsB).mono ?_
  rintro e w6 ⟨v6, rfl, ho6, g6⟩
  have g46 := grown_trans g4 g6
  go_wp2_with fail
  refine (same_any _ _ _ _ _ ((HB.out.grown g46 (by simp)).slice32 (hexTo_len _ _)) ho6.slice).mono ?_
  rintro e w7 ⟨rfl, rfl⟩
  rw [decide_eq_true (rfl : hexTo textB 32 = hexTo textB 32)]
  clear ho6
  go_wp2
  go_ret
  exact ⟨rfl, grown_trans g3 g46⟩
end Go.Proofs.YtpkegibjoieemaaDoor
