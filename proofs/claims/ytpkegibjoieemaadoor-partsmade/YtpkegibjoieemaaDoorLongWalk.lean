/-
  The walk of canopykeep.PartsLong.
-/
import Derived.Test.YtpkegibjoieemaaDoorParts
import Derived.Test.YtpkegibjoieemaaDoorKeep
namespace Go.Proofs.YtpkegibjoieemaaDoor
open Go.RowKit
theorem cell_new (W : World) (cs : Array Value) (t : TypeId) (i : Nat) (v : Value) (h : cs[i]? = some v) : (W.alloc (.cells cs t)).cell? ⟨W.heap.size, 0 + i, none⟩ = some v := by
  unfold World.cell?
  rw [show (W.alloc (.cells cs t)).heap[(⟨W.heap.size, 0 + i, none⟩ : Addr).block]? = some (.cells cs t) from heap_alloc_new W _]
  simpa using h
theorem list1 (W : World) (t : TypeId) (v1 : Value) (z1 : List UInt8) (h1 : SliceIs W v1 z1) : ListIs (W.alloc (.cells #[v1] t)) (.slice (some ⟨W.heap.size, 0, none⟩) 1 1) [z1] := by
  refine ⟨_, 1, rfl, by simp, .inr ⟨W.heap.size, 0, rfl, fun i hi => ?_⟩⟩
  match i, hi with
  | 0, _ => exact ⟨v1, cell_new W _ t 0 v1 rfl, h1.alloc _⟩
theorem list2 (W : World) (t : TypeId) (v1 v2 : Value) (z1 z2 : List UInt8) (h1 : SliceIs W v1 z1) (h2 : SliceIs W v2 z2) : ListIs (W.alloc (.cells #[v1, v2] t)) (.slice (some ⟨W.heap.size, 0, none⟩) 2 2) [z1, z2] := by
  refine ⟨_, 2, rfl, by simp, .inr ⟨W.heap.size, 0, rfl, fun i hi => ?_⟩⟩
  match i, hi with
  | 0, _ => exact ⟨v1, cell_new W _ t 0 v1 rfl, h1.alloc _⟩
  | 1, _ => exact ⟨v2, cell_new W _ t 1 v2 rfl, h2.alloc _⟩
theorem ListIs.drew {w : World} {v : Value} {ps : List (List UInt8)} (h : ListIs w v ps) : ListIs w.drew v ps := h
theorem made_slice (w : World) (n : Nat) : SliceIs (w.alloc (.cells (bytesOf (zeros n)) 5)) (.slice (some ⟨w.heap.size, 0, none⟩) n n) (zeros n) := by
  have hb := (Bytes.new w 5 (zeros n)).slice n (by simp [zeros_len])
  rw [zeros_len] at hb
  exact hb
theorem size_one (w : World) (o : Obj) : (w.alloc o).heap.size = w.heap.size + 1 := by simp
theorem made2 (w : World) (k m : Nat) : ListIs (((w.alloc (.cells (bytesOf (zeros k)) 5)).alloc (.cells (bytesOf (zeros m)) 5)).alloc (.cells #[.slice (some ⟨w.heap.size, 0, none⟩) k k, .slice (some ⟨w.heap.size + 1, 0, none⟩) m m] 22)) (.slice (some ⟨w.heap.size + 1 + 1, 0, none⟩) 2 2) [zeros k, zeros m] := by
  have h := list2 ((w.alloc (.cells (bytesOf (zeros k)) 5)).alloc (.cells (bytesOf (zeros m)) 5)) 22 _ _ _ _ ((made_slice w k).alloc _) (made_slice (w.alloc (.cells (bytesOf (zeros k)) 5)) m)
  simp only [size_one] at h
  exact h
theorem made2' (w : World) (k m : Nat) : ListIs (((w.alloc (.cells (bytesOf (zeros m)) 5)).alloc (.cells (bytesOf (zeros k)) 5)).alloc (.cells #[.slice (some ⟨w.heap.size + 1, 0, none⟩) k k, .slice (some ⟨w.heap.size, 0, none⟩) m m] 22)) (.slice (some ⟨w.heap.size + 1 + 1, 0, none⟩) 2 2) [zeros k, zeros m] := by
  have h := list2 ((w.alloc (.cells (bytesOf (zeros m)) 5)).alloc (.cells (bytesOf (zeros k)) 5)) 22 _ _ _ _ (made_slice (w.alloc (.cells (bytesOf (zeros m)) 5)) k) ((made_slice w m).alloc _)
  simp only [size_one] at h
  exact h
theorem joinF2_len (k : UInt8) (a b : List UInt8) : (joinF k [a, b]).length = a.length + b.length + 5 := by simp [joinF, partF]; omega
theorem joinF1_len (k : UInt8) (a : List UInt8) : (joinF k [a]).length = a.length + 3 := by simp [joinF, partF]
theorem two_small (k m : Nat) (hk : k ≤ 100000) (hm : m ≤ 100000) : ∀ i, i < [zeros k, zeros m].length → ([zeros k, zeros m].getD i []).length ≤ maxLen := by
  intro i hi
  unfold maxLen
  match i, hi with
  | 0, _ => simp [zeros_len]; omega
  | 1, _ => simp [zeros_len]; omega
theorem parts2_fit (W : World) (kd : UInt8) (v : Value) (k m : Nat) (hv : ListIs W v [zeros k, zeros m]) (ht : Tabs W) (h : k + m = 3995) :
    Calls Tryd.prog 13 #[.int .u8 (kd.toNat : Int), v] W fun e w' => (∃ x, e = .returned (.tuple #[x, .int .i64 0])) ∧ W.grownBy w' none := by
  refine (parts_any W kd v _ hv (by unfold maxLen; simp) (two_small k m (by omega) (by omega)) ht).mono ?_
  rintro e w' ⟨hg, ⟨_, nb, _, rfl, _⟩ | ⟨hl, _⟩⟩
  · exact ⟨⟨_, rfl⟩, hg⟩
  · rw [joinF2_len, zeros_len, zeros_len] at hl; omega
theorem parts2_long (W : World) (kd : UInt8) (v : Value) (k m : Nat) (hv : ListIs W v [zeros k, zeros m]) (ht : Tabs W) (h : k + m = 3996) :
    Calls Tryd.prog 13 #[.int .u8 (kd.toNat : Int), v] W fun e w' => (∃ x, e = .returned (.tuple #[x, .int .i64 1])) ∧ W.grownBy w' none := by
  refine (parts_any W kd v _ hv (by unfold maxLen; simp) (two_small k m (by omega) (by omega)) ht).mono ?_
  rintro e w' ⟨hg, ⟨hl, _⟩ | ⟨hl, rfl⟩⟩
  · rw [joinF2_len, zeros_len, zeros_len] at hl; omega
  · exact ⟨⟨_, rfl⟩, hg⟩
theorem parts1_long (W : World) (kd : UInt8) (v : Value) (k : Nat) (hv : ListIs W v [zeros k]) (ht : Tabs W) (h : k = 4001) :
    Calls Tryd.prog 13 #[.int .u8 (kd.toNat : Int), v] W fun e w' => (∃ x, e = .returned (.tuple #[x, .int .i64 1])) ∧ W.grownBy w' none := by
  refine (parts_any W kd v _ hv (by unfold maxLen; simp) (by intro i hi; unfold maxLen; match i, hi with | 0, _ => (simp [zeros_len]; omega)) ht).mono ?_
  rintro e w' ⟨hg, ⟨hl, _⟩ | ⟨hl, rfl⟩⟩
  · rw [joinF1_len, zeros_len] at hl; omega
  · exact ⟨⟨_, rfl⟩, hg⟩
set_option maxRecDepth 100000 in
set_option maxHeartbeats 1000000 in
theorem partsLong_walk (w : World) (kd : UInt8) (n : Int) (hn0 : -9223372036854775808 ≤ n) (hn1 : n ≤ 9223372036854775807) (ht : Tabs w) :
    Calls Tryd.prog 8 #[.int .u8 (kd.toNat : Int), .int .i64 n] w fun e w' => e = .returned (.bool true) ∧ w.grownBy w' none := by
  go_enter Tryd.func8, Tryd.ntmps8
  go_wp2_with fail
  refine (picked_any n 3996 _ hn0 hn1 (by omega) (by omega)).mono ?_
  rintro e w1 ⟨k, rfl, hk, rfl⟩
  go_upto_region 2 with fail
  have hmk1 := fun W => make_bytes W (k : Int) k rfl (by omega)
  have hmk2 := fun W => make_bytes W (3995 - (k : Int)) (3995 - k) (by omega) (by omega)
  have hwp : IntKind.i64.wrap (3995 - (k : Int)) = 3995 - (k : Int) := by rw [IntKind.wrap_i64]; omega
  go_cut [6, 7] (fun _ s7 wx => s7 = .int .i64 0 ∧ w1.grownBy wx none)
  case first =>
    go_region_with (go_at_call 13; refine (parts2_fit _ kd _ k (3995 - k) (by first | exact made2 _ _ _ | exact made2' _ _ _) (by exact ht.grownNone (grown_drew (grown_alloc (grown_alloc (grown_alloc (grown_refl _ _) _) _) _))) (by omega)).mono ?_; rintro e w2 ⟨⟨x, rfl⟩, hg2⟩)
    all_goals (go_wp2_with fail; go_meet; case rel => exact ⟨rfl, grown_trans (grown_drew (grown_alloc (grown_alloc (grown_alloc (grown_refl _ _) _) _) _)) hg2⟩)
  case rest =>
  obtain ⟨rfl, hg⟩ := hcut
  clear hmk2 hwp
  go_upto_region 3 with fail
  have hmk2 := fun W => make_bytes W (3996 - (k : Int)) (3996 - k) (by omega) (by omega)
  have hwp : IntKind.i64.wrap (3996 - (k : Int)) = 3996 - (k : Int) := by rw [IntKind.wrap_i64]; omega
  go_cut [8, 9] (fun _ s9 wx => s9 = .int .i64 1 ∧ w1.grownBy wx none)
  case first =>
    go_region_with (go_at_call 13; refine (parts2_long _ kd _ k (3996 - k) (by first | exact made2 _ _ _ | exact made2' _ _ _) (by exact ht.grownNone (grown_drew (grown_alloc (grown_alloc (grown_alloc hg _) _) _))) (by omega)).mono ?_; rintro e w2 ⟨⟨x, rfl⟩, hg2⟩)
    all_goals (go_wp2_with fail; go_meet; case rel => exact ⟨rfl, grown_trans (grown_drew (grown_alloc (grown_alloc (grown_alloc hg _) _) _)) hg2⟩)
  case rest =>
  obtain ⟨rfl, hg⟩ := hcut
  clear hmk1 hmk2 hwp
  have hmk := fun W => make_bytes W 4001 4001 rfl (by omega)
  go_wp2_with fail
  have hl := list1 (wc.alloc (.cells (bytesOf (zeros 4001)) 5)) 22 _ _ (made_slice wc 4001)
  rw [size_one] at hl
  refine (parts1_long _ kd _ 4001 hl (ht.grownNone (grown_alloc (grown_alloc hg _) _)) rfl).mono ?_
  rintro e w2 ⟨⟨x, rfl⟩, hg2⟩
  go_wp2
  go_ret
  exact ⟨rfl, grown_trans (grown_alloc (grown_alloc hg _) _) hg2⟩
end Go.Proofs.YtpkegibjoieemaaDoor
