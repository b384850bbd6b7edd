import Derived.Test.YtedmhejnbapklaaDoorLanes
namespace Go.Proofs.YtedmhejnbapklaaDoor
open Go.RowKit
def laneWalkT : List Nat := [10, 7, 11, 17, 18, 3, 5, 16, 8, 21, 24, 4, 15, 23, 19, 13, 12, 2, 20, 14, 22, 9, 6, 1]
def laneTurnsT : List Nat := [1, 3, 6, 10, 15, 21, 28, 36, 45, 55, 2, 14, 27, 41, 56, 8, 25, 43, 62, 18, 39, 61, 20, 44]
def roundNumbersT : List (BitVec 64) := [0x0000000000000001, 0x0000000000008082, 0x800000000000808a, 0x8000000080008000, 0x000000000000808b, 0x0000000080000001, 0x8000000080008081, 0x8000000000008009, 0x000000000000008a, 0x0000000000000088, 0x0000000080008009, 0x000000008000000a, 0x000000008000808b, 0x800000000000008b, 0x8000000000008089, 0x8000000000008003, 0x8000000000008002, 0x8000000000000080, 0x000000000000800a, 0x800000008000000a, 0x8000000080008081, 0x8000000000008080, 0x0000000080000001, 0x8000000080008008]
theorem walk_lt (k : Nat) (h : k < 24) : laneWalkT.getD k 0 < 25 := (by decide : ∀ k : Fin 24, laneWalkT.getD k.1 0 < 25) ⟨k, h⟩
theorem turns_lt (k : Nat) (h : k < 24) : laneTurnsT.getD k 0 < 64 := (by decide : ∀ k : Fin 24, laneTurnsT.getD k.1 0 < 64) ⟨k, h⟩
/-- The three tables of the package, as their initialisers lay them. -/
structure Tabs (w : World) : Prop where
  nums : ∀ i, i < 24 → w.cell? ⟨1, i, none⟩ = some (.int .u64 (U (roundNumbersT.getD i 0)))
  walk : ∀ i, i < 24 → w.cell? ⟨2, i, none⟩ = some (.int .i64 ((laneWalkT.getD i 0 : Nat) : Int))
  turns : ∀ i, i < 24 → w.cell? ⟨3, i, none⟩ = some (.int .i64 ((laneTurnsT.getD i 0 : Nat) : Int))
theorem Tabs.grown {w w' : World} {b : Nat} (h : Tabs w) (hg : w.grownBy w' (some b)) (hb : 4 ≤ b) : Tabs w' :=
  ⟨fun i hi => hg.cell (h.nums i hi) (by simp; omega), fun i hi => hg.cell (h.walk i hi) (by simp; omega), fun i hi => hg.cell (h.turns i hi) (by simp; omega)⟩
def moveTo (st : List (BitVec 64)) : Nat → List (BitVec 64) × BitVec 64
  | 0 => (st, st.getD 1 0)
  | k + 1 => ((moveTo st k).1.set (laneWalkT.getD k 0) (rotl (moveTo st k).2 (laneTurnsT.getD k 0)), (moveTo st k).1.getD (laneWalkT.getD k 0) 0)
set_option maxRecDepth 100000 in
set_option maxHeartbeats 1000000 in
theorem move_any (w : World) (b : Nat) (hb : 4 ≤ b) (st : List (BitVec 64)) (h : St w b st) (ht : Tabs w) :
    Calls Tryd.prog 94 #[.pointer (some ⟨b, 0, none⟩)] w fun e w' => e = .returned (.tuple #[]) ∧ St w' b (moveTo st 24).1 ∧ w.grownBy w' (some b) := by
  have c1 := h.cell 1 (by omega)
  go_enter Tryd.func94, Tryd.ntmps94
  go_wp2
  go_loopw [2, 10] (fun m i wr => ∃ k : Nat, k ≤ 24 ∧ i = .int .i64 (k : Int) ∧ m = .int .u64 (U (moveTo st k).2) ∧ St wr b (moveTo st k).1 ∧ w.grownBy wr (some b)) (fun _ i _ => 24 - (intOf i).toNat)
  case atStart => exact ⟨0, by omega, rfl, by simp [moveTo], h, grown_refl _ _⟩
  case round =>
    obtain ⟨k, hk, rfl, rfl, hst, hg⟩ := hrel
    clear c1
    by_cases hlt : k < 24
    · have hT := ht.grown hg hb
      have hw := walk_lt k hlt
      have hr := turns_lt k hlt
      have t1 := hT.walk k hlt
      have t2 := hT.turns k hlt
      have c := hst.cell (laneWalkT.getD k 0) hw
      have hf := hst.frozen
      generalize hS : (moveTo st k).1 = S at *
      have HS : Hid ((moveTo st k).1 = S) := hS
      generalize hM : (moveTo st k).2 = M at *
      have HM : Hid ((moveTo st k).2 = M) := hM
      generalize hW : laneWalkT.getD k 0 = W at *
      have HW : Hid (laneWalkT.getD k 0 = W) := hW
      generalize hR : laneTurnsT.getD k 0 = R at *
      have HR : Hid (laneTurnsT.getD k 0 = R) := hR
      clear hS hM hW hR
      generalize hX : S.getD W 0 = X at *
      have HX : Hid (S.getD W 0 = X) := hX
      clear hX hT ht h
      have i1 : (W : Int) < 25 := by omega
      go_wp2_with fail
      go_region_with (go_at_call 96; refine (rot_any M (R : Int) (by omega) (by omega) _).mono ?_; rintro e w' ⟨rfl, rfl⟩)
      all_goals go_wp2
      go_roundw
      case rel =>
        refine ⟨k + 1, by omega, by go_num, ?_, ?_, grown_drew (grown_set hg _ _)⟩
        · simp only [moveTo, HS.out, HW.out, HX.out]
        · simp only [moveTo, HS.out, HM.out, HW.out, HR.out]
          exact (hst.set W _).drew
      case measure => simp [intOf]; omega
    · obtain rfl : k = 24 := by omega
      go_wp2
      go_end0
      exact ⟨rfl, hst, hg⟩
end Go.Proofs.YtedmhejnbapklaaDoor
