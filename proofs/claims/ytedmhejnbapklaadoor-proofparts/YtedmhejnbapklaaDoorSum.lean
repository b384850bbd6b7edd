/-
  The walk of digest.Sum.
-/
import Derived.Test.YtedmhejnbapklaaDoorPad
namespace Go.Proofs.YtedmhejnbapklaaDoor
open Go.RowKit
/-- A slice's length. -/
def sliceLen : Value → Nat | .slice _ n _ => n | _ => 0
def zero25 : List (BitVec 64) := List.replicate 25 0
def blockAt (p : List UInt8) (k : Nat) : List UInt8 := (p.drop (136 * k)).take 136
def spongeTo (p : List UInt8) : Nat → List (BitVec 64)
  | 0 => zero25
  | k + 1 => roundsTo (absorbTo (blockAt p k) (spongeTo p k) 17) 24
/-- The digest of bytes, as the program reckons it. -/
def sumF (bs : List UInt8) : List UInt8 := outTo (spongeTo (padF bs) (bs.length / 136 + 1)) 32
theorem sumF_len (bs : List UInt8) : (sumF bs).length = 32 := outTo_len _ _
theorem Tabs.size {w : World} (h : Tabs w) : 4 ≤ w.heap.size := by
  have := World.block_lt_of_cell? w _ (h.turns 0 (by omega))
  exact this
theorem Tabs.grownNone {w w' : World} (h : Tabs w) (hg : w.grownBy w' none) : Tabs w' :=
  ⟨fun i hi => hg.cell (h.nums i hi) (by simp), fun i hi => hg.cell (h.walk i hi) (by simp), fun i hi => hg.cell (h.turns i hi) (by simp)⟩
theorem blockAt_len (p : List UInt8) (k : Nat) (h : 136 * k + 136 ≤ p.length) : (blockAt p k).length = 136 := by
  simp [blockAt]; omega
theorem Bytes.block {w : World} {b : Nat} {p : List UInt8} (h : Bytes w b p) (k : Nat) (hk : 136 * k + 136 ≤ p.length) : BytesAt w b (136 * k) (blockAt p k) := by
  refine h.at _ _ fun i hi => ?_
  rw [blockAt_len p k hk] at hi
  refine ⟨by omega, ?_⟩
  simp [blockAt, hi]
theorem sum_long (w : World) (a : Option Addr) (n cap : Nat) (hn : 4000 < n) :
    Calls Tryd.prog 78 #[.slice a n cap] w fun e w' => e = .returned (.tuple #[.slice none 0 0, .int .i64 1]) ∧ w' = w := by
  have h1 : (4000 : Int) < (n : Int) := by omega
  go_enter Tryd.func78, Tryd.ntmps78
  go_wp2
  go_ret2
  exact ⟨rfl, rfl⟩
set_option maxRecDepth 100000 in
set_option maxHeartbeats 1000000 in
theorem sum_core (w : World) (a : Option Addr) (n cap : Nat) (hl : n ≤ 4000) (ht : Tabs w) (PF : List UInt8) (M : Nat) (hM : M ≤ 30) (HPL : Hid (PF.length = 136 * M))
    (HPAD : Hid (Calls Tryd.prog 85 #[.slice a n cap] (w.alloc (.cells (lanesOf zero25) 116)) fun e w' => e = .returned (.slice (some ⟨w.heap.size + 1, 0, none⟩) (136 * M) (136 * M)) ∧ Bytes w' (w.heap.size + 1) PF ∧ (w.alloc (.cells (lanesOf zero25) 116)).grownBy w' none)) :
    Calls Tryd.prog 78 #[.slice a n cap] w fun e w' => ∃ nb, w.heap.size ≤ nb ∧ e = .returned (.tuple #[.slice (some ⟨nb, 0, none⟩) 32 32, .int .i64 0]) ∧ Bytes w' nb (outTo (spongeTo PF M) 32) ∧ w.grownBy w' none := by
  have h1 : ¬ (4000 : Int) < (n : Int) := by omega
  have h3 := ht.size
  have ez : lanesOf zero25 = #[Value.int IntKind.u64 0, Value.int IntKind.u64 0, Value.int IntKind.u64 0, Value.int IntKind.u64 0, Value.int IntKind.u64 0, Value.int IntKind.u64 0, Value.int IntKind.u64 0, Value.int IntKind.u64 0, Value.int IntKind.u64 0, Value.int IntKind.u64 0, Value.int IntKind.u64 0, Value.int IntKind.u64 0, Value.int IntKind.u64 0, Value.int IntKind.u64 0, Value.int IntKind.u64 0, Value.int IntKind.u64 0, Value.int IntKind.u64 0, Value.int IntKind.u64 0, Value.int IntKind.u64 0, Value.int IntKind.u64 0, Value.int IntKind.u64 0, Value.int IntKind.u64 0, Value.int IntKind.u64 0, Value.int IntKind.u64 0, Value.int IntKind.u64 0] := rfl
  have HS0 : Hid (Lanes 25 (w.alloc (.cells (lanesOf zero25) 116)) w.heap.size zero25) := Lanes.new (n := 25) w 116 zero25 rfl
  have HG0 : Hid (w.grownBy (w.alloc (.cells (lanesOf zero25) 116)) none) := World.grownBy_alloc _ _ _
  go_enter Tryd.func78, Tryd.ntmps78
  go_wp2_with fail
  rw [← ez]
  clear ez
  refine HPAD.out.mono ?_
  rintro e w1 ⟨rfl, hb, hg⟩
  have hst1 := HS0.out.grown hg (by simp)
  have hg1 := grown_trans HG0.out hg
  have HSW : Hid (w.heap.size + 1 < w1.heap.size) := hb.lt
  clear HPAD HS0 HG0 hg h1
  go_wp2_with fail
  go_loopw [5] (fun r wr => ∃ k off : Nat, k ≤ M ∧ r = .slice (some ⟨w.heap.size + 1, off, none⟩) (136 * (M - k)) (136 * (M - k)) ∧ (k < M → off = 136 * k) ∧ St wr w.heap.size (spongeTo PF k) ∧ Bytes wr (w.heap.size + 1) PF ∧ w.grownBy wr none) (fun r _ => sliceLen r)
  case atStart => exact ⟨0, 0, by omega, rfl, fun _ => rfl, hst1, hb, hg1⟩
  case round =>
    clear hst1 hb hg1
    obtain ⟨k, off, hk, rfl, hoff, hst, hb, hg⟩ := hrel
    by_cases hlt : k < M
    · obtain rfl := hoff hlt
      have hblk := hb.block k (by rw [HPL.out]; omega)
      have hbl := blockAt_len PF k (by rw [HPL.out]; omega)
      have HL : Hid (136 * (M - k) = 136 * (M - (k + 1)) + 136) := by show _ = _; omega
      have hL1 : 136 ≤ 136 * (M - k) := by omega
      have hL2 : 136 * (M - k) ≤ 4080 := by omega
      generalize 136 * (M - k) = L at *
      have p1 : (0 : Int) < (L : Int) := by omega
      have p2 : (136 : Int) ≤ (L : Int) := by omega
      have hT := ht.grownNone hg
      have htk := fun cap hc hm => take_any wr w.heap.size h3 (spongeTo PF k) hst hT (w.heap.size + 1) (136 * k) cap (by omega) hc hm (blockAt PF k) hbl hblk
      have HTK : Hid (∀ cap, 136 ≤ cap → cap ≤ 1000000 → Calls Tryd.prog 86 #[.pointer (some ⟨w.heap.size, 0, none⟩), .slice (some ⟨w.heap.size + 1, 136 * k, none⟩) 136 cap] wr fun e w' => e = .returned (.tuple #[]) ∧ St w' w.heap.size (roundsTo (absorbTo (blockAt PF k) (spongeTo PF k) 17) 24) ∧ wr.grownBy w' (some w.heap.size)) := htk
      clear htk hblk hbl hT ht
      by_cases h136 : L = 136
      · subst h136
        have HM : Hid (M = k + 1) := by show _ = _; have := HL.out; omega
        go_wp2_with fail
        refine (HTK.out _ (by omega) (by omega)).mono ?_
        rintro e w2 ⟨rfl, hst2, hg2⟩
        clear HTK hst
        have hb2 := hb.grown hg2 (by simp)
        have hg3 := grown_new hg (Nat.le_refl _) hg2
        clear hb hg hg2
        go_wp2_with fail
        go_roundw
        case rel => exact ⟨k + 1, 136 * k, by omega, by rw [HM.out, Nat.sub_self], fun h => absurd h (by rw [HM.out]; omega), hst2, hb2, hg3⟩
        case measure => simp [sliceLen]
      · have p3 : ¬ (L : Int) = 136 := by omega
        go_wp2_with fail
        refine (HTK.out _ (by omega) (by omega)).mono ?_
        rintro e w2 ⟨rfl, hst2, hg2⟩
        clear HTK hst
        have hb2 := hb.grown hg2 (by simp)
        have hg3 := grown_new hg (Nat.le_refl _) hg2
        clear hb hg hg2
        go_wp2_with fail
        go_roundw
        case rel =>
          have e : L - 136 = 136 * (M - (k + 1)) := by have := HL.out; omega
          rw [e]
          exact ⟨k + 1, 136 * k + 136, by omega, rfl, fun _ => by omega, hst2, hb2, hg3⟩
        case measure => simp only [sliceLen]; omega
    · obtain rfl : k = M := by omega
      have HO := out_any wr w.heap.size (spongeTo PF k) hst
      rw [show 136 * (k - k) = 0 by omega]
      go_wp2_with fail
      refine HO.mono ?_
      rintro e w2 ⟨rfl, hb2, hg2⟩
      go_wp2
      go_ret2
      exact ⟨wr.heap.size, hg.size, rfl, hb2, grown_trans hg hg2⟩
theorem sum_any (w : World) (v : Value) (bs : List UInt8) (hv : SliceIs w v bs) (hl : bs.length ≤ 4000) (ht : Tabs w) :
    Calls Tryd.prog 78 #[v] w fun e w' => ∃ nb, w.heap.size ≤ nb ∧ e = .returned (.tuple #[.slice (some ⟨nb, 0, none⟩) 32 32, .int .i64 0]) ∧ Bytes w' nb (sumF bs) ∧ w.grownBy w' none := by
  obtain ⟨a, cap, rfl, hc, hrest⟩ := hv
  have hv : SliceIs w (.slice a bs.length cap) bs := ⟨a, cap, rfl, hc, hrest⟩
  have hN : padLen bs.length = 136 * (bs.length / 136 + 1) := by unfold padLen; omega
  have hpad := pad_any _ _ bs (hv.alloc (.cells (lanesOf zero25) 116)) hl
  have hsz : (w.alloc (.cells (lanesOf zero25) 116)).heap.size = w.heap.size + 1 := by simp
  rw [hN, hsz] at hpad
  exact sum_core w a bs.length cap hl ht (padF bs) (bs.length / 136 + 1) (by omega) (by show (padF bs).length = _; rw [padF_len, hN]) hpad
end Go.Proofs.YtedmhejnbapklaaDoor
