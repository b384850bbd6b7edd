/-
  Texts of this proof, joined: Pad, Sum, FrameB, Frame, Keys, Trees.
-/
import Derived.Test.YtdpoickggdgddabDoorPart1
import Derived.Test.YtdpoickggdgddabDoorRows
import Derived.ProofKit
import Derived.OpenShut
import Derived.ShutString
import Derived.ChangeOld
import Derived.Deep.DeepHandedRow
import Derived.SizedLaws
import Derived.Test.YtdpoickggdgddabDoorCards
import Derived.Test.YtdpoickggdgddabDoorTie
import Derived.Lib.LaidTab
import Derived.WalkKit
/-
  The walk of the padding.
-/
namespace Go.Proofs.YtdpoickggdgddabDoor
open Go.RowKit
def padLen (n : Nat) : Nat := (n / 136 + 1) * 136
def padMark (bs : List UInt8) : List UInt8 := (bs ++ zeros (padLen bs.length - bs.length)).set bs.length 6
/-- What stands behind the bytes. -/
def padF (bs : List UInt8) : List UInt8 := (padMark bs).set (padLen bs.length - 1) ((padMark bs).getD (padLen bs.length - 1) 0 ||| 128)
theorem padMark_len (bs : List UInt8) : (padMark bs).length = padLen bs.length := by
  simp [padMark, zeros_len]; unfold padLen; omega
theorem padF_len (bs : List UInt8) : (padF bs).length = padLen bs.length := by simp [padF, padMark_len]
theorem or128 (c : UInt8) : bits .or .u8 ((c.toNat : Nat) : Int) 128 = ((c ||| 128).toNat : Int) := by
  have h : ∀ c : Fin 256, bits .or .u8 ((c.1 : Nat) : Int) 128 = (((UInt8.ofNat c.1) ||| 128).toNat : Int) := by decide +kernel
  have := h ⟨c.toNat, c.toNat_lt⟩
  simpa using this
set_option maxRecDepth 100000 in
set_option maxHeartbeats 1000000 in
theorem pad_any (w : World) (v : Value) (bs : List UInt8) (hv : SliceIs w v bs) (hl : bs.length ≤ 4000) :
    Calls Tryd.prog 33 #[v] w fun e w' => e = .returned (.slice (some ⟨w.heap.size, 0, none⟩) (padLen bs.length) (padLen bs.length)) ∧ Bytes w' w.heap.size (padF bs) ∧ w.grownBy w' none := by
  obtain ⟨a, cap, rfl, hc, hrest⟩ := hv
  have hv : SliceIs w (.slice a bs.length cap) bs := ⟨a, cap, rfl, hc, hrest⟩
  clear hrest
  have hmk := fun W => make_bytes W (((bs.length : Int) / 136 + 1) * 136) (padLen bs.length) (by unfold padLen; omega) (by unfold padLen; omega)
  have hN : bs.length < padLen bs.length := by unfold padLen; omega
  have hcp := fun ty => copy_bytes w a bs cap (padLen bs.length) (padLen bs.length) ty (by omega) hv
  have hmax : padLen bs.length ≤ 4080 := by unfold padLen; omega
  have hpl := padMark_len bs
  have HP : Hid (padMark bs = (bs ++ zeros (padLen bs.length - bs.length)).set bs.length 6) := rfl
  have HF : Hid (padF bs = (padMark bs).set (padLen bs.length - 1) ((padMark bs).getD (padLen bs.length - 1) 0 ||| 128)) := rfl
  have hb1 := Bytes.new w 5 (bs ++ zeros (padLen bs.length - bs.length))
  have hbl : (bs ++ zeros (padLen bs.length - bs.length)).length = padLen bs.length := by simp [zeros_len]; omega
  generalize bs ++ zeros (padLen bs.length - bs.length) = B1 at *
  generalize padMark bs = B2 at *
  generalize padF bs = B3 at *
  generalize padLen bs.length = N at *
  generalize bs.length = n at *
  have HPL : Hid (B2.length = N) := hpl
  have HBL : Hid (B1.length = N) := hbl
  clear hpl hbl hv hc
  have HB1 : Hid (Bytes (w.alloc (.cells (bytesOf B1) 5)) w.heap.size B1) := hb1
  clear hb1
  go_enter Tryd.func33, Tryd.ntmps33
  go_upto_region 3 with fail
  clear hmk hcp
  have hg1 : w.grownBy (w.alloc (.cells (bytesOf B1) 5)) none := World.grownBy_alloc _ _ _
  generalize w.alloc (.cells (bytesOf B1) 5) = W1 at *
  have c0 := HB1.out.cell n (by rw [HBL.out]; exact hN)
  have f0 := HB1.out.frozen n
  have i0 : (n : Int) < (N : Int) := by omega
  go_upto_region 4 with fail
  clear c0 f0
  have HB2 : Hid (Bytes (W1.setCell ⟨w.heap.size, n, none⟩ (.int .u8 6)) w.heap.size B2) := by show Bytes _ _ _; rw [HP.out]; exact HB1.out.set n 6
  have hg2 : w.grownBy (W1.setCell ⟨w.heap.size, n, none⟩ (.int .u8 6)) none := grown_setNew hg1 _ (Nat.le_refl _) _ _
  generalize W1.setCell ⟨w.heap.size, n, none⟩ (.int .u8 6) = W2 at *
  clear hg1 HB1 HP HBL
  have c0 := HB2.out.cell (N - 1) (by rw [HPL.out]; omega)
  have f0 := HB2.out.frozen (N - 1)
  generalize hx : B2.getD (N - 1) 0 = x at *
  have i1 : (N : Int) - 1 < (N : Int) := by omega
  have i2 : (0 : Int) ≤ (N : Int) - 1 := by omega
  have e1 : ((N : Int) - 1).toNat = N - 1 := by omega
  go_wp2
  go_ret
  rw [or128]
  refine ⟨rfl, ?_, grown_setNew hg2 _ (Nat.le_refl _) _ _⟩
  rw [HF.out]
  exact HB2.out.set (N - 1) _
end Go.Proofs.YtdpoickggdgddabDoor

/-
  The walk of digest.Sum.
-/
namespace Go.Proofs.YtdpoickggdgddabDoor
open Go.RowKit
/-- A slice's length. -/
def sliceLen : Value → Nat | .slice _ n _ => n | _ => 0
def zero25 : List (BitVec 64) := List.replicate 25 0
def blockAt (p : List UInt8) (k : Nat) : List UInt8 := (p.drop (136 * k)).take 136
def spongeTo (p : List UInt8) : Nat → List (BitVec 64)
  | 0 => zero25
  | k + 1 => roundsTo (absorbTo (blockAt p k) (spongeTo p k) 17) 24
/-- The digest of bytes, as the program reckons it. -/
def sumF (bs : List UInt8) : List UInt8 := outTo (spongeTo (padF bs) (bs.length / 136 + 1)) 32
theorem sumF_len (bs : List UInt8) : (sumF bs).length = 32 := outTo_len _ _
theorem Tabs.size {w : World} (h : Tabs w) : 4 ≤ w.heap.size := by
  have := World.block_lt_of_cell? w _ (h.turns 0 (by omega))
  exact this
theorem Tabs.grownNone {w w' : World} (h : Tabs w) (hg : w.grownBy w' none) : Tabs w' :=
  ⟨fun i hi => hg.cell (h.nums i hi) (by simp), fun i hi => hg.cell (h.walk i hi) (by simp), fun i hi => hg.cell (h.turns i hi) (by simp)⟩
theorem blockAt_len (p : List UInt8) (k : Nat) (h : 136 * k + 136 ≤ p.length) : (blockAt p k).length = 136 := by
  simp [blockAt]; omega
theorem Bytes.block {w : World} {b : Nat} {p : List UInt8} (h : Bytes w b p) (k : Nat) (hk : 136 * k + 136 ≤ p.length) : BytesAt w b (136 * k) (blockAt p k) := by
  refine h.at _ _ fun i hi => ?_
  rw [blockAt_len p k hk] at hi
  refine ⟨by omega, ?_⟩
  simp [blockAt, hi]
theorem sum_long (w : World) (a : Option Addr) (n cap : Nat) (hn : 4000 < n) :
    Calls Tryd.prog 28 #[.slice a n cap] w fun e w' => e = .returned (.tuple #[.slice none 0 0, .int .i64 1]) ∧ w' = w := by
  have h1 : (4000 : Int) < (n : Int) := by omega
  go_enter Tryd.func28, Tryd.ntmps28
  go_wp2
  go_ret2
  exact ⟨rfl, rfl⟩
set_option maxRecDepth 100000 in
set_option maxHeartbeats 1000000 in
theorem sum_core (w : World) (a : Option Addr) (n cap : Nat) (hl : n ≤ 4000) (ht : Tabs w) (PF : List UInt8) (M : Nat) (hM : M ≤ 30) (HPL : Hid (PF.length = 136 * M))
    (HPAD : Hid (Calls Tryd.prog 33 #[.slice a n cap] (w.alloc (.cells (lanesOf zero25) 69)) fun e w' => e = .returned (.slice (some ⟨w.heap.size + 1, 0, none⟩) (136 * M) (136 * M)) ∧ Bytes w' (w.heap.size + 1) PF ∧ (w.alloc (.cells (lanesOf zero25) 69)).grownBy w' none)) :
    Calls Tryd.prog 28 #[.slice a n cap] w fun e w' => ∃ nb, w.heap.size ≤ nb ∧ e = .returned (.tuple #[.slice (some ⟨nb, 0, none⟩) 32 32, .int .i64 0]) ∧ Bytes w' nb (outTo (spongeTo PF M) 32) ∧ w.grownBy w' none := by
  have h1 : ¬ (4000 : Int) < (n : Int) := by omega
  have h3 := ht.size
  have ez : lanesOf zero25 = #[Value.int IntKind.u64 0, Value.int IntKind.u64 0, Value.int IntKind.u64 0, Value.int IntKind.u64 0, Value.int IntKind.u64 0, Value.int IntKind.u64 0, Value.int IntKind.u64 0, Value.int IntKind.u64 0, Value.int IntKind.u64 0, Value.int IntKind.u64 0, Value.int IntKind.u64 0, Value.int IntKind.u64 0, Value.int IntKind.u64 0, Value.int IntKind.u64 0, Value.int IntKind.u64 0, Value.int IntKind.u64 0, Value.int IntKind.u64 0, Value.int IntKind.u64 0, Value.int IntKind.u64 0, Value.int IntKind.u64 0, Value.int IntKind.u64 0, Value.int IntKind.u64 0, Value.int IntKind.u64 0, Value.int IntKind.u64 0, Value.int IntKind.u64 0] := rfl
  have HS0 : Hid (Lanes 25 (w.alloc (.cells (lanesOf zero25) 69)) w.heap.size zero25) := Lanes.new (n := 25) w 69 zero25 rfl
  have HG0 : Hid (w.grownBy (w.alloc (.cells (lanesOf zero25) 69)) none) := World.grownBy_alloc _ _ _
  go_enter Tryd.func28, Tryd.ntmps28
  go_wp2_with fail
  rw [← ez]
  clear ez
  refine HPAD.out.mono ?_
  rintro e w1 ⟨rfl, hb, hg⟩
  have hst1 := HS0.out.grown hg (by simp)
  have hg1 := grown_trans HG0.out hg
  have HSW : Hid (w.heap.size + 1 < w1.heap.size) := hb.lt
  clear HPAD HS0 HG0 hg h1
  go_wp2_with fail
  go_loopw [5] (fun r wr => ∃ k off : Nat, k ≤ M ∧ r = .slice (some ⟨w.heap.size + 1, off, none⟩) (136 * (M - k)) (136 * (M - k)) ∧ (k < M → off = 136 * k) ∧ St wr w.heap.size (spongeTo PF k) ∧ Bytes wr (w.heap.size + 1) PF ∧ w.grownBy wr none) (fun r _ => sliceLen r)
  case atStart => exact ⟨0, 0, by omega, rfl, fun _ => rfl, hst1, hb, hg1⟩
  case round =>
    clear hst1 hb hg1
    obtain ⟨k, off, hk, rfl, hoff, hst, hb, hg⟩ := hrel
    by_cases hlt : k < M
    · obtain rfl := hoff hlt
      have hblk := hb.block k (by rw [HPL.out]; omega)
      have hbl := blockAt_len PF k (by rw [HPL.out]; omega)
      have HL : Hid (136 * (M - k) = 136 * (M - (k + 1)) + 136) := by show _ = _; omega
      have hL1 : 136 ≤ 136 * (M - k) := by omega
      have hL2 : 136 * (M - k) ≤ 4080 := by omega
      generalize 136 * (M - k) = L at *
      have p1 : (0 : Int) < (L : Int) := by omega
      have p2 : (136 : Int) ≤ (L : Int) := by omega
      have hT := ht.grownNone hg
      have htk := fun cap hc hm => take_any wr w.heap.size h3 (spongeTo PF k) hst hT (w.heap.size + 1) (136 * k) cap (by omega) hc hm (blockAt PF k) hbl hblk
      have HTK : Hid (∀ cap, 136 ≤ cap → cap ≤ 1000000 → Calls Tryd.prog 34 #[.pointer (some ⟨w.heap.size, 0, none⟩), .slice (some ⟨w.heap.size + 1, 136 * k, none⟩) 136 cap] wr fun e w' => e = .returned (.tuple #[]) ∧ St w' w.heap.size (roundsTo (absorbTo (blockAt PF k) (spongeTo PF k) 17) 24) ∧ wr.grownBy w' (some w.heap.size)) := htk
      clear htk hblk hbl hT ht
      by_cases h136 : L = 136
      · subst h136
        have HM : Hid (M = k + 1) := by show _ = _; have := HL.out; omega
        go_wp2_with fail
        refine (HTK.out _ (by omega) (by omega)).mono ?_
        rintro e w2 ⟨rfl, hst2, hg2⟩
        clear HTK hst
        have hb2 := hb.grown hg2 (by simp)
        have hg3 := grown_new hg (Nat.le_refl _) hg2
        clear hb hg hg2
        go_wp2_with fail
        go_roundw
        case rel => exact ⟨k + 1, 136 * k, by omega, by rw [HM.out, Nat.sub_self], fun h => absurd h (by rw [HM.out]; omega), hst2, hb2, hg3⟩
        case measure => simp [sliceLen]
      · have p3 : ¬ (L : Int) = 136 := by omega
        go_wp2_with fail
        refine (HTK.out _ (by omega) (by omega)).mono ?_
        rintro e w2 ⟨rfl, hst2, hg2⟩
        clear HTK hst
        have hb2 := hb.grown hg2 (by simp)
        have hg3 := grown_new hg (Nat.le_refl _) hg2
        clear hb hg hg2
        go_wp2_with fail
        go_roundw
        case rel =>
          have e : L - 136 = 136 * (M - (k + 1)) := by have := HL.out; omega
          rw [e]
          exact ⟨k + 1, 136 * k + 136, by omega, rfl, fun _ => by omega, hst2, hb2, hg3⟩
        case measure => simp only [sliceLen]; omega
    · obtain rfl : k = M := by omega
      have HO := out_any wr w.heap.size (spongeTo PF k) hst
      rw [show 136 * (k - k) = 0 by omega]
      go_wp2_with fail
      refine HO.mono ?_
      rintro e w2 ⟨rfl, hb2, hg2⟩
      go_wp2
      go_ret2
      exact ⟨wr.heap.size, hg.size, rfl, hb2, grown_trans hg hg2⟩
theorem sum_any (w : World) (v : Value) (bs : List UInt8) (hv : SliceIs w v bs) (hl : bs.length ≤ 4000) (ht : Tabs w) :
    Calls Tryd.prog 28 #[v] w fun e w' => ∃ nb, w.heap.size ≤ nb ∧ e = .returned (.tuple #[.slice (some ⟨nb, 0, none⟩) 32 32, .int .i64 0]) ∧ Bytes w' nb (sumF bs) ∧ w.grownBy w' none := by
  obtain ⟨a, cap, rfl, hc, hrest⟩ := hv
  have hv : SliceIs w (.slice a bs.length cap) bs := ⟨a, cap, rfl, hc, hrest⟩
  have hN : padLen bs.length = 136 * (bs.length / 136 + 1) := by unfold padLen; omega
  have hpad := pad_any _ _ bs (hv.alloc (.cells (lanesOf zero25) 69)) hl
  have hsz : (w.alloc (.cells (lanesOf zero25) 69)).heap.size = w.heap.size + 1 := by simp
  rw [hN, hsz] at hpad
  exact sum_core w a bs.length cap hl ht (padF bs) (bs.length / 136 + 1) (by omega) (by show (padF bs).length = _; rw [padF_len, hN]) hpad
end Go.Proofs.YtdpoickggdgddabDoor

/-
  What every row's proof opens with: a slice of bytes that came in.
-/
namespace Go.Proofs.YtdpoickggdgddabDoor
open Go.ChangeShapes Go.WideShapes Go.ChangeAt Go.RowKit
theorem own : ownKnob Tryd.prog.godebug = none := by kernel_rfl
theorem laidOut : laidOutB Tryd.prog = true := by kernel_rfl
/-- A slice of integers that came in: nil, or a row of 'cap' cells. -/
def IsRow (k : IntKind) (w : World) (a : Option Addr) (len cap : Nat) (zs : List Int) : Prop :=
  (a = none ∧ len = 0 ∧ cap = 0 ∧ zs = []) ∨
  ∃ x, a = some x ∧ len ≤ cap ∧ cap ≤ maxLen ∧ zs.length = cap ∧ (∀ i, i < zs.length → w.cell? (x.add i) = some (.int k (zs.getD i 0))) ∧ ∀ n ∈ zs, (Lit.int k n).wf = true
theorem isRow_slice {w : World} {a : Option Addr} {len cap : Nat} {zs : List Int} (h : IsRow .u8 w a len cap zs) : ∃ bs : List UInt8, bs.length = len ∧ len ≤ maxLen ∧ SliceIs w (.slice a len cap) bs := by
  rcases h with ⟨rfl, rfl, rfl, rfl⟩ | ⟨x, rfl, hl, hm, hz, hc, hw⟩
  · exact ⟨[], rfl, by unfold maxLen; omega, sliceIs_nil w⟩
  · have hlen : ((zs.take len).map fun z => UInt8.ofNat z.toNat).length = len := by simp; omega
    refine ⟨(zs.take len).map fun z => UInt8.ofNat z.toNat, hlen, by omega, _, cap, by rw [hlen], by omega, ?_⟩
    by_cases h0 : len = 0
    · subst h0
      exact .inl ⟨by simp, fun h => by cases h⟩
    · obtain ⟨b, o, sp⟩ := x
      have h00 := hc 0 (by omega)
      obtain rfl : sp = none := by
        cases sp with
        | none => rfl
        | some q =>
          simp [Addr.add, World.cell?] at h00
          split at h00 <;> simp at h00
      refine .inr ⟨b, o, rfl, fun i hi => ?_⟩
      rw [hlen] at hi
      have hi2 : i < zs.length := by omega
      have := hc i hi2
      rw [addr_add] at this
      rw [this]
      have hwf := hw (zs.getD i 0) (by simp [hi2])
      have hb := bounds_u8 hwf
      simp [hi, hi2] at hb ⊢
      omega
theorem int_bounds {n : Int} (h : (Lit.int .i64 n).wf = true) : -9223372036854775808 ≤ n ∧ n ≤ 9223372036854775807 := bounds_i64 h
theorem byte_of {n : Int} (h : (Lit.int .u8 n).wf = true) : ∃ c : UInt8, n = (c.toNat : Int) := by
  have hb := bounds_u8 h
  exact ⟨UInt8.ofNat n.toNat, by simp; omega⟩
theorem bytes5 : Tryd.prog.bytesOf 5 = 1 := by kernel_rfl
theorem below_of {w w' : World} (h : w.grownBy w' none) : Below w.heap.size w w' := ⟨h.os, h.tape, h.output, h.size, fun k hk => h.block k hk (by simp)⟩
end Go.Proofs.YtdpoickggdgddabDoor

/-
  What every row's proof opens with: the tables, a slice of bytes that came in, a world for the witness.
-/
namespace Go.Proofs.YtdpoickggdgddabDoor
open Go.ChangeShapes Go.WideShapes Go.ChangeAt Go.RowKit
def numsZ : List Int := [1, 32898, 9223372036854808714, 9223372039002292224, 32907, 2147483649, 9223372039002292353, 9223372036854808585, 138, 136, 2147516425, 2147483658, 2147516555, 9223372036854775947, 9223372036854808713, 9223372036854808579, 9223372036854808578, 9223372036854775936, 32778, 9223372039002259466, 9223372039002292353, 9223372036854808704, 2147483649, 9223372039002292232]
def walkZ : List Int := [10, 7, 11, 17, 18, 3, 5, 16, 8, 21, 24, 4, 15, 23, 19, 13, 12, 2, 20, 14, 22, 9, 6, 1]
def turnsZ : List Int := [1, 3, 6, 10, 15, 21, 28, 36, 45, 55, 2, 14, 27, 41, 56, 8, 25, 43, 62, 18, 39, 61, 20, 44]
def laidL : List (String × DataW Unit) := [("canopy/digest.roundNumbers", Lib.tabData .u64 numsZ), ("canopy/digest.laneWalk", Lib.tabData .i64 walkZ), ("canopy/digest.laneTurns", Lib.tabData .i64 turnsZ)]
theorem g0 : Tryd.prog.globalNamed "canopy/digest.roundNumbers" = some 1 := by kernel_rfl
theorem g1 : Tryd.prog.globalNamed "canopy/digest.laneWalk" = some 2 := by kernel_rfl
theorem g2 : Tryd.prog.globalNamed "canopy/digest.laneTurns" = some 3 := by kernel_rfl
theorem gt0 : (Tryd.prog.globals[1]?).map (·.type) = some 77 := by kernel_rfl
theorem gt1 : (Tryd.prog.globals[2]?).map (·.type) = some 81 := by kernel_rfl
theorem gt2 : (Tryd.prog.globals[3]?).map (·.type) = some 81 := by kernel_rfl
theorem cells49 : Tryd.prog.cellsOf 77 = 24 := by kernel_rfl
theorem cells58 : Tryd.prog.cellsOf 81 = 24 := by kernel_rfl
theorem cells41 : Tryd.prog.cellsOf 67 = 1 := by kernel_rfl
theorem cells3 : Tryd.prog.cellsOf 3 = 1 := by kernel_rfl
theorem nums_eq (i : Nat) (h : i < 24) : numsZ.getD i 0 = U (roundNumbersT.getD i 0) := (by decide +kernel : ∀ i : Fin 24, numsZ.getD i.1 0 = U (roundNumbersT.getD i.1 0)) ⟨i, h⟩
theorem walk_eq (i : Nat) (h : i < 24) : walkZ.getD i 0 = ((laneWalkT.getD i 0 : Nat) : Int) := (by decide +kernel : ∀ i : Fin 24, walkZ.getD i.1 0 = ((laneWalkT.getD i.1 0 : Nat) : Int)) ⟨i, h⟩
theorem turns_eq (i : Nat) (h : i < 24) : turnsZ.getD i 0 = ((laneTurnsT.getD i 0 : Nat) : Int) := (by decide +kernel : ∀ i : Fin 24, turnsZ.getD i.1 0 = ((laneTurnsT.getD i.1 0 : Nat) : Int)) ⟨i, h⟩
/-- What the rows' list gives: the three tables. -/
theorem tabs_of {W : World} (h : laidMet Tryd.prog laidL W) : Tabs W := by
  obtain ⟨ps, ⟨a1, b1, cs1, f1, p1, q1, hg1, ht1, hv1, hd1, ⟨a2, b2, cs2, f2, p2, q2, hg2, ht2, hv2, hd2, ⟨a3, b3, cs3, f3, p3, q3, hg3, ht3, hv3, hd3, _, _⟩, _⟩, _⟩, _⟩ := h
  obtain rfl := Option.some.inj (g0.symm.trans hg1)
  obtain rfl := Option.some.inj (g1.symm.trans hg2)
  obtain rfl := Option.some.inj (g2.symm.trans hg3)
  obtain rfl := Option.some.inj (gt0.symm.trans ht1)
  obtain rfl := Option.some.inj (gt1.symm.trans ht2)
  obtain rfl := Option.some.inj (gt2.symm.trans ht3)
  have t0 : Lib.TabIs Tryd.prog W "canopy/digest.roundNumbers" .u64 numsZ := by
    unfold Lib.TabIs; rw [hv1, ← Lib.cells_of_tab Tryd.underlying77 Tryd.underlying67 cells41 cells49 hd1]
  have t1 : Lib.TabIs Tryd.prog W "canopy/digest.laneWalk" .i64 walkZ := by
    unfold Lib.TabIs; rw [hv2, ← Lib.cells_of_tab Tryd.underlying81 Tryd.underlying3 cells3 cells58 hd2]
  have t2 : Lib.TabIs Tryd.prog W "canopy/digest.laneTurns" .i64 turnsZ := by
    unfold Lib.TabIs; rw [hv3, ← Lib.cells_of_tab Tryd.underlying81 Tryd.underlying3 cells3 cells58 hd3]
  refine ⟨fun i hi => ?_, fun i hi => ?_, fun i hi => ?_⟩
  · rw [t0.cell g0 i hi, nums_eq i hi]
  · rw [t1.cell g1 i hi, walk_eq i hi]
  · rw [t2.cell g2 i hi, turns_eq i hi]
def layTab (cs : Array Value) : Obj → Obj
  | .cells _ t frozen => .cells cs t frozen
  | o => o
/-- A world for the witness: the tables as their initialisers lay them. -/
def laidWorld (W : World) : World :=
  { W with heap := ((W.heap.modify 1 (layTab (numsZ.map fun z => Value.int .u64 z).toArray)).modify 2 (layTab (walkZ.map fun z => Value.int .i64 z).toArray)).modify 3 (layTab (turnsZ.map fun z => Value.int .i64 z).toArray) }
end Go.Proofs.YtdpoickggdgddabDoor

namespace Go.Proofs.YtdpoickggdgddabDoor
/-- A bit of a key. -/
def kbit (k : List UInt8) (i : Nat) : Bool := if i / 9 < k.length then (if i % 9 = 0 then true else (k.getD (i / 9) 0).toNat.testBit (8 - i % 9)) else false
theorem kbit_head (k : List UInt8) (p : Nat) : kbit k (9 * p) = decide (p < k.length) := by
  unfold kbit
  rw [show 9 * p / 9 = p by omega, show 9 * p % 9 = 0 by omega]
  by_cases h : p < k.length <;> simp [h]
theorem kbit_byte (k : List UInt8) (p r : Nat) (hp : p < k.length) (hr : 1 ≤ r) (hr8 : r ≤ 8) : kbit k (9 * p + r) = (k.getD p 0).toNat.testBit (8 - r) := by
  unfold kbit
  rw [show (9 * p + r) / 9 = p by omega, show (9 * p + r) % 9 = r by omega, if_pos hp, if_neg (by omega)]
theorem kbit_past (k : List UInt8) (i : Nat) (h : k.length ≤ i / 9) : kbit k i = false := by
  unfold kbit
  rw [if_neg (by omega)]
theorem byte_ext (x y : UInt8) (h : ∀ j, j < 8 → x.toNat.testBit j = y.toNat.testBit j) : x = y := by
  apply UInt8.toNat_inj.1
  apply Nat.eq_of_testBit_eq
  intro j
  by_cases hj : j < 8
  · exact h j hj
  · rw [Nat.testBit_lt_two_pow (Nat.lt_of_lt_of_le x.toNat_lt (Nat.pow_le_pow_right (by decide) (by omega : 8 ≤ j))), Nat.testBit_lt_two_pow (Nat.lt_of_lt_of_le y.toNat_lt (Nat.pow_le_pow_right (by decide) (by omega : 8 ≤ j)))]
/-- A key's bits tell the key. -/
theorem bits_tell (a b : List UInt8) (ha : a.length ≤ 16) (hb : b.length ≤ 16) (h : ∀ i, i < 145 → kbit a i = kbit b i) : a = b := by
  have hl : a.length = b.length := by
    have h1 := h (9 * a.length) (by omega)
    have h2 := h (9 * b.length) (by omega)
    rw [kbit_head, kbit_head] at h1 h2
    simp at h1 h2
    omega
  apply List.ext_getElem hl
  intro p h1 h2
  have e : a.getD p 0 = b.getD p 0 := by
    apply byte_ext
    intro j hj
    have := h (9 * p + (8 - j)) (by omega)
    rw [kbit_byte a p _ h1 (by omega) (by omega), kbit_byte b p _ h2 (by omega) (by omega), show 8 - (8 - j) = j by omega] at this
    exact this
  simpa [h1, h2] using e
/-- The first bit at which two keys differ, from i on. -/
def partFrom (a b : List UInt8) : Nat → Nat → Int
  | 0, _ => -1
  | n + 1, i => if kbit a i = kbit b i then partFrom a b n (i + 1) else (i : Int)
def partK (a b : List UInt8) : Int := partFrom a b 145 0
theorem partFrom_spec (a b : List UInt8) (n i : Nat) : (partFrom a b n i = -1 ∧ ∀ j, i ≤ j → j < i + n → kbit a j = kbit b j) ∨ ∃ m : Nat, partFrom a b n i = (m : Int) ∧ i ≤ m ∧ m < i + n ∧ (∀ j, i ≤ j → j < m → kbit a j = kbit b j) ∧ kbit a m ≠ kbit b m := by
  induction n generalizing i with
  | zero => exact .inl ⟨rfl, fun j _ h => by omega⟩
  | succ n ih =>
    unfold partFrom
    by_cases he : kbit a i = kbit b i
    · rw [if_pos he]
      rcases ih (i + 1) with ⟨h1, h2⟩ | ⟨m, h1, h2, h3, h4, h5⟩
      · refine .inl ⟨h1, fun j hj hj2 => ?_⟩
        by_cases hji : j = i
        · subst hji; exact he
        · exact h2 j (by omega) (by omega)
      · refine .inr ⟨m, h1, by omega, by omega, fun j hj hj2 => ?_, h5⟩
        by_cases hji : j = i
        · subst hji; exact he
        · exact h4 j (by omega) hj2
    · rw [if_neg he]
      exact .inr ⟨i, rfl, Nat.le_refl _, by omega, fun j h1 h2 => by omega, he⟩
theorem partK_spec (a b : List UInt8) : (partK a b = -1 ∧ ∀ j, j < 145 → kbit a j = kbit b j) ∨ ∃ m : Nat, partK a b = (m : Int) ∧ m < 145 ∧ (∀ j, j < m → kbit a j = kbit b j) ∧ kbit a m ≠ kbit b m := by
  rcases partFrom_spec a b 145 0 with ⟨h1, h2⟩ | ⟨m, h1, _, h3, h4, h5⟩
  · exact .inl ⟨h1, fun j hj => h2 j (by omega) (by omega)⟩
  · exact .inr ⟨m, h1, by omega, fun j hj => h4 j (by omega) hj, h5⟩
theorem partK_of (a b : List UInt8) (m : Nat) (hm : m < 145) (h : ∀ j, j < m → kbit a j = kbit b j) (hd : kbit a m ≠ kbit b m) : partK a b = (m : Int) := by
  rcases partK_spec a b with ⟨_, h2⟩ | ⟨m', h1, h2, h3, h4⟩
  · exact absurd (h2 m hm) hd
  · by_cases hlt : m' < m
    · exact absurd (h m' hlt) h4
    · by_cases hgt : m < m'
      · exact absurd (h3 m hgt) hd
      · rw [h1]; omega
theorem partK_none (a b : List UInt8) (h : ∀ j, j < 145 → kbit a j = kbit b j) : partK a b = -1 := by
  rcases partK_spec a b with ⟨h1, _⟩ | ⟨m', _, h2, _, h4⟩
  · exact h1
  · exact absurd (h m' h2) h4
theorem partK_range (a b : List UInt8) : -1 ≤ partK a b ∧ partK a b ≤ 144 := by
  rcases partK_spec a b with ⟨h, _⟩ | ⟨m, h, hm, _⟩ <;> omega
theorem partK_comm (a b : List UInt8) : partK a b = partK b a := by
  rcases partK_spec a b with ⟨h1, h2⟩ | ⟨m, h1, h2, h3, h4⟩
  · rw [h1, partK_none b a fun j hj => (h2 j hj).symm]
  · rw [h1, partK_of b a m h2 (fun j hj => (h3 j hj).symm) (fun e => h4 e.symm)]
theorem partK_same (a b : List UInt8) (ha : a.length ≤ 16) (hb : b.length ≤ 16) : partK a b < 0 ↔ a = b := by
  constructor
  · intro h
    rcases partK_spec a b with ⟨_, h2⟩ | ⟨m, h1, _⟩
    · exact bits_tell a b ha hb h2
    · omega
  · rintro rfl
    rw [partK_none a a fun _ _ => rfl]; decide
/-- Of three keys two part first, or no sooner than the others. -/
theorem part_three (a b c : List UInt8) (x y z : Nat) (hx : partK a b = (x : Int)) (hy : partK b c = (y : Int)) (hz : partK a c = (z : Int)) : min x y ≤ z ∧ (x = y ∨ z = min x y) := by
  rcases partK_spec a b with ⟨e, _⟩ | ⟨x', e, hx1, hx2, hx3⟩
  · omega
  obtain rfl : x' = x := by omega
  rcases partK_spec b c with ⟨e2, _⟩ | ⟨y', e2, hy1, hy2, hy3⟩
  · omega
  obtain rfl : y' = y := by omega
  rcases partK_spec a c with ⟨e3, _⟩ | ⟨z', e3, hz1, hz2, hz3⟩
  · omega
  obtain rfl : z' = z := by omega
  constructor
  · by_cases h : min x' y' ≤ z'
    · exact h
    · exact absurd ((hx2 z' (by omega)).trans (hy2 z' (by omega))) hz3
  · by_cases he : x' = y'
    · exact .inl he
    · right
      by_cases hlt : x' < y'
      · have hd : kbit a x' ≠ kbit c x' := fun e => hx3 (e.trans (hy2 x' hlt).symm)
        have : ¬ x' < z' := fun h => hd (hz2 x' h)
        have : ¬ z' < x' := fun h => hz3 ((hx2 z' h).trans (hy2 z' (by omega)))
        omega
      · have hd : kbit a y' ≠ kbit c y' := fun e => hy3 ((hx2 y' (by omega)).symm.trans e)
        have : ¬ y' < z' := fun h => hd (hz2 y' h)
        have : ¬ z' < y' := fun h => hz3 ((hx2 z' (by omega)).trans (hy2 z' h))
        omega
theorem less_cons (x y : UInt8) (a b : List UInt8) : Op.bytesLess (x :: a) (y :: b) = (decide (x < y) || (x == y && Op.bytesLess a b)) := by
  simp [Op.bytesLess]
theorem less_drop : ∀ (p : Nat) (a b : List UInt8), (∀ i, i < p → i < a.length ∧ i < b.length ∧ a.getD i 0 = b.getD i 0) → Op.bytesLess a b = Op.bytesLess (a.drop p) (b.drop p)
  | 0, a, b, _ => by simp
  | p + 1, [], b, h => by have := (h 0 (by omega)).1; simp at this
  | p + 1, x :: a, [], h => by have := (h 0 (by omega)).2.1; simp at this
  | p + 1, x :: a, y :: b, h => by
    have h0 := (h 0 (by omega)).2.2
    simp at h0
    subst h0
    rw [less_cons, List.drop_succ_cons, List.drop_succ_cons, ← less_drop p a b fun i hi => by
      have := h (i + 1) (by omega)
      simp at this
      simpa using this]
    simp
theorem less_nil (a : List UInt8) : Op.bytesLess a [] = false := by cases a <;> rfl
theorem drop_head (a : List UInt8) (p : Nat) (h : p < a.length) : a.drop p = a.getD p 0 :: a.drop (p + 1) := by
  rw [List.drop_eq_getElem_cons h]; simp [h]
theorem lt_of_bit (x y j : Nat) (hx : x.testBit j = false) (hy : y.testBit j = true) (h : ∀ i, j < i → x.testBit i = y.testBit i) : x < y := by
  have hq : x / 2 ^ (j + 1) = y / 2 ^ (j + 1) := by
    apply Nat.eq_of_testBit_eq
    intro i
    rw [Nat.testBit_div_two_pow, Nat.testBit_div_two_pow]
    exact h _ (by omega)
  rw [Nat.testBit_eq_decide_div_mod_eq] at hx hy
  simp at hx hy
  rw [Nat.pow_succ, ← Nat.div_div_eq_div_mul, ← Nat.div_div_eq_div_mul] at hq
  exact Nat.lt_of_div_lt_div (c := 2 ^ j) (by omega)
theorem byte_less (x y : UInt8) (j : Nat) (hd : x.toNat.testBit j ≠ y.toNat.testBit j) (h : ∀ i, j < i → x.toNat.testBit i = y.toNat.testBit i) : (decide (x < y) || (x == y && false)) = y.toNat.testBit j := by
  cases hy : y.toNat.testBit j with
  | true =>
    have hx : x.toNat.testBit j = false := by
      cases hx : x.toNat.testBit j with
      | true => exact absurd (hx.trans hy.symm) hd
      | false => rfl
    have := lt_of_bit _ _ j hx hy h
    simp [UInt8.lt_iff_toNat_lt, this]
  | false =>
    have hx : x.toNat.testBit j = true := by
      cases hx : x.toNat.testBit j with
      | true => rfl
      | false => exact absurd (hx.trans hy.symm) hd
    have := lt_of_bit _ _ j hy hx (fun i hi => (h i hi).symm)
    simp [UInt8.lt_iff_toNat_lt]
    omega
/-- Of two keys that part the one with 0 there stands first. -/
theorem part_order (a b : List UInt8) (m : Nat) (h : ∀ j, j < m → kbit a j = kbit b j) (hd : kbit a m ≠ kbit b m) : kbit b m = Op.bytesLess a b := by
  have hone : m / 9 < a.length ∨ m / 9 < b.length := by
    by_cases h1 : m / 9 < a.length
    · exact .inl h1
    · by_cases h2 : m / 9 < b.length
      · exact .inr h2
      · rw [kbit_past a m (by omega), kbit_past b m (by omega)] at hd
        exact absurd rfl hd
  have hpre : ∀ i, i < m / 9 → i < a.length ∧ i < b.length ∧ a.getD i 0 = b.getD i 0 := by
    intro i hi
    have hh := h (9 * i) (by omega)
    rw [kbit_head, kbit_head] at hh
    have hl : i < a.length ∧ i < b.length := by simp at hh; omega
    refine ⟨hl.1, hl.2, byte_ext _ _ fun j hj => ?_⟩
    have := h (9 * i + (8 - j)) (by omega)
    rw [kbit_byte a i _ hl.1 (by omega) (by omega), kbit_byte b i _ hl.2 (by omega) (by omega), show 8 - (8 - j) = j by omega] at this
    exact this
  rw [less_drop (m / 9) a b hpre]
  by_cases hr : m % 9 = 0
  · have em : m = 9 * (m / 9) := by omega
    have ha := kbit_head a (m / 9)
    have hb := kbit_head b (m / 9)
    rw [← em] at ha hb
    by_cases hlb : m / 9 < b.length
    · have hla : ¬ m / 9 < a.length := fun hla => hd (by rw [ha, hb]; simp [hla, hlb])
      rw [hb, List.drop_eq_nil_of_le (by omega), drop_head b _ hlb]
      simp [hlb, Op.bytesLess]
    · rw [hb, List.drop_eq_nil_of_le (show b.length ≤ m / 9 by omega), less_nil]
      simp [hlb]
  · have hh := h (9 * (m / 9)) (by omega)
    rw [kbit_head, kbit_head] at hh
    have hl : m / 9 < a.length ∧ m / 9 < b.length := by simp at hh; omega
    have em : m = 9 * (m / 9) + m % 9 := by omega
    have ha := kbit_byte a (m / 9) (m % 9) hl.1 (by omega) (by omega)
    have hb := kbit_byte b (m / 9) (m % 9) hl.2 (by omega) (by omega)
    rw [← em] at ha hb
    rw [drop_head a _ hl.1, drop_head b _ hl.2, less_cons, hb]
    rw [ha, hb] at hd
    have hne : (a.getD (m / 9) 0 == b.getD (m / 9) 0) = false := by
      rw [beq_eq_false_iff_ne]
      intro e
      rw [e] at hd
      exact hd rfl
    rw [hne, Bool.false_and]
    have := byte_less (a.getD (m / 9) 0) (b.getD (m / 9) 0) (8 - m % 9) hd (fun i hi => by
      by_cases hi8 : i < 8
      · have := h (9 * (m / 9) + (8 - i)) (by omega)
        rw [kbit_byte a _ _ hl.1 (by omega) (by omega), kbit_byte b _ _ hl.2 (by omega) (by omega), show 8 - (8 - i) = i by omega] at this
        exact this
      · rw [Nat.testBit_lt_two_pow (Nat.lt_of_lt_of_le (a.getD (m / 9) 0).toNat_lt (Nat.pow_le_pow_right (by decide) (by omega : 8 ≤ i))), Nat.testBit_lt_two_pow (Nat.lt_of_lt_of_le (b.getD (m / 9) 0).toNat_lt (Nat.pow_le_pow_right (by decide) (by omega : 8 ≤ i)))])
    rw [Bool.and_false] at this
    exact this.symm
/-- What is wrong with a key. -/
def keyFaultF (n : Nat) : Int := if 1 ≤ n ∧ n ≤ 16 then 0 else 1
/-- The document's bit of a key. -/
def bitF (k : List UInt8) (i : Int) : Bool × Int := if 1 ≤ k.length ∧ k.length ≤ 16 then (if 0 ≤ i ∧ i ≤ 144 then (kbit k i.toNat, 0) else (false, 2)) else (false, 1)
/-- Where two keys part. -/
def partF (a b : List UInt8) : Int × Int := if 1 ≤ a.length ∧ a.length ≤ 16 then (if 1 ≤ b.length ∧ b.length ≤ 16 then (partK a b, 0) else (0, 1)) else (0, 1)

theorem partFrom_split (a b : List UInt8) (i : Nat) (hi : i ≤ 145) (h : ∀ j, j < i → kbit a j = kbit b j) : partK a b = partFrom a b (145 - i) i := by
  induction i with
  | zero => rfl
  | succ i ih =>
    rw [ih (by omega) (fun j hj => h j (by omega)), show 145 - i = (145 - (i + 1)) + 1 by omega, partFrom, if_pos (h i (by omega))]
/-- A key made of bytes. -/
def keyF (bs : List UInt8) : List UInt8 := if bs.length = 0 then [0] else bs.take 16
theorem keyF_len (bs : List UInt8) : 1 ≤ (keyF bs).length ∧ (keyF bs).length ≤ 16 := by
  unfold keyF
  by_cases h : bs.length = 0
  · rw [if_pos h]; simp
  · rw [if_neg h, List.length_take]; omega
theorem bitF_ok (k : List UInt8) (i : Nat) (hk : 1 ≤ k.length ∧ k.length ≤ 16) (hi : i < 145) : bitF k (i : Int) = (kbit k i, 0) := by
  rw [bitF, if_pos hk, if_pos (by omega)]; rfl
theorem partF_ok (a b : List UInt8) (ha : 1 ≤ a.length ∧ a.length ≤ 16) (hb : 1 ≤ b.length ∧ b.length ≤ 16) : partF a b = (partK a b, 0) := by
  rw [partF, if_pos ha, if_pos hb]
end Go.Proofs.YtdpoickggdgddabDoor

/-
  Pairs, as the document has them: what is wrong with them, what is got, put, deleted, and what lies in a range. No program is named.
-/
namespace Go.Proofs.YtdpoickggdgddabDoor
abbrev Pr := List UInt8 × List UInt8
abbrev PL := List Pr
/-- A key stands ahead of another one. -/
abbrev klt (a b : List UInt8) : Bool := Op.bytesLess a b
theorem klt_nil (a : List UInt8) : klt a [] = false := less_nil a
theorem klt_cons (x y : UInt8) (a b : List UInt8) : klt (x :: a) (y :: b) = (decide (x < y) || (x == y && klt a b)) := less_cons x y a b
theorem klt_irrefl : ∀ a : List UInt8, klt a a = false
  | [] => rfl
  | x :: a => by rw [klt_cons, klt_irrefl a]; simp
theorem klt_trans : ∀ a b c : List UInt8, klt a b = true → klt b c = true → klt a c = true
  | _, [], _, h, _ => by rw [klt_nil] at h; cases h
  | _, _ :: _, [], _, h => by rw [klt_nil] at h; cases h
  | [], _ :: _, _ :: _, _, _ => rfl
  | x :: a, y :: b, z :: c, h1, h2 => by
    rw [klt_cons] at h1 h2 ⊢
    simp only [Bool.or_eq_true, decide_eq_true_eq, Bool.and_eq_true, beq_iff_eq, UInt8.lt_iff_toNat_lt] at h1 h2 ⊢
    rcases h1 with h1 | ⟨rfl, h1⟩
    · rcases h2 with h2 | ⟨rfl, h2⟩
      · left; omega
      · left; exact h1
    · rcases h2 with h2 | ⟨rfl, h2⟩
      · left; exact h2
      · right; exact ⟨rfl, klt_trans a b c h1 h2⟩
theorem klt_total : ∀ a b : List UInt8, klt a b = false → a ≠ b → klt b a = true
  | [], [], _, h => absurd rfl h
  | [], _ :: _, h, _ => by cases h
  | _ :: _, [], _, _ => rfl
  | x :: a, y :: b, h1, h2 => by
    rw [klt_cons] at h1 ⊢
    simp only [Bool.or_eq_false_iff, decide_eq_false_iff_not, Bool.and_eq_false_iff, beq_eq_false_iff_ne, UInt8.lt_iff_toNat_lt] at h1
    simp only [Bool.or_eq_true, decide_eq_true_eq, Bool.and_eq_true, beq_iff_eq, UInt8.lt_iff_toNat_lt]
    by_cases e : y = x
    · subst e
      right
      refine ⟨rfl, klt_total a b ?_ (fun e => h2 (by rw [e]))⟩
      rcases h1.2 with h | h
      · exact absurd rfl h
      · exact h
    · left
      have : x.toNat ≠ y.toNat := fun h => e (UInt8.toNat_inj.1 h.symm)
      omega
theorem klt_asymm (a b : List UInt8) (h : klt a b = true) : klt b a = false := by
  cases hb : klt b a with
  | false => rfl
  | true => have := klt_trans a b a h hb; rw [klt_irrefl] at this; cases this
theorem klt_ne {a b : List UInt8} (h : klt a b = true) : a ≠ b := by
  rintro rfl
  rw [klt_irrefl] at h; cases h

/-- What is wrong with a pair. -/
def pairFaultF (p : Pr) : Int := if 32 < p.2.length then 1 else keyFaultF p.1.length
/-- What is wrong with the pair at a place, and with its order. -/
def faultAt (l : PL) (i : Nat) : Int :=
  if pairFaultF (l.getD i ([], [])) = 0 then (if 0 < i ∧ klt (l.getD (i - 1) ([], [])).1 (l.getD i ([], [])).1 = false then 3 else 0) else pairFaultF (l.getD i ([], []))
def faultFrom (l : PL) : Nat → Nat → Int
  | 0, _ => 0
  | n + 1, i => if faultAt l i = 0 then faultFrom l n (i + 1) else faultAt l i
/-- What is wrong with pairs. -/
def pairsFaultF (l : PL) : Int := if 60 < l.length then 1 else faultFrom l l.length 0
theorem faultFrom_split (l : PL) (n i : Nat) (hi : i ≤ n) (h : ∀ j, j < i → faultAt l j = 0) : faultFrom l n 0 = faultFrom l (n - i) i := by
  induction i with
  | zero => rfl
  | succ i ih =>
    rw [ih (by omega) (fun j hj => h j (by omega)), show n - i = (n - (i + 1)) + 1 by omega, faultFrom, if_pos (h i (by omega))]
/-- The fault that is met first. -/
theorem pairsFault_at (l : PL) (i : Nat) (hi : i < l.length) (hl : l.length ≤ 60) (h : ∀ j, j < i → faultAt l j = 0) (hf : faultAt l i ≠ 0) : pairsFaultF l = faultAt l i := by
  rw [pairsFaultF, if_neg (by omega), faultFrom_split l _ i (by omega) h, show l.length - i = (l.length - (i + 1)) + 1 by omega, faultFrom, if_neg hf]
theorem pairsFault_none (l : PL) (hl : l.length ≤ 60) (h : ∀ j, j < l.length → faultAt l j = 0) : pairsFaultF l = 0 := by
  rw [pairsFaultF, if_neg (by omega), faultFrom_split l _ l.length (Nat.le_refl _) h, Nat.sub_self, faultFrom]
theorem pairsFault_long (l : PL) (hl : 60 < l.length) : pairsFaultF l = 1 := by rw [pairsFaultF, if_pos hl]
theorem faultFrom_zero (l : PL) : ∀ (n i : Nat), faultFrom l n i = 0 → ∀ j, i ≤ j → j < i + n → faultAt l j = 0
  | 0, i, _, j, h1, h2 => by omega
  | n + 1, i, h, j, h1, h2 => by
    rw [faultFrom] at h
    by_cases e : faultAt l i = 0
    · rw [if_pos e] at h
      by_cases hj : j = i
      · subst hj; exact e
      · exact faultFrom_zero l n (i + 1) h j (by omega) (by omega)
    · rw [if_neg e] at h; exact absurd h e
/-- Pairs that rise. -/
def Rises (l : PL) : Prop := l.Pairwise fun p q => klt p.1 q.1 = true
/-- A tree. -/
structure Tree (l : PL) : Prop where
  room : l.length ≤ 60
  pairs : ∀ p ∈ l, (1 ≤ p.1.length ∧ p.1.length ≤ 16) ∧ p.2.length ≤ 32
  rises : Rises l
theorem pairFault_iff (p : Pr) : pairFaultF p = 0 ↔ (1 ≤ p.1.length ∧ p.1.length ≤ 16) ∧ p.2.length ≤ 32 := by
  unfold pairFaultF keyFaultF
  by_cases h : 32 < p.2.length
  · rw [if_pos h]; constructor
    · intro h; cases h
    · intro h; omega
  · rw [if_neg h]
    by_cases h2 : 1 ≤ p.1.length ∧ p.1.length ≤ 16
    · rw [if_pos h2]; exact ⟨fun _ => ⟨h2, by omega⟩, fun _ => rfl⟩
    · rw [if_neg h2]; constructor
      · intro h; cases h
      · intro h; exact absurd h.1 h2
theorem faultAt_iff (l : PL) (i : Nat) : faultAt l i = 0 ↔ pairFaultF (l.getD i ([], [])) = 0 ∧ (0 < i → klt (l.getD (i - 1) ([], [])).1 (l.getD i ([], [])).1 = true) := by
  unfold faultAt
  by_cases h : pairFaultF (l.getD i ([], [])) = 0
  · rw [if_pos h]
    by_cases h2 : 0 < i ∧ klt (l.getD (i - 1) ([], [])).1 (l.getD i ([], [])).1 = false
    · rw [if_pos h2]; constructor
      · intro h; cases h
      · intro h3; have := h3.2 h2.1; rw [h2.2] at this; cases this
    · rw [if_neg h2]
      refine ⟨fun _ => ⟨h, fun hi => ?_⟩, fun _ => rfl⟩
      cases hk : klt (l.getD (i - 1) ([], [])).1 (l.getD i ([], [])).1 with
      | true => rfl
      | false => exact absurd ⟨hi, hk⟩ h2
  · rw [if_neg h]; constructor
    · intro h2; exact absurd h2 h
    · intro h2; exact absurd h2.1 h
theorem rises_of_steps : ∀ l : PL, (∀ i, 0 < i → i < l.length → klt (l.getD (i - 1) ([], [])).1 (l.getD i ([], [])).1 = true) → Rises l
  | [], _ => List.Pairwise.nil
  | [_], _ => List.pairwise_singleton _ _
  | p :: q :: r, h => by
    have ih : Rises (q :: r) := rises_of_steps (q :: r) fun i h0 hi => by
      have := h (i + 1) (by omega) (by simp at hi ⊢; omega)
      rw [show i + 1 - 1 = (i - 1) + 1 by omega] at this
      simpa using this
    have h01 : klt p.1 q.1 = true := by
      have := h 1 (by omega) (by simp)
      simpa using this
    refine List.Pairwise.cons (fun x hx => ?_) ih
    rcases List.mem_cons.1 hx with rfl | hx
    · exact h01
    · exact klt_trans _ _ _ h01 ((List.pairwise_cons.1 ih).1 x hx)
theorem rises_step (l : PL) (h : Rises l) (i j : Nat) (hij : i < j) (hj : j < l.length) : klt (l.getD i ([], [])).1 (l.getD j ([], [])).1 = true := by
  have := List.pairwise_iff_getElem.1 h i j (by omega) hj hij
  simpa [hj, show i < l.length by omega] using this
theorem tree_iff (l : PL) : pairsFaultF l = 0 ↔ Tree l := by
  constructor
  · intro h
    have hl : l.length ≤ 60 := by
      by_cases hl : 60 < l.length
      · rw [pairsFault_long l hl] at h; cases h
      · omega
    rw [pairsFaultF, if_neg (by omega)] at h
    have ha := fun j (hj : j < l.length) => (faultAt_iff l j).1 (faultFrom_zero l l.length 0 h j (by omega) (by omega))
    refine ⟨hl, fun p hp => ?_, rises_of_steps l fun i h0 hi => (ha i hi).2 h0⟩
    obtain ⟨i, hi, rfl⟩ := List.mem_iff_getElem.1 hp
    have := (pairFault_iff _).1 (ha i hi).1
    simpa [hi] using this
  · intro h
    refine pairsFault_none l h.room fun j hj => (faultAt_iff l j).2 ⟨(pairFault_iff _).2 ?_, fun h0 => rises_step l h.rises _ _ (by omega) hj⟩
    have := h.pairs l[j] (List.getElem_mem hj)
    simpa [hj] using this
theorem tree_nil : Tree [] := ⟨by simp, by simp, List.Pairwise.nil⟩

/-- What is got. -/
def getF (l : PL) (k : List UInt8) : Option (List UInt8) := (l.find? fun p => p.1 == k).map (·.2)
theorem get_nil (k : List UInt8) : getF [] k = none := rfl
theorem get_cons (p : Pr) (l : PL) (k : List UInt8) : getF (p :: l) k = if p.1 = k then some p.2 else getF l k := by
  unfold getF
  by_cases h : p.1 = k
  · rw [List.find?_cons_of_pos (by simpa using h), if_pos h]; rfl
  · rw [List.find?_cons_of_neg (by simpa using h), if_neg h]
theorem get_at : ∀ (l : PL) (k : List UInt8) (i : Nat), i < l.length → (∀ j, j < i → (l.getD j ([], [])).1 ≠ k) → (l.getD i ([], [])).1 = k → getF l k = some (l.getD i ([], [])).2
  | [], _, _, h, _, _ => by simp at h
  | p :: l, k, 0, _, _, h2 => by rw [get_cons, if_pos (by simpa using h2)]; simp
  | p :: l, k, i + 1, h, h1, h2 => by
    rw [get_cons, if_neg (by simpa using h1 0 (by omega))]
    have := get_at l k i (by simpa using h) (fun j hj => by simpa using h1 (j + 1) (by omega)) (by simpa using h2)
    simpa using this
theorem get_none : ∀ (l : PL) (k : List UInt8), (∀ j, j < l.length → (l.getD j ([], [])).1 ≠ k) → getF l k = none
  | [], _, _ => rfl
  | p :: l, k, h => by
    rw [get_cons, if_neg (by simpa using h 0 (by simp))]
    exact get_none l k fun j hj => by simpa using h (j + 1) (by simpa using hj)
/-- The pairs with a pair. -/
def putL : PL → Pr → PL
  | [], p => [p]
  | q :: r, p => if klt q.1 p.1 = true then q :: putL r p else if q.1 = p.1 then p :: r else p :: q :: r
/-- One pair more, as the document goes. -/
def putStep (p : Pr) (s : PL × Bool) (q : Pr) : PL × Bool :=
  let s1 : PL × Bool := if s.2 = false ∧ klt q.1 p.1 = false then (s.1 ++ [p], true) else s
  if q.1 = p.1 then s1 else (s1.1 ++ [q], s1.2)
def putEnd (p : Pr) (s : PL × Bool) : PL := if s.2 = false then s.1 ++ [p] else s.1
theorem put_done (p : Pr) (l : PL) : ∀ out : PL, (∀ q ∈ l, q.1 ≠ p.1) → l.foldl (putStep p) (out, true) = (out ++ l, true) := by
  induction l with
  | nil => intro out _; simp
  | cons q r ih =>
    intro out h
    rw [List.foldl_cons, show putStep p (out, true) q = (out ++ [q], true) from ?_, ih _ fun x hx => h x (List.mem_cons_of_mem _ hx)]
    · simp
    · simp [putStep, h q (by simp)]
theorem put_fold (p : Pr) (l : PL) (h : Rises l) : ∀ out : PL, putEnd p (l.foldl (putStep p) (out, false)) = out ++ putL l p := by
  induction l with
  | nil => intro out; simp [putEnd, putL]
  | cons q r ih =>
    intro out
    have hr := (List.pairwise_cons.1 h)
    rw [List.foldl_cons, putL]
    by_cases h1 : klt q.1 p.1 = true
    · rw [if_pos h1, show putStep p (out, false) q = (out ++ [q], false) from ?_, ih hr.2]
      · simp
      · have := klt_ne h1
        simp [putStep, this, h1]
    · have h1' : klt q.1 p.1 = false := by simpa using h1
      rw [if_neg h1]
      by_cases h2 : q.1 = p.1
      · have hne : ∀ x ∈ r, x.1 ≠ p.1 := fun x hx e => by have := hr.1 x hx; rw [h2, e, klt_irrefl] at this; cases this
        rw [if_pos h2, show putStep p (out, false) q = (out ++ [p], true) from ?_, put_done p r _ hne]
        · simp [putEnd]
        · simp [putStep, h2, klt_irrefl]
      · have hpq := klt_total _ _ h1' h2
        have hne : ∀ x ∈ r, x.1 ≠ p.1 := fun x hx e => by
          have := hr.1 x hx
          rw [e] at this
          rw [this] at h1'; cases h1'
        rw [if_neg h2, show putStep p (out, false) q = (out ++ [p] ++ [q], true) from ?_, put_done p r _ hne]
        · simp [putEnd]
        · simp only [putStep, h1', h2, and_self, if_true, if_false]
/-- The pairs without a key. -/
def delL (l : PL) (k : List UInt8) : PL := l.filter fun q => !(q.1 == k)
/-- The pairs in a range. -/
def rangeL (l : PL) (a b : List UInt8) : PL := l.filter fun q => !klt q.1 a && !klt b q.1

theorem mem_put (l : PL) (p x : Pr) : x ∈ putL l p → x = p ∨ x ∈ l := by
  induction l with
  | nil => intro h; simp [putL] at h; exact .inl h
  | cons q r ih =>
    intro h
    rw [putL] at h
    by_cases h1 : klt q.1 p.1 = true
    · rw [if_pos h1] at h
      rcases List.mem_cons.1 h with rfl | h
      · exact .inr (by simp)
      · rcases ih h with h | h
        · exact .inl h
        · exact .inr (List.mem_cons_of_mem _ h)
    · rw [if_neg h1] at h
      by_cases h2 : q.1 = p.1
      · rw [if_pos h2] at h
        rcases List.mem_cons.1 h with h | h
        · exact .inl h
        · exact .inr (List.mem_cons_of_mem _ h)
      · rw [if_neg h2] at h
        rcases List.mem_cons.1 h with h | h
        · exact .inl h
        · exact .inr h
theorem put_rises (l : PL) (p : Pr) (h : Rises l) : Rises (putL l p) := by
  induction l with
  | nil => exact List.pairwise_singleton _ _
  | cons q r ih =>
    have hr := List.pairwise_cons.1 h
    rw [putL]
    by_cases h1 : klt q.1 p.1 = true
    · rw [if_pos h1]
      refine List.Pairwise.cons (fun x hx => ?_) (ih hr.2)
      rcases mem_put r p x hx with rfl | hx
      · exact h1
      · exact hr.1 x hx
    · rw [if_neg h1]
      by_cases h2 : q.1 = p.1
      · rw [if_pos h2]
        exact List.Pairwise.cons (fun x hx => by rw [← h2]; exact hr.1 x hx) hr.2
      · rw [if_neg h2]
        have hpq := klt_total _ _ (by simpa using h1) h2
        refine List.Pairwise.cons (fun x hx => ?_) h
        rcases List.mem_cons.1 hx with rfl | hx
        · exact hpq
        · exact klt_trans _ _ _ hpq (hr.1 x hx)
theorem get_put (l : PL) (p : Pr) (k : List UInt8) (h : Rises l) : getF (putL l p) k = if p.1 = k then some p.2 else getF l k := by
  induction l with
  | nil => rw [putL, get_cons]
  | cons q r ih =>
    have hr := List.pairwise_cons.1 h
    rw [putL]
    by_cases h1 : klt q.1 p.1 = true
    · rw [if_pos h1, get_cons, get_cons, ih hr.2]
      by_cases e : p.1 = k
      · rw [if_pos e, if_pos e, if_neg (fun e2 => klt_ne h1 (e2.trans e.symm))]
      · rw [if_neg e, if_neg e]
    · rw [if_neg h1]
      by_cases h2 : q.1 = p.1
      · rw [if_pos h2, get_cons, get_cons]
        by_cases e : p.1 = k
        · rw [if_pos e, if_pos e]
        · rw [if_neg e, if_neg e, if_neg (by rw [h2]; exact e)]
      · rw [if_neg h2, get_cons]
theorem get_del (l : PL) (k x : List UInt8) : getF (delL l k) x = if k = x then none else getF l x := by
  induction l with
  | nil => simp [delL, getF]
  | cons q r ih =>
    unfold delL at ih ⊢
    by_cases e : q.1 = k
    · rw [List.filter_cons_of_neg (by simp [e]), ih, get_cons]
      by_cases e2 : k = x
      · rw [if_pos e2, if_pos e2]
      · rw [if_neg e2, if_neg e2, if_neg (by rw [e]; exact e2)]
    · rw [List.filter_cons_of_pos (by simp [e]), get_cons, ih, get_cons]
      by_cases e2 : k = x
      · rw [if_pos e2, if_pos e2, if_neg (by rw [← e2]; exact e)]
      · rw [if_neg e2, if_neg e2]
theorem del_rises (l : PL) (k : List UInt8) (h : Rises l) : Rises (delL l k) := List.Pairwise.filter _ h
theorem range_rises (l : PL) (a b : List UInt8) (h : Rises l) : Rises (rangeL l a b) := List.Pairwise.filter _ h
theorem get_head_none (l : PL) (k : List UInt8) (h : ∀ p ∈ l, klt k p.1 = true) : getF l k = none :=
  get_none l k fun j hj e => by
    have := h l[j] (List.getElem_mem hj)
    rw [show l[j] = l.getD j ([], []) by simp [hj], e, klt_irrefl] at this
    cases this
/-- Pairs that rise are told by what is got. -/
theorem rises_ext : ∀ (l m : PL), Rises l → Rises m → (∀ k, getF l k = getF m k) → l = m
  | [], [], _, _, _ => rfl
  | [], q :: r, _, _, h => by have := h q.1; rw [get_cons, if_pos rfl] at this; cases this
  | p :: l, [], _, _, h => by have := h p.1; rw [get_cons, if_pos rfl] at this; cases this
  | p :: l, q :: r, hl, hr, h => by
    have h1 := List.pairwise_cons.1 hl
    have h2 := List.pairwise_cons.1 hr
    have hk : p.1 = q.1 := by
      cases e : klt p.1 q.1 with
      | true =>
        have := h p.1
        rw [get_cons, if_pos rfl, get_head_none (q :: r) p.1 fun x hx => by
          rcases List.mem_cons.1 hx with rfl | hx
          · exact e
          · exact klt_trans _ _ _ e (h2.1 x hx)] at this
        cases this
      | false =>
        by_cases e2 : p.1 = q.1
        · exact e2
        · have e3 := klt_total _ _ e e2
          have := h q.1
          rw [get_cons (p := q), if_pos rfl, get_head_none (p :: l) q.1 fun x hx => by
            rcases List.mem_cons.1 hx with rfl | hx
            · exact e3
            · exact klt_trans _ _ _ e3 (h1.1 x hx)] at this
          cases this
    have hv : p.2 = q.2 := by
      have := h p.1
      rw [get_cons, if_pos rfl, get_cons, if_pos hk.symm] at this
      exact Option.some.inj this
    have hp : p = q := Prod.ext hk hv
    subst hp
    congr 1
    refine rises_ext l r h1.2 h2.2 fun k => ?_
    by_cases e : p.1 = k
    · subst e
      rw [get_head_none l p.1 h1.1, get_head_none r p.1 h2.1]
    · have := h k
      rw [get_cons, get_cons, if_neg e, if_neg e] at this
      exact this
end Go.Proofs.YtdpoickggdgddabDoor
