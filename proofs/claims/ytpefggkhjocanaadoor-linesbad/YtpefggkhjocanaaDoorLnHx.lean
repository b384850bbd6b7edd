/-
  lines.hexOf, as it landed: bytes as digits of the base 16.
-/
import Derived.Test.YtpefggkhjocanaaDoorLineF
import Derived.Test.YtpefggkhjocanaaDoorStrM
import Derived.Test.YtpefggkhjocanaaDoorStepB
import Derived.Test.YtpefggkhjocanaaDoorBSlice
import Derived.Laws.MakeOwn
namespace Go.Proofs.YtpefggkhjocanaaDoor
open Go.RowKit
theorem hexL_takeP (d : List UInt8) (m : Nat) (h : m < d.length) : hexL (d.take (m + 1)) = hexL (d.take m) ++ [hexC ((d.getD m 0).toNat / 16), hexC ((d.getD m 0).toNat % 16)] := by
  rw [List.take_succ_eq_append_getElem h, show d[m] = d.getD m 0 by simp [h], hexL, List.flatMap_append]
  simp [hexL]
theorem make_room (W : World) (base n : Nat) (hn : n ≤ 100000000) (hb : base ≤ W.heap.size) :
    ∃ w', (Instr.makeSlice 34 (.int .i64 0) (.int .i64 (n : Int))).run Tryd.prog W = .ok (.slice (some ⟨W.heap.size, 0, none⟩) 0 n) w' ∧ Own base w' (.slice (some ⟨W.heap.size, 0, none⟩) 0 n) [] ∧ W.grownBy w' none := by
  obtain ⟨i0, hi, hz0, hz1, hz2⟩ := info_parts info5
  exact run_make_own W base 34 5 i0 (.int .u8 0) 1 Tryd.underlying34 hi hz0 hz1 .i64 .i64 n (by rw [hz2]; omega) (by unfold maxLen; omega) hb
def digits16 : ByteArray := ⟨#[48, 49, 50, 51, 52, 53, 54, 55, 56, 57, 97, 98, 99, 100, 101, 102]⟩
theorem and15 (c : Nat) (h : c < 256) : bits BinOp.and IntKind.u8 (c : Int) 15 = ((c % 16 : Nat) : Int) :=
  (by decide +kernel : ∀ c : Fin 256, bits BinOp.and IntKind.u8 (c.1 : Int) 15 = ((c.1 % 16 : Nat) : Int)) ⟨c, h⟩
theorem index_digits (W : World) (n : Nat) (h : n < 16) : (Instr.index 9 (.string ⟨#[48, 49, 50, 51, 52, 53, 54, 55, 56, 57, 97, 98, 99, 100, 101, 102]⟩) (.int .u8 (n : Int))).run Tryd.prog W = .ok (.int .u8 ((hexC n).toNat : Int)) W := by
  show (Instr.index 9 (.string digits16) (.int .u8 (n : Int))).run Tryd.prog W = _
  have hs : digits16.size = 16 := rfl
  rw [run_index_string W 9 digits16 .u8 (n : Int) Tryd.underlying9, dif_pos (by rw [hs]; omega)]
  have key : ∀ k : Fin 16, (digits16.data.getD k.1 0) = hexC k.1 := by decide +kernel
  have h2 := key ⟨n, h⟩
  have h3 : n < digits16.data.size := by show n < 16; exact h
  have e : digits16[((n : Int)).toNat]'(by rw [hs]; omega) = hexC n := by
    rw [← h2]
    show digits16.data[((n : Int)).toNat]'_ = _
    simp [Array.getD]
    intro hle
    rw [hs] at hle
    omega
  rw [e]
set_option maxRecDepth 100000 in
set_option maxHeartbeats 4000000 in
theorem hexOf_any (w : World) (v : Value) (d : List UInt8) (hv : SliceIs w v d) (hl : d.length ≤ 1000000) :
    Calls Tryd.prog 34 #[v] w fun e w' => e = .returned (.string (textOf (hexL d))) ∧ w.grownBy w' none := by
  obtain ⟨da, dc, rfl⟩ := hv.shape
  have HD : Hid (SliceIs w (.slice da d.length dc) d) := hv
  have wm : IntKind.i64.wrap (2 * (d.length : Int)) = ((2 * d.length : Nat) : Int) := by rw [IntKind.wrap_i64]; omega
  obtain ⟨W1, hmk, HO0, hg1⟩ := make_room w w.heap.size (2 * d.length) (by omega) (Nat.le_refl _)
  have HT : Hid (∀ m, m < d.length → hexL (d.take (m + 1)) = hexL (d.take m) ++ [hexC ((d.getD m 0).toNat / 16), hexC ((d.getD m 0).toNat % 16)]) := fun m h => hexL_takeP d m h
  have HHL : Hid (∀ m, (hexL (d.take m)).length ≤ 2000000) := fun m => by rw [hexL_len, List.length_take]; omega
  have HO : Hid (Own w.heap.size W1 (.slice (some ⟨w.heap.size, 0, none⟩) 0 (2 * d.length)) []) := HO0
  have HC : Hid (∀ W v bs, SliceIs W v bs → (convert 34 9 v).run Tryd.prog W = .ok (.string (textOf bs)) W) := conv_bytes
  rw [show ((2 * d.length : Nat) : Int) = 2 * (d.length : Int) by omega] at hmk wm
  clear hv HO0
  go_enter Tryd.func34, Tryd.ntmps34
  go_wp2_with fail
  go_loopw [3, 12] (fun bv iv wr => ∃ m : Nat, m ≤ d.length ∧ iv = .int .i64 (m : Int) ∧ Own w.heap.size wr bv (hexL (d.take m)) ∧ w.grownBy wr none) (fun _ iv _ => d.length - (intOf iv).toNat)
  case atStart => exact ⟨0, by omega, rfl, by rw [List.take_zero]; exact HO.out, hg1⟩
  case round =>
    obtain ⟨m, hm, rfl, hob, hg⟩ := hrel
    obtain ⟨ba, bc, rfl⟩ := hob.shape
    have hsz := hg.size
    have hl8 := HHL.out m
    by_cases hlt : m < d.length
    · have i1 : (m : Int) < (d.length : Int) := by omega
      obtain ⟨pb, po, rfl, hB⟩ := HD.out.byte m hlt
      have x0 := hB.grown hg (by simp) m hlt
      have HTm := HT.out m hlt
      have hc := (d.getD m 0).toNat_lt
      generalize (d.getD m 0).toNat = c at *
      obtain ⟨u, hu⟩ : ∃ u, u = c / 16 := ⟨_, rfl⟩
      obtain ⟨l, hll⟩ : ∃ l, l = c % 16 := ⟨_, rfl⟩
      rw [← hu, ← hll] at HTm
      have u16 : u < 16 := by omega
      have l16 : l < 16 := by omega
      have e1 : (c : Int) / 16 = (u : Int) := by omega
      have e2 : bits BinOp.and IntKind.u8 (c : Int) 15 = (l : Int) := by rw [and15 c hc, ← hll]
      have x1 := fun W => index_digits W u u16
      have x2 := fun W => index_digits W l l16
      have HO' : Hid (Own w.heap.size wr (.slice ba (hexL (d.take m)).length bc) (hexL (d.take m))) := hob
      generalize hexL (d.take m) = O at *
      have hgd := grown_drew (grown_refl wr none)
      have HX2 : Hid (SliceIs (wr.drew.alloc (.cells #[.int .u8 ((hexC u).toNat : Int), .int .u8 ((hexC l).toNat : Int)] 5)) (.slice (some ⟨wr.heap.size, 0, none⟩) 2 2) [hexC u, hexC l]) := two_slice wr.drew (hexC u) (hexC l) 5
      have HOd : Hid (Own w.heap.size (wr.drew.alloc (.cells #[.int .u8 ((hexC u).toNat : Int), .int .u8 ((hexC l).toNat : Int)] 5)) (.slice ba O.length bc) O) := (HO'.out.grownNone hgd).alloc _
      have hgA : w.grownBy (wr.drew.alloc (.cells #[.int .u8 ((hexC u).toNat : Int), .int .u8 ((hexC l).toNat : Int)] 5)) none := grown_alloc (grown_trans hg hgd) _
      have hszA := hgA.size
      have HTM : Hid (hexL (d.take (m + 1)) = O ++ [hexC u, hexC l]) := HTm
      generalize ((hexC u).toNat : Int) = hu' at *
      generalize ((hexC l).toNat : Int) = hl' at *
      clear hob hu hll hB hlt HHL HT HTm
      go_upto_region 5 with fail
      go_region_held3 (fun _ => True) (exact trivial)
        (first | (refine step_append_bytes (by rfl) _ _ (by rfl) w.heap.size (.slice ba O.length bc) O (by rfl) HOd.out (some ⟨wr.heap.size, 0, none⟩) 2 2 [hexC u, hexC l] (by rfl) HX2.out (by omega) hszA ?_; intro v6 w6 ho6 hg6; have hg06 := grown_own hgA HOd.out hg6))
      all_goals (
        rw [← HTM.out] at ho6
        go_wp2_with fail
        go_roundw
        case rel => exact ⟨m + 1, by omega, by go_num, ho6, hg06⟩
        case measure => simp [intOf]; omega)
    · obtain rfl : m = d.length := by omega
      have HT2 : Hid (d.take d.length = d) := List.take_length
      have HCC : Hid ((convert 34 9 (.slice ba (hexL (d.take d.length)).length bc)).run Tryd.prog wr = .ok (.string (textOf (hexL (d.take d.length)))) wr) := HC.out _ _ _ hob.slice
      have hcc := HCC.out
      rw [HT2.out] at hcc hob ⊢
      clear HT HHL HCC HT2 hob HC
      go_wp2
      go_ret
      exact ⟨rfl, hg⟩
end Go.Proofs.YtpefggkhjocanaaDoor
