/-
  lines.bytesOf, as it landed.
-/
import Derived.Test.YtpefggkhjocanaaDoorLnGF
import Derived.Test.YtpefggkhjocanaaDoorLibS
import Derived.BigQuiet
namespace Go.Proofs.YtpefggkhjocanaaDoor
open Go.RowKit Go.Shelf
theorem indexByte_any (w : World) (x : List UInt8) (c : UInt8) :
    Calls Tryd.prog 39 #[.string (textOf x), .int .u8 (c.toNat : Int)] w fun e w' => e = .returned (.int .i64 (Lib.indexByte x c)) ∧ w' = w := by
  refine (Any.strings_IndexByte layIndex (textOf x) (c.toNat : Int) w).mono ?_
  rintro e w' ⟨rfl, rfl⟩
  have e1 : ((c.toNat : Int)).toNat.toUInt8 = c := by rw [Int.toNat_natCast]; simp
  rw [e1]
  exact ⟨rfl, rfl⟩
theorem bytesF_set (d : List UInt8) (m n : Nat) (h : m < n) : (bytesF d m ++ zeros (n - m)).set m (hexZ (d.getD (2 * m) 0) (d.getD (2 * m + 1) 0)) = bytesF d (m + 1) ++ zeros (n - (m + 1)) := by
  have hl : (bytesF d m).length = m := by simp [bytesF]
  have e : zeros (n - m) = 0 :: zeros (n - (m + 1)) := by
    rw [show n - m = n - (m + 1) + 1 by omega]
    rfl
  rw [e, List.set_append_right _ _ (by omega), hl, Nat.sub_self]
  show bytesF d m ++ hexZ (d.getD (2 * m) 0) (d.getD (2 * m + 1) 0) :: zeros (n - (m + 1)) = _
  have e2 : bytesF d (m + 1) = bytesF d m ++ [hexZ (d.getD (2 * m) 0) (d.getD (2 * m + 1) 0)] := by simp [bytesF, List.range_succ]
  rw [e2, List.append_assoc]
  rfl
theorem wrap_u8 (z : Int) : (((UInt8.ofNat (IntKind.u8.wrap z).toNat).toNat : Nat) : Int) = IntKind.u8.wrap z := by
  have : 0 ≤ IntKind.u8.wrap z ∧ IntKind.u8.wrap z < 256 := by rw [IntKind.wrap_u8]; omega
  simp
  omega
theorem index_at (W : World) (x : List UInt8) (i : Nat) (h : i < x.length) (z : Int) (hz : z = (i : Int)) : (Instr.index 9 (.string (textOf x)) (.int .i64 z)).run Tryd.prog W = .ok (.int .u8 ((x.getD i 0).toNat : Int)) W := by
  subst hz
  have hs : (textOf x).size = x.length := tl_size _
  rw [run_index_string W 9 (textOf x) .i64 (i : Int) Tryd.underlying9, dif_pos (by rw [hs]; omega)]
  have e := tl_get (textOf x) i (by rw [hs]; exact h)
  rw [tl_text] at e
  simp only [Int.toNat_natCast]
  rw [e]
set_option maxRecDepth 100000 in
set_option maxHeartbeats 4000000 in
theorem bytesOf_any (w : World) (d : List UInt8) (hl : d.length ≤ 2000000) :
    Calls Tryd.prog 53 #[.string (textOf d)] w fun e w' => e = .returned (.slice (some ⟨w.heap.size, 0, none⟩) (d.length / 2) (d.length / 2)) ∧ w'.heap[w.heap.size]? = some (.cells (bytesOf (bytesF d (d.length / 2))) 5 (0, 0)) ∧ w.grownBy w' none := by
  have hs : (textOf d).size = d.length := tl_size _
  obtain ⟨n, hn⟩ : ∃ n, n = d.length / 2 := ⟨_, rfl⟩
  rw [← hn]
  have q1 : ((d.length : Int)).tdiv 2 = (n : Int) := by rw [Int.tdiv_eq_ediv_of_nonneg (by omega)]; omega
  have q2 : (d.length : Int) / 2 = (n : Int) := by omega
  have q3 : IntKind.i64.wrap (n : Int) = (n : Int) := by rw [IntKind.wrap_i64]; omega
  have mk := make_bytes w (n : Int) n rfl (by omega)
  have HN : Hid (2 * n ≤ d.length) := by show _ ≤ _; omega
  have H0 : Hid ((w.alloc (.cells (bytesOf (zeros n)) 5)).heap[w.heap.size]? = some (.cells (bytesOf (zeros n)) 5 (0, 0))) := heap_alloc_new w _
  clear hn
  go_enter Tryd.func53, Tryd.ntmps53
  go_wp2_with fail
  go_loopw [13] (fun iv wr => ∃ m : Nat, m ≤ n ∧ iv = .int .i64 (m : Int) ∧ wr.heap[w.heap.size]? = some (.cells (bytesOf (bytesF d m ++ zeros (n - m))) 5 (0, 0)) ∧ w.grownBy wr none) (fun iv _ => n - (intOf iv).toNat)
  case atStart => exact ⟨0, by omega, rfl, by rw [Nat.sub_zero]; exact H0.out, World.grownBy_alloc _ _ _⟩
  case round =>
    obtain ⟨m, hm, rfl, hB, hg⟩ := hrel
    by_cases hlt : m < n
    · have i1 : (m : Int) < (n : Int) := by omega
      have hN := HN.out
      have wm : IntKind.i64.wrap (2 * (m : Int)) = 2 * (m : Int) := by rw [IntKind.wrap_i64]; omega
      have wm1 : IntKind.i64.wrap (2 * (m : Int) + 1) = 2 * (m : Int) + 1 := by rw [IntKind.wrap_i64]; omega
      have x1 := fun W => index_at W d (2 * m) (by omega) (2 * (m : Int)) (by omega)
      have x2 := fun W => index_at W d (2 * m + 1) (by omega) (2 * (m : Int) + 1) (by omega)
      have I1 : Hid (∀ W, Calls Tryd.prog 39 #[.string ⟨#[48, 49, 50, 51, 52, 53, 54, 55, 56, 57, 97, 98, 99, 100, 101, 102]⟩, .int .u8 ((d.getD (2 * m) 0).toNat : Int)] W fun e w' => e = .returned (.int .i64 (ixH (d.getD (2 * m) 0))) ∧ w' = W) := fun W => indexByte_any W [48, 49, 50, 51, 52, 53, 54, 55, 56, 57, 97, 98, 99, 100, 101, 102] _
      have I2 : Hid (∀ W, Calls Tryd.prog 39 #[.string ⟨#[48, 49, 50, 51, 52, 53, 54, 55, 56, 57, 97, 98, 99, 100, 101, 102]⟩, .int .u8 ((d.getD (2 * m + 1) 0).toNat : Int)] W fun e w' => e = .returned (.int .i64 (ixH (d.getD (2 * m + 1) 0))) ∧ w' = W) := fun W => indexByte_any W [48, 49, 50, 51, 52, 53, 54, 55, 56, 57, 97, 98, 99, 100, 101, 102] _
      have hZ : (((hexZ (d.getD (2 * m) 0) (d.getD (2 * m + 1) 0)).toNat : Nat) : Int) = IntKind.u8.wrap (bits .or .i64 (IntKind.i64.wrap (ixH (d.getD (2 * m) 0) * 16)) (ixH (d.getD (2 * m + 1) 0))) := wrap_u8 _
      have hset := bytesF_set d m n hlt
      have hlen : (bytesF d m ++ zeros (n - m)).length = n := by simp [bytesF, zeros]; omega
      have hBy : Bytes wr w.heap.size (bytesF d m ++ zeros (n - m)) := ⟨5, hB⟩
      have y1 := hBy.cell m (by omega)
      have y2 := hBy.frozen m
      have HS : Hid (∀ x : UInt8, (wr.setCell ⟨w.heap.size, m, none⟩ (.int .u8 (x.toNat : Int))).heap[w.heap.size]? = some (.cells (bytesOf ((bytesF d m ++ zeros (n - m)).set m x)) 5 (0, 0))) := fun x => by
        simp [World.setCell, Array.getElem?_modify, hB, ← bytesOf_set]
      generalize hZZ : hexZ (d.getD (2 * m) 0) (d.getD (2 * m + 1) 0) = ZZ at *
      have HST : Hid ((bytesF d m ++ zeros (n - m)).set m ZZ = bytesF d (m + 1) ++ zeros (n - (m + 1))) := hset
      have HZ : Hid (((ZZ.toNat : Nat) : Int) = IntKind.u8.wrap (bits .or .i64 (IntKind.i64.wrap (ixH (d.getD (2 * m) 0) * 16)) (ixH (d.getD (2 * m + 1) 0)))) := hZ
      generalize ixH (d.getD (2 * m) 0) = hi at *
      generalize ixH (d.getD (2 * m + 1) 0) = lo at *
      generalize ((d.getD (2 * m) 0).toNat : Int) = av at *
      generalize ((d.getD (2 * m + 1) 0).toNat : Int) = bv at *
      clear hZ hset hZZ hBy hlen hB
      go_upto_region 5 with fail
      go_quiet (first
        | (go_at_call 39; with_reducible exact Calls.quiet_of_same (I1.out _))
        | (go_at_call 39; with_reducible exact Calls.quiet_of_same (I2.out _)))
      have z1 : (wr.drewN nq).cell? ⟨w.heap.size, m, none⟩ = some (.int .u8 (((bytesF d m ++ zeros (n - m)).getD m 0).toNat : Int)) := y1
      have z2 : (wr.drewN nq).frozen? ⟨w.heap.size, m, none⟩ = false := y2
      have HS1 : Hid (∀ x : UInt8, ((wr.drewN nq).setCell ⟨w.heap.size, m, none⟩ (.int .u8 (x.toNat : Int))).heap[w.heap.size]? = some (.cells (bytesOf ((bytesF d m ++ zeros (n - m)).set m x)) 5 (0, 0))) := HS.out
      have hgd := grown_drewN hg nq
      generalize wr.drewN nq = wd at *
      generalize (((bytesF d m ++ zeros (n - m)).getD m 0).toNat : Int) = old at *
      clear y1 y2 HS I1 I2 x1 x2
      go_wp2_with fail
      go_roundw
      case rel =>
        refine ⟨m + 1, by omega, by go_num, ?_, ?_⟩
        · have e := HS1.out ZZ
          rw [HZ.out, HST.out, IntKind.wrap_u8, show IntKind.i64.wrap (hi * 16) = wrap64 (hi * 16) by unfold wrap64; exact IntKind.wrap_i64 _] at e
          exact e
        · exact grown_setNew hgd _ (Nat.le_refl _) _ _
      case measure => simp [intOf]; omega
    · obtain rfl : m = n := by omega
      have HB : Hid (wr.heap[w.heap.size]? = some (.cells (bytesOf (bytesF d m)) 5 (0, 0))) := by
        show _ = _
        have := hB
        rw [Nat.sub_self] at this
        simpa [zeros] using this
      clear hB
      go_wp2
      go_ret
      exact ⟨rfl, HB.out, hg⟩
end Go.Proofs.YtpefggkhjocanaaDoor
