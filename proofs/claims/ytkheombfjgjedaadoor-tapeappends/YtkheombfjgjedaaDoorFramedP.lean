/-
  tape.framed, as it landed: a commit's bytes as they stand on a tape.
-/
import Derived.Test.YtkheombfjgjedaaDoorConcatP
import Derived.Test.YtkheombfjgjedaaDoorTapeFour
import Derived.Test.YtkheombfjgjedaaDoorPart2
import Derived.Test.YtkheombfjgjedaaDoorPart3
namespace Go.Proofs.YtkheombfjgjedaaDoor
open Go.RowKit
theorem alloc_namedF (w : World) (o : Obj) : ∃ W : World, Hid (W = w.alloc o) ∧ w.grownBy W none ∧ Hid (W.heap[w.heap.size]? = some o) := ⟨w.alloc o, rfl, World.grownBy_alloc _ _ _, heap_alloc_new w o⟩
theorem two_cellsF {w : World} {b : Nat} {x y : Value} {t : TypeId} (h : w.heap[b]? = some (.cells #[x, y] t)) : w.cell? ⟨b, 0, none⟩ = some x ∧ w.cell? ⟨b, 1, none⟩ = some y ∧ w.frozen? ⟨b, 0, none⟩ = false ∧ w.frozen? ⟨b, 1, none⟩ = false := by
  refine ⟨?_, ?_, ?_, ?_⟩ <;> simp [World.cell?, World.frozen?, h]
def wholeF (b : List UInt8) : List UInt8 := lenB b ++ fourF (lenB b)
theorem wholeF_len (b : List UInt8) : (wholeF b).length = b.length + 6 := by
  unfold wholeF
  rw [List.length_append, lenB_len, fourF_len]
set_option maxRecDepth 100000 in
set_option maxHeartbeats 1000000 in
theorem framed_any (w : World) (v : Value) (b : List UInt8) (hv : SliceIs w v b) (hl : b.length ≤ 900000) (ht : Tabs w) :
    Calls Tryd.prog 12 #[v] w fun e w' => ∃ x, e = .returned (.tuple #[x, .int .i64 (if b.length + 2 ≤ 4000 then 0 else 1)]) ∧ Own w.heap.size w' x (if b.length + 2 ≤ 4000 then wholeF b else []) ∧ w.grownBy w' none := by
  obtain ⟨a, cap, rfl⟩ := hv.shape
  obtain ⟨x0, hx0⟩ : ∃ x : Int, x = ((UInt8.ofNat (b.length / 256)).toNat : Int) := ⟨_, rfl⟩
  obtain ⟨x1, hx1⟩ : ∃ x : Int, x = ((UInt8.ofNat (b.length % 256)).toNat : Int) := ⟨_, rfl⟩
  obtain ⟨W0, HW0, hg0, B0⟩ := alloc_namedF w (.cells #[.int .u8 x0, .int .u8 x1] 5)
  obtain ⟨W1, HW1, hg1, B1⟩ := alloc_namedF W0 (.cells #[.slice (some ⟨w.heap.size, 0, none⟩) 2 2, .slice a b.length cap] 22)
  have hcv0 : IntKind.u8.wrap ((b.length : Int) / 256) = x0 := by
    rw [hx0]; simp [IntKind.wrap_u8]
  have hcv1 : IntKind.u8.wrap (b.length : Int) = x1 := by
    rw [hx1]; simp [IntKind.wrap_u8]
  have hg01 := grown_trans hg0 hg1
  have s0 : SliceIs W1 (.slice (some ⟨w.heap.size, 0, none⟩) 2 2) [UInt8.ofNat (b.length / 256), UInt8.ofNat (b.length % 256)] := by
    have : SliceIs W0 (.slice (some ⟨w.heap.size, 0, none⟩) 2 2) [UInt8.ofNat (b.length / 256), UInt8.ofNat (b.length % 256)] := by
      rw [HW0.out, hx0, hx1]; exact two_slice w _ _ 5
    exact this.grown hg1
  obtain ⟨c0, c1, _, _⟩ := two_cellsF B1.out
  have CC : Hid (Calls Tryd.prog 13 #[.slice (some ⟨W0.heap.size, 0, none⟩) 2 2] W1 fun e w' => ∃ v', e = .returned v' ∧ Own W1.heap.size w' v' (lenB b) ∧ W1.grownBy w' none) := concat_any W1 W0.heap.size _ _ _ b c0 c1 s0 (hv.grown hg01) (by simp; omega)
  have hWs : W0.heap.size = w.heap.size + 1 := by rw [HW0.out]; simp
  rw [hWs] at CC
  clear hWs
  have hlb := lenB_len b
  have ht1 : Tabs W1 := ht.grownNone hg01
  have hsz1 := hg01.size
  unfold wholeF
  obtain ⟨L, hL⟩ : ∃ L, L = lenB b := ⟨_, rfl⟩
  rw [← hL] at CC hlb ⊢
  clear c0 c1 s0 hx0 hx1 hv ht
  by_cases h4 : b.length + 2 ≤ 4000
  · rw [if_pos h4, if_pos h4]
    have SM : Hid (∀ w' x, SliceIs w' x L → Tabs w' → Calls Tryd.prog 22 #[x] w' fun e w'' => ∃ nb, w'.heap.size ≤ nb ∧ e = .returned (.tuple #[.slice (some ⟨nb, 0, none⟩) 32 32, .int .i64 0]) ∧ Bytes w'' nb (sumF L) ∧ w'.grownBy w'' none) := fun w' x h1 h2 => sum_any w' x L h1 (by omega) h2
    have hfl := fourF_len L
    have HF : Hid (fourF L = (sumF L).take 4) := rfl
    have hsl := sumF_len L
    generalize fourF L = FL at *
    generalize sumF L = SL at *
    clear hL
    go_enter Tryd.func12, Tryd.ntmps12
    go_wp2_with fail
    rw [← HW0.out, ← HW1.out]
    refine CC.out.mono ?_
    rintro e w2 ⟨v2, rfl, ho2, hg2⟩
    obtain ⟨a2, n2, c2, rfl⟩ := Own.anyC ho2
    have O2 : Hid (Own W1.heap.size w2 (.slice a2 n2 c2) L) := ho2
    have ht2 := ht1.grownNone hg2
    clear ho2
    go_wp2_with fail
    refine (SM.out _ _ O2.out.slice ht2).mono ?_
    rintro e w3 ⟨nb, hnb, rfl, hbs, hg3⟩
    have O3 : Hid (Own W1.heap.size w3 (.slice a2 n2 c2) L) := O2.out.grownNone hg3
    have S3 : Hid (SliceIs w3 (.slice (some ⟨nb, 0, none⟩) 4 32) FL) := by
      show SliceIs _ _ _
      rw [HF.out]
      exact (hbs.slice32 hsl).take 4 (by omega)
    have sl : ∀ W, (Instr.slice 22 (.slice (some ⟨nb, 0, none⟩) 32 32) none (some (.int .i64 4)) none).run Tryd.prog W = .ok (.slice (some ⟨nb, 0, none⟩) 4 32) W := fun W => slice_h W nb 0 32 32 4 4 rfl (by omega) (by omega)
    have sl3 := sl w3
    have hg13 := grown_trans hg2 hg3
    have hsz3 := hg13.size
    clear hbs ht2 sl
    go_wp2_with (at_builtin; refine wpList_append_bytes rfl (.tmp 26) (.tmp 28) rfl W1.heap.size (.slice a2 n2 c2) L rfl O3.out (some ⟨nb, 0, none⟩) 4 32 FL rfl S3.out ?_ hsz3 ?_; omega; intro v4 w4 ho4 hg4; have hgw4 : W1.grownBy w4 none := grown_own hg13 O3.out hg4; have H4 : Hid (Own W1.heap.size w4 v4 (L ++ FL)) := ho4)
    go_ret2
    exact ⟨_, rfl, own_mono H4.out hsz1, grown_trans hg01 hgw4⟩
  · rw [if_neg h4, if_neg h4]
    have HLL : Hid (4000 < L.length) := by show _ < _; omega
    clear hL hlb
    go_enter Tryd.func12, Tryd.ntmps12
    go_wp2_with fail
    rw [← HW0.out, ← HW1.out]
    refine CC.out.mono ?_
    rintro e w2 ⟨v2, rfl, ho2, hg2⟩
    obtain ⟨a2, c2, rfl⟩ := ho2.shape
    have SL : Hid (Calls Tryd.prog 22 #[.slice a2 L.length c2] w2 fun e w' => e = .returned (.tuple #[.slice none 0 0, .int .i64 1]) ∧ w' = w2) := sum_long w2 a2 L.length c2 HLL.out
    clear ho2
    go_wp2_with fail
    refine SL.out.mono ?_
    rintro e w3 ⟨rfl, rfl⟩
    go_wp2
    go_ret2
    exact ⟨_, rfl, own_nil _ _, grown_trans hg01 hg2⟩
end Go.Proofs.YtkheombfjgjedaaDoor
