/-
  The document's answer: piece.
-/
import Derived.Test.YtghjikifflpeiaaDoorRJoined
import Derived.Test.YtghjikifflpeiaaDoorBSlice
import Derived.Test.YtghjikifflpeiaaDoorTapeH
namespace Go.Proofs.YtghjikifflpeiaaDoor
open Go.RowKit
set_option maxRecDepth 100000 in
theorem piece_any (w : World) (v : Value) (b : List UInt8) (o : Option Nat) (hv : SliceIs w v b) (hl : b.length ≤ 200000) (hn : ∀ n, o = some n → n ≤ 300000) :
    Calls Tryd.prog 39 #[v, .int .i64 (atI o)] w fun e w' => ∃ x, e = .returned (.tuple #[x, .int .i64 (atI (pieceAt b o).2)]) ∧ Own w.heap.size w' x (pieceAt b o).1 ∧ w.grownBy w' none := by
  obtain ⟨a, cap, rfl⟩ := hv.shape
  cases o with
  | none =>
    rw [pieceAt_none]
    show Calls Tryd.prog 39 #[.slice a b.length cap, .int .i64 (-1)] w fun e w' => ∃ x, e = .returned (.tuple #[x, .int .i64 (-1)]) ∧ Own w.heap.size w' x [] ∧ w.grownBy w' none
    clear hv hn
    go_enter Tryd.func39, Tryd.ntmps39
    go_wp2
    go_ret2
    exact ⟨_, rfl, own_nil _ _, grown_refl _ _⟩
  | some n =>
    have hn' := hn n rfl
    show Calls Tryd.prog 39 #[.slice a b.length cap, .int .i64 (n : Int)] w fun e w' => ∃ x, e = .returned (.tuple #[x, .int .i64 (atI (pieceAt b (some n)).2)]) ∧ Own w.heap.size w' x (pieceAt b (some n)).1 ∧ w.grownBy w' none
    by_cases hlt : n < b.length
    · rw [pieceAt_some b n hlt]
      obtain ⟨pb, po, rfl, hb⟩ := hv.byte n hlt
      have c1 := hb n hlt
      have hx := (b.getD n 0).toNat_lt
      generalize hxx : (b.getD n 0).toNat = x at *
      have i0 : ¬ (n : Int) < 0 := by omega
      have i1 : ¬ (n : Int) ≥ (b.length : Int) := by omega
      by_cases hc : n + 1 + x ≤ b.length
      · rw [if_pos hc]
        obtain ⟨a1, k1, r1, r2⟩ := bslice_lh (some ⟨pb, po, none⟩) cap b (n + 1) (n + 1 + x) (by omega) hc hv.cap.1
        rw [show n + 1 + x - (n + 1) = x by omega] at r1 r2
        have hlen : ((b.take (n + 1 + x)).drop (n + 1)).length = x := by simp only [List.length_drop, List.length_take]; omega
        have JN : Hid (Calls Tryd.prog 37 #[.slice a1 x k1, .slice none 0 0] w fun e w' => ∃ v', e = .returned v' ∧ Own w.heap.size w' v' ((b.take (n + 1 + x)).drop (n + 1)) ∧ w.grownBy w' none) := by
          have := joined_gen w _ _ _ _ (r2 w hv) (sliceIs_nil w) (by rw [hlen]; simp; omega)
          rw [List.append_nil] at this
          exact this
        show Calls Tryd.prog 39 #[.slice (some ⟨pb, po, none⟩) b.length cap, .int .i64 (n : Int)] w fun e w' => ∃ v, e = .returned (.tuple #[v, .int .i64 ((n + 1 + x : Nat) : Int)]) ∧ Own w.heap.size w' v ((b.take (n + 1 + x)).drop (n + 1)) ∧ w.grownBy w' none
        generalize (b.take (n + 1 + x)).drop (n + 1) = P at *
        have s1 := r1 w
        have i2 : ¬ (n : Int) + 1 + (x : Int) > (b.length : Int) := by omega
        rw [show ((n + 1 : Nat) : Int) = (n : Int) + 1 by omega, show ((n + 1 + x : Nat) : Int) = (n : Int) + 1 + (x : Int) by omega] at s1
        rw [show ((n + 1 + x : Nat) : Int) = (n : Int) + 1 + (x : Int) by omega]
        clear r1 r2 hv hb hxx hlen hn hc hlt
        go_enter Tryd.func39, Tryd.ntmps39
        go_wp2_with fail
        refine JN.out.mono ?_
        rintro e w1 ⟨v1, rfl, h1, hg1⟩
        go_wp2
        go_ret2
        exact ⟨_, rfl, h1, hg1⟩
      · rw [if_neg hc]
        have i2 : (n : Int) + 1 + (x : Int) > (b.length : Int) := by omega
        show Calls Tryd.prog 39 #[.slice (some ⟨pb, po, none⟩) b.length cap, .int .i64 (n : Int)] w fun e w' => ∃ v, e = .returned (.tuple #[v, .int .i64 (-1)]) ∧ Own w.heap.size w' v [] ∧ w.grownBy w' none
        clear hv hb hxx hn hc hlt
        go_enter Tryd.func39, Tryd.ntmps39
        go_wp2
        go_ret2
        exact ⟨_, rfl, own_nil _ _, grown_refl _ _⟩
    · rw [pieceAt_end b n (by omega)]
      show Calls Tryd.prog 39 #[.slice a b.length cap, .int .i64 (n : Int)] w fun e w' => ∃ v, e = .returned (.tuple #[v, .int .i64 (-1)]) ∧ Own w.heap.size w' v [] ∧ w.grownBy w' none
      have i1 : (n : Int) ≥ (b.length : Int) := by omega
      clear hv hn hlt
      go_enter Tryd.func39, Tryd.ntmps39
      go_wp2
      go_ret2
      exact ⟨_, rfl, own_nil _ _, grown_refl _ _⟩
end Go.Proofs.YtghjikifflpeiaaDoor
