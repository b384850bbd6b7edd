/-
  slices.Replace of one tenant of the call's own, or of none, by one tenant.
-/
import Derived.Test.YtpmfbfflacbmjabTSlIns
namespace Go.Proofs.Ytpmfbfflacbmjab
open Go.RowKit
theorem rep_take (all : List VP) (x : VP) (i n : Nat) (hi : i < n) (hn : n ≤ all.length) : (all.take i ++ [x] ++ all.drop (i + 1)).take n = (all.take n).take i ++ [x] ++ (all.take n).drop (i + 1) := by
  have e : all.drop (i + 1) = (all.take n).drop (i + 1) ++ all.drop n := by
    have := congrArg (List.drop (i + 1)) (List.take_append_drop n all)
    rw [List.drop_append_of_le_length (by simp; omega)] at this
    exact this.symm
  rw [e, ← List.append_assoc, List.take_append_of_le_length (by simp; omega), List.take_of_length_le (by simp; omega), List.take_take, Nat.min_eq_left (by omega)]
/-- One tenant takes another's place: the world behind it. -/
theorem rep_fin (base : Nat) (w : World) (g : Nat) (all : List VP) (l : FL) (i nb : Nat) (x : VP) (t : Tn) (hb : BlkT w g all) (hbase : base ≤ g) (hla : l.length ≤ all.length) (hm : all.length ≤ maxLen) (he : EachT 0 w (all.take l.length) l) (hi : i < l.length)
    (hx : OneT 0 w nb x t) (W : World) (hW : BlkT W g (all.take i ++ [x] ++ all.drop (i + 1))) (hg : w.grownBy W (some g)) : OwnT base W (.slice (some ⟨g, 0, none⟩) l.length all.length) (l.take i ++ [t] ++ l.drop (i + 1)) := by
  have hlq : (l.take i ++ [t] ++ l.drop (i + 1)).length = l.length := by simp; omega
  have hla2 : (all.take i ++ [x] ++ all.drop (i + 1)).length = all.length := by simp; omega
  have := ownT_row (base := base) (l := l.take i ++ [t] ++ l.drop (i + 1)) hW hbase (by omega) (by omega) (by
    rw [hlq, rep_take all x i l.length hi hla]
    exact ((((he.take i).append (EachT.one hx.is)).append (he.drop (i + 1)))).kept hg (hb.rowOf (Nat.zero_le _)))
  rw [hlq, hla2] at this
  exact this
set_option maxRecDepth 100000 in
set_option maxHeartbeats 1000000 in
theorem treplace_last (base : Nat) (w : World) (g : Nat) (all : List VP) (l : FL) (i nb : Nat) (x : VP) (t : Tn) (hb : BlkT w g all) (hbase : base ≤ g) (hla : l.length ≤ all.length) (hm : all.length ≤ maxLen) (he : EachT 0 w (all.take l.length) l) (hi : i + 1 = l.length)
    (hx : OneT 0 w nb x t) :
    Calls Try.prog 62 #[.slice (some ⟨g, 0, none⟩) l.length all.length, .int .i64 (i : Int), .int .i64 ((i + 1 : Nat) : Int), .slice (some ⟨nb, 0, none⟩) 1 1] w fun e w' => ∃ v', e = .returned v' ∧ OwnT base w' v' (l.take i ++ [t] ++ l.drop (i + 1)) ∧ w.grownBy w' (some g) := by
  have hA := run_appendT w g all [x] hb 26 i ⟨nb, 0, none⟩ 1 1 rfl hx.cells (by omega) hx.oneV
  have hg := grown_rowT w g (all.take i ++ [x] ++ all.drop (i + 1))
  have HF : Hid (OwnT base (rowT w g (all.take i ++ [x] ++ all.drop (i + 1))) (.slice (some ⟨g, 0, none⟩) l.length all.length) (l.take i ++ [t] ++ l.drop (i + 1)) ∧ w.grownBy (rowT w g (all.take i ++ [x] ++ all.drop (i + 1))) (some g)) := ⟨rep_fin base w g all l i nb x t hb hbase hla hm he (by omega) hx _ (hb.set _) hg, hg⟩
  rw [hi] at hA
  obtain ⟨n, hn⟩ : ∃ n, n = l.length := ⟨_, rfl⟩
  obtain ⟨cap, hcap⟩ : ∃ cap, cap = all.length := ⟨_, rfl⟩
  have HA : Hid ((Builtin.append_ #[26, 26] 26 #[.slice (some ⟨g, 0, none⟩) i cap, .slice (some ⟨nb, 0, none⟩) 1 1]).run Try.prog w = .ok (.slice (some ⟨g, 0, none⟩) n cap) (rowT w g (all.take i ++ [x] ++ all.drop (i + 1)))) := by rw [hn, hcap]; rw [← hi] at hA ⊢; exact hA
  rw [← hn, ← hcap] at HF
  rw [← hn, ← hcap]
  rw [← hn] at hi hla
  rw [← hcap] at hla
  generalize rowT w g (all.take i ++ [x] ++ all.drop (i + 1)) = W at *
  generalize l.take i ++ [t] ++ l.drop (i + 1) = L at *
  obtain ⟨A1, hA1, k1⟩ := tslice_lh g n cap i (i + 1) (by omega) (by omega)
  have k2 := tslice_h g n cap i (by omega)
  obtain ⟨j, hj⟩ : ∃ j, j = i + 1 := ⟨_, rfl⟩
  rw [← hj] at k1 ⊢
  have u1 : ((i : Int) == (j : Int)) = false := by simp; omega
  have u2 : ((j : Int) == (n : Int)) = true := by simp; omega
  have u3 : i + 1 ≤ n := by omega
  have u4 : n ≤ i + 1 := by omega
  clear hA hg hb hm he hx hi hn hcap hj hA1
  go_enter Try.func62, Try.ntmps62
  go_wp2_with (at_builtin; refine Lib.wpList_append_run _ rfl _ _ _ _ rfl _ _ rfl rfl _ _ HA.out ?_)
  go_ret
  exact ⟨_, rfl, HF.out.1, HF.out.2⟩
set_option maxRecDepth 100000 in
set_option maxHeartbeats 1000000 in
theorem treplace_mid (base : Nat) (w : World) (g : Nat) (all : List VP) (l : FL) (i nb : Nat) (x : VP) (t : Tn) (hb : BlkT w g all) (hbase : base ≤ g) (hla : l.length ≤ all.length) (hm : all.length ≤ maxLen) (he : EachT 0 w (all.take l.length) l) (hi : i + 1 < l.length) (hl : l.length ≤ 1000)
    (hx : OneT 0 w nb x t) :
    Calls Try.prog 62 #[.slice (some ⟨g, 0, none⟩) l.length all.length, .int .i64 (i : Int), .int .i64 ((i + 1 : Nat) : Int), .slice (some ⟨nb, 0, none⟩) 1 1] w fun e w' => ∃ v', e = .returned v' ∧ OwnT base w' v' (l.take i ++ [t] ++ l.drop (i + 1)) ∧ w.grownBy w' (some g) := by
  obtain ⟨n, hn⟩ : ∃ n, n = l.length := ⟨_, rfl⟩
  obtain ⟨cap, hcap⟩ : ∃ cap, cap = all.length := ⟨_, rfl⟩
  obtain ⟨all1, hall1⟩ : ∃ all1, all1 = all.take i ++ [x] ++ all.drop (i + 1) := ⟨_, rfl⟩
  have hlen1 : all1.length = all.length := by rw [hall1]; simp; omega
  have C1 : Hid (∀ W, BlkT W g all → w.grownBy W none → ∀ ty dc, (Builtin.copy_ #[26, 26] ty #[.slice (some ⟨g, i * 2, none⟩) (n - i) dc, .slice (some ⟨nb, 0, none⟩) 1 1]).run Try.prog W = .ok (goInt 1) (rowT W g all1)) := fun W hW hgW ty dc => by
    rw [hall1]
    exact run_copyT W g all [x] hW ty i (n - i) dc ⟨nb, 0, none⟩ 1 1 (by simp only [Nat.min_def]; split <;> simp; omega) (fun j u hj => hgW.cell (hx.cells j u hj) (by simp)) (by simp; omega) hx.oneV
  have C2 : Hid (∀ W, BlkT W g all1 → ∀ ty dc sc, (Builtin.copy_ #[26, 26] ty #[.slice (some ⟨g, (i + 1) * 2, none⟩) (n - (i + 1)) dc, .slice (some ⟨g, (i + 1) * 2, none⟩) (n - (i + 1)) sc]).run Try.prog W = .ok (goInt ((n - (i + 1) : Nat) : Int)) W) := fun W hW ty dc sc => by
    have hlen : ((all1.drop (i + 1)).take (n - (i + 1))).length = n - (i + 1) := by simp; omega
    have h2 : all1.take (i + 1) ++ (all1.drop (i + 1)).take (n - (i + 1)) ++ all1.drop (i + 1 + ((all1.drop (i + 1)).take (n - (i + 1))).length) = all1 := by
      rw [hlen, List.append_assoc]
      have : (all1.drop (i + 1)).take (n - (i + 1)) ++ all1.drop (i + 1 + (n - (i + 1))) = all1.drop (i + 1) := by
        have := List.take_append_drop (n - (i + 1)) (all1.drop (i + 1))
        rw [List.drop_drop] at this
        exact this
      rw [this, List.take_append_drop]
    have h3 := run_copyT W g all1 ((all1.drop (i + 1)).take (n - (i + 1))) hW ty (i + 1) (n - (i + 1)) dc ⟨g, (i + 1) * 2, none⟩ (n - (i + 1)) sc (by rw [hlen]; simp only [Nat.min_def]; split <;> omega) (hW.cellsT (i + 1) _) (by omega) (by
      have h1 : OneV (all.take l.length) := he.oneV
      intro y hy
      have hy2 := List.mem_of_mem_take hy
      have e : all1.drop (i + 1) = all.drop (i + 1) := by
        rw [hall1, List.drop_append_of_le_length (by simp; omega), List.drop_eq_nil_of_le (by simp; omega), List.nil_append]
      rw [e, hn, ← List.drop_take] at hy
      exact h1 y (List.mem_of_mem_drop hy))
    rw [h2, hlen, rowT_self hW] at h3
    exact h3
  have HF : Hid (∀ W, BlkT W g all1 → w.grownBy W (some g) → OwnT base W (.slice (some ⟨g, 0, none⟩) n cap) (l.take i ++ [t] ++ l.drop (i + 1))) := fun W hW hg => by
    rw [hall1] at hW
    rw [hn, hcap]
    exact rep_fin base w g all l i nb x t hb hbase hla hm he (by omega) hx W hW hg
  rw [← hn, ← hcap]
  rw [← hn] at hi hla hl
  rw [← hcap] at hla
  have HB : Hid (BlkT w g all) := hb
  generalize l.take i ++ [t] ++ l.drop (i + 1) = L at *
  obtain ⟨A1, hA1, k1⟩ := tslice_lh g n cap i (i + 1) (by omega) (by omega)
  have k2 := tslice_h g n cap i (by omega)
  obtain ⟨A3, hA3, k3⟩ := tslice_l g n cap (i + 1) (by omega)
  obtain ⟨A4, hA4, k4⟩ := tslice_l g n cap i (by omega)
  obtain ⟨A5, hA5, k5⟩ := tslice_l g n cap n (by omega)
  have k6 := tslice_h g n cap n (by omega)
  have e3 := hA3 (by omega)
  have e4 := hA4 (by omega)
  subst e3 e4
  have HV : Hid (∀ ty a c W, (Builtin.clear_ #[26] ty #[.slice a 0 c]).run Try.prog W = .ok (.tuple #[]) W) := fun ty a c W => run_clear0 W ty a c
  obtain ⟨j, hj⟩ : ∃ j, j = i + 1 := ⟨_, rfl⟩
  rw [← hj] at k1 k3 C2 ⊢
  have u1 : ((i : Int) == (j : Int)) = false := by simp; omega
  have u2 : ((j : Int) == (n : Int)) = false := by simp; omega
  have u3 : i + 1 ≤ j := by omega
  have u4 : j ≤ i + 1 := by omega
  have u5 : j < n := by omega
  have hw1 : IntKind.i64.wrap ((i : Int) + 1) = (j : Int) := by rw [IntKind.wrap_i64]; omega
  have hw2 : IntKind.i64.wrap ((j : Int) + ((n - j : Nat) : Int)) = (n : Int) := by rw [IntKind.wrap_i64]; omega
  clear hb hm he hx hi hn hcap hj hA1 hA3 hA4 hA5 hall1 hlen1
  go_enter Try.func62, Try.ntmps62
  go_wp2
  go_region
  have c1 := C1.out _ (show BlkT w.drew g all from HB.out) (grown_drew (grown_refl w none))
  have b1 : BlkT (rowT w.drew g all1) g all1 := BlkT.set (w := w.drew) HB.out all1
  have HG : Hid (w.grownBy (rowT w.drew g all1) (some g)) := grownBy_trans (grownBy_any (grown_drew (grown_refl _ _))) (grown_rowT _ _ _)
  have HB1 : Hid (BlkT (rowT w.drew g all1) g all1) := b1
  clear b1
  generalize rowT w.drew g all1 = W1 at *
  go_wp2
  have c2 := C2.out W1.drew HB1.out
  have hv := HV.out
  go_region
  go_wp2
  go_ret
  have hgf : w.grownBy W1.drew (some g) := grownBy_trans HG.out (grownBy_any (grown_drew (grown_refl _ _)))
  exact ⟨_, rfl, HF.out _ HB1.out hgf, hgf⟩
set_option maxRecDepth 100000 in
set_option maxHeartbeats 1000000 in
theorem treplace_new (w : World) (a : Option Addr) (n cap i nb : Nat) (hi : i ≤ n) (hn : n ≤ cap) (Q : Value → World → Prop) (IN : Calls Try.prog 74 #[.slice a n cap, .int .i64 (i : Int), .slice (some ⟨nb, 0, none⟩) 1 1] w fun e w' => ∃ v', e = .returned v' ∧ Q v' w') (hQ : ∀ v' w', Q v' w' → ∃ a n c, v' = .slice a n c) :
    Calls Try.prog 62 #[.slice a n cap, .int .i64 (i : Int), .int .i64 (i : Int), .slice (some ⟨nb, 0, none⟩) 1 1] w fun e w' => ∃ v', e = .returned v' ∧ Q v' w' := by
  have k1 : ∃ A c, ∀ W, (Instr.slice 26 (.slice a n cap) (some (.int .i64 (i : Int))) (some (.int .i64 (i : Int))) none).run Try.prog W = .ok (.slice A (i - i) c) W := ⟨if cap = i then a else a.map (fun x : Addr => x.add (i * 2)), cap - i, fun W => by
    rw [run_slice_lh _ _ _ _ _ (by kernel_rfl) _ _ _ _ (by omega) (by omega) (by omega), sizeTen]
    simp only [Result.andThen, Int.toNat_natCast, Go.sliced]⟩
  obtain ⟨A1, c1, k1⟩ := k1
  have HI : Hid (Calls Try.prog 74 #[.slice a n cap, .int .i64 (i : Int), .slice (some ⟨nb, 0, none⟩) 1 1] w fun e w' => ∃ v', e = .returned v' ∧ Q v' w') := IN
  clear IN
  go_enter Try.func62, Try.ntmps62
  go_wp2_with fail
  refine HI.out.mono ?_
  rintro e w1 ⟨v1, rfl, h1⟩
  obtain ⟨a1, n1, c1', rfl⟩ := hQ _ _ h1
  go_wp2
  go_ret
  exact ⟨_, rfl, h1⟩
theorem treplace_any (base : Nat) (w : World) (v : Value) (l : FL) (i j nb : Nat) (x : VP) (t : Tn) (h : OwnT base w v l) (hij : j = i ∨ j = i + 1) (hj : j ≤ l.length) (hl : l.length ≤ 900) (hx : OneT 0 w nb x t) (hne : v.ownBlock ≠ some nb) (hbase : base ≤ w.heap.size) :
    Calls Try.prog 62 #[v, .int .i64 (i : Int), .int .i64 (j : Int), .slice (some ⟨nb, 0, none⟩) 1 1] w fun e w' => ∃ v', e = .returned v' ∧ OwnT base w' v' (l.take i ++ [t] ++ l.drop j) ∧ w.grownBy w' v.ownBlock := by
  rcases hij with rfl | rfl
  · obtain ⟨a, cap, rfl⟩ := h.shape
    have hc : l.length ≤ cap := by
      obtain ⟨a', cap', e, hc, _⟩ := h.list
      simp only [Value.slice.injEq] at e
      obtain ⟨_, _, rfl⟩ := e
      exact hc
    refine treplace_new w a l.length cap j nb hj hc (fun v' w' => OwnT base w' v' (l.take j ++ [t] ++ l.drop j) ∧ w.grownBy w' (Value.ownBlock (.slice a l.length cap))) ?_ (fun v' w' h => by obtain ⟨a, c, e⟩ := h.1.shape; exact ⟨_, _, _, e⟩)
    by_cases hjl : j = l.length
    · subst hjl
      have := tinsert_end base w _ l nb x t h hx hbase (by omega)
      rw [List.take_length, List.drop_length, List.append_nil]
      exact this
    · rcases h.elim with ⟨_, rfl⟩ | ⟨g, all, e, hb, hg, h1, h2, h3⟩
      · simp at hj hjl; omega
      · simp only [Value.slice.injEq] at e
        obtain ⟨rfl, _, rfl⟩ := e
        by_cases hroom : l.length + 1 ≤ all.length
        · exact tinsert_shift base w g all l j nb x t hb hg h2 h3 (by omega) (by omega) hx (fun e => hne (by simp [Value.ownBlock, e])) hroom
        · exact tinsert_grow base w g all l j nb x t hb hg h1 h3 (by omega) (by omega) hx (by omega)
  · rcases h.elim with ⟨_, rfl⟩ | ⟨g, all, rfl, hb, hg, h1, h2, h3⟩
    · simp at hj
    · by_cases hlast : i + 1 = l.length
      · exact treplace_last base w g all l i nb x t hb hg h1 h2 h3 hlast hx
      · exact treplace_mid base w g all l i nb x t hb hg h1 h2 h3 (by omega) (by omega) hx
end Go.Proofs.Ytpmfbfflacbmjab
