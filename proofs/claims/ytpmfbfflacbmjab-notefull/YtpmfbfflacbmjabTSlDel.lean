/-
  slices.Delete of one tenant of the call's own, or of none.
-/
import Derived.Test.YtpmfbfflacbmjabTenRow
import Derived.Deep.RegionLaw
import Derived.Deep.RegionWith
import Derived.Handy
namespace Go.Proofs.Ytpmfbfflacbmjab
open Go.RowKit
theorem sizeTen (w : World) : (sizeOf (Try.prog.elem 26)).run Try.prog w = .ok 2 w := by kernel_rfl
theorem tslice_h (g n cap i : Nat) (hi : i ≤ cap) (W : World) : (Instr.slice 26 (.slice (some ⟨g, 0, none⟩) n cap) none (some (.int .i64 (i : Int))) none).run Try.prog W = .ok (.slice (some ⟨g, 0, none⟩) i cap) W := by
  rw [run_slice_h _ _ _ _ _ (by kernel_rfl) _ _ (by omega) (by omega), sizeTen]
  simp only [Result.andThen, Go.sliced, Int.toNat_natCast, Nat.sub_zero]
  by_cases h : cap = 0
  · rw [if_pos h]
  · rw [if_neg h]; simp [addr_add]
theorem tslice_l (g n cap j : Nat) (hj : j ≤ n) : ∃ A : Addr, (j < cap → A = ⟨g, j * 2, none⟩) ∧ ∀ W, (Instr.slice 26 (.slice (some ⟨g, 0, none⟩) n cap) (some (.int .i64 (j : Int))) none none).run Try.prog W = .ok (.slice (some A) (n - j) (cap - j)) W := by
  by_cases h : cap = j
  · refine ⟨⟨g, 0, none⟩, fun h2 => by omega, fun W => ?_⟩
    rw [run_slice_l _ _ _ _ _ (by kernel_rfl) _ _ (by omega) (by omega), sizeTen]
    simp only [Result.andThen, Go.sliced, Int.toNat_natCast]
    rw [if_pos h]
  · refine ⟨⟨g, j * 2, none⟩, fun _ => rfl, fun W => ?_⟩
    rw [run_slice_l _ _ _ _ _ (by kernel_rfl) _ _ (by omega) (by omega), sizeTen]
    simp only [Result.andThen, Go.sliced, Int.toNat_natCast]
    rw [if_neg h]; simp [addr_add]
theorem tslice_lh (g n cap i j : Nat) (hij : i ≤ j) (hj : j ≤ cap) : ∃ A : Addr, (i < cap → A = ⟨g, i * 2, none⟩) ∧ ∀ W, (Instr.slice 26 (.slice (some ⟨g, 0, none⟩) n cap) (some (.int .i64 (i : Int))) (some (.int .i64 (j : Int))) none).run Try.prog W = .ok (.slice (some A) (j - i) (cap - i)) W := by
  by_cases h : cap = i
  · refine ⟨⟨g, 0, none⟩, fun h2 => by omega, fun W => ?_⟩
    rw [run_slice_lh _ _ _ _ _ (by kernel_rfl) _ _ _ _ (by omega) (by omega) (by omega), sizeTen]
    simp only [Result.andThen, Go.sliced, Int.toNat_natCast]
    rw [if_pos h]
  · refine ⟨⟨g, i * 2, none⟩, fun _ => rfl, fun W => ?_⟩
    rw [run_slice_lh _ _ _ _ _ (by kernel_rfl) _ _ _ _ (by omega) (by omega) (by omega), sizeTen]
    simp only [Result.andThen, Go.sliced, Int.toNat_natCast]
    rw [if_neg h]; simp [addr_add]
theorem wp_clear_run (w : World) {o : Oper} {a : Act} {K : Act → World → Prop} {Q : Exit → Act → World → Prop} (d : Operand) (t : TypeId)
    (ho : o.op = .call { callee := .builtin .clear, args := #[d], argTypes := #[t] }) (v : Value) (hd : a.eval d = v) {v' : Value} {w' : World}
    (hr : (Builtin.clear_ #[t] o.type #[v]).run Try.prog w = .ok v' w') (h : K (a.put o.dst v') w') : o.wp Try.prog a w K Q := by
  unfold Oper.wp execOp
  simp only [ho, resolve, invoke, builtin, Sem.run_bind, Sem.run_pure, Result.andThen_ok, List.map_toArray, List.map_cons, List.map_nil, hd, hr]
  exact h
theorem wpList_clear_run (w : World) {ops : Array Oper} {rest : List Oper} {o : Oper} {a : Act} {Q : Exit → Act → World → Prop} (hgd : o.guard = none) (d : Operand) (t : TypeId)
    (ho : o.op = .call { callee := .builtin .clear, args := #[d], argTypes := #[t] }) (v : Value) (hd : a.eval d = v) {v' : Value} {w' : World}
    (hr : (Builtin.clear_ #[t] o.type #[v]).run Try.prog w = .ok v' w') (h : wpList Try.prog ops Q rest (a.put o.dst v') w') : wpList Try.prog ops Q (o :: rest) a w :=
  wpList_plain hgd fun _ hK => wp_clear_run w d t ho v hd hr (hK _ _ h)
theorem step_append_run {ops : Array Oper} {o : Oper} {a : Act} {w : World} {K : Act → World → Prop} {Q : Exit → Act → World → Prop} {E : Prop}
    (hg : o.guard = none) (d x : Operand) (dT sT : TypeId) (hop : o.op = Op.call { callee := Callee.builtin Builtin.append, args := #[d, x], argTypes := #[dT, sT] })
    (v u : Value) (hd : a.eval d = v) (hx : a.eval x = u) {v' : Value} {w' : World} (hr : (Builtin.append_ #[dT, sT] o.type #[v, u]).run Try.prog w = .ok v' w') (hK : K (a.put o.dst v') w') :
    if Region.wanted o (yielded ops a.tmps) = true then Oper.wp Try.prog o a w K Q else E := by
  have hw : Region.wanted o (yielded ops a.tmps) = true := by simp [Region.wanted, hg]
  rw [if_pos hw]
  unfold Oper.wp
  simp [execOp, hop, resolve, invoke, builtin, hd, hx, hr, Result.andThen]
  exact hK
set_option maxRecDepth 100000 in
set_option maxHeartbeats 1000000 in
theorem tdelete_none (w : World) (a : Option Addr) (n cap i : Nat) (hi : i ≤ n) (hn : n ≤ cap) :
    Calls Try.prog 61 #[.slice a n cap, .int .i64 (i : Int), .int .i64 (i : Int)] w fun e w' => e = .returned (.slice a n cap) ∧ w' = w := by
  have hm : ∀ W, (Instr.slice 26 (.slice a n cap) (some (.int .i64 (i : Int))) (some (.int .i64 (i : Int))) (some (.int .i64 (n : Int)))).run Try.prog W = .ok (Go.sliced a i i n 2) W := fun W => by
    rw [run_slice_lhm _ _ _ _ _ (by kernel_rfl) _ _ _ _ _ _ (by omega) (by omega) (by omega) (by omega), sizeTen]
    simp only [Result.andThen, Int.toNat_natCast]
  go_enter Try.func61, Try.ntmps61
  go_wp2
  all_goals (go_ret; exact ⟨rfl, rfl⟩)
set_option maxRecDepth 100000 in
set_option maxHeartbeats 1000000 in
theorem tdelete_one (base : Nat) (w : World) (g : Nat) (all : List VP) (l : FL) (i : Nat) (hb : BlkT w g all) (hbase : base ≤ g) (hla : l.length ≤ all.length) (hm : all.length ≤ maxLen) (he : EachT 0 w (all.take l.length) l) (hi : i < l.length) (hl : l.length ≤ 1000) :
    Calls Try.prog 61 #[.slice (some ⟨g, 0, none⟩) l.length all.length, .int .i64 (i : Int), .int .i64 ((i + 1 : Nat) : Int)] w fun e w' => ∃ v', e = .returned v' ∧ OwnT base w' v' (l.take i ++ l.drop (i + 1)) ∧ w.grownBy w' (some g) := by
  obtain ⟨n, hn⟩ : ∃ n, n = l.length := ⟨_, rfl⟩
  obtain ⟨cap, hcap⟩ : ∃ cap, cap = all.length := ⟨_, rfl⟩
  obtain ⟨j, hj⟩ : ∃ j, j = i + 1 := ⟨_, rfl⟩
  rw [← hn, ← hj]
  rw [← hn] at he hla hi hl
  have hmx : ∃ A c, ∀ W, (Instr.slice 26 (.slice (some ⟨g, 0, none⟩) n cap) (some (.int .i64 (i : Int))) (some (.int .i64 (j : Int))) (some (.int .i64 (n : Int)))).run Try.prog W = .ok (.slice A (j - i) c) W := ⟨if n = i then some ⟨g, 0, none⟩ else Option.map (fun x : Addr => x.add (i * 2)) (some ⟨g, 0, none⟩), n - i, fun W => by
    rw [run_slice_lhm _ _ _ _ _ (by kernel_rfl) _ _ _ _ _ _ (by omega) (by omega) (by omega) (by omega), sizeTen]
    simp only [Result.andThen, Int.toNat_natCast, Go.sliced]⟩
  obtain ⟨A0, c0, k0⟩ := hmx
  have k1 := tslice_h g n cap i (by omega)
  obtain ⟨A2, hA2, k2⟩ := tslice_l g n cap j (by omega)
  obtain ⟨A3, hA3, k3⟩ := tslice_lh g (n - 1) cap (n - 1) n (by omega) (by omega)
  have AP : Hid (∀ ty, (Builtin.append_ #[26, 26] ty #[.slice (some ⟨g, 0, none⟩) i cap, .slice (some A2) (n - j) (cap - j)]).run Try.prog w.drew = .ok (.slice (some ⟨g, 0, none⟩) (n - 1) cap) (rowT w.drew g (all.take i ++ (all.drop j).take (n - j) ++ all.drop (n - 1)))) := fun ty => by
    have hlen : ((all.drop j).take (n - j)).length = n - j := by simp; omega
    have := run_appendT w.drew g all ((all.drop j).take (n - j)) hb.drew ty i A2 (n - j) (cap - j) hlen (by
      by_cases hjc : j < cap
      · rw [hA2 hjc]; exact hb.drew.cellsT j (n - j)
      · intro t u ht
        rw [List.eq_nil_of_length_eq_zero (show ((all.drop j).take (n - j)).length = 0 by rw [hlen]; omega)] at ht
        simp [flat] at ht) (by omega) (by
      have h1 : OneV (all.take n) := he.oneV
      intro x hx
      refine h1 x ?_
      have e : (all.drop j).take (n - j) = (all.take n).drop j := by rw [List.drop_take]
      rw [e] at hx
      exact List.mem_of_mem_drop hx)
    rw [← hcap, show i + (n - j) = n - 1 by omega] at this
    exact this
  obtain ⟨all1, hall1⟩ : ∃ all1, all1 = all.take i ++ (all.drop j).take (n - j) ++ all.drop (n - 1) := ⟨_, rfl⟩
  rw [← hall1] at AP
  have hb1 := hb.drew.set all1
  have hlen1 : all1.length = cap := by rw [hall1]; simp; omega
  obtain ⟨W1, hW1⟩ : ∃ W1, W1 = rowT w.drew g all1 := ⟨_, rfl⟩
  rw [← hW1] at AP hb1
  have CL : Hid (∀ ty c, (Builtin.clear_ #[26] ty #[.slice (some A3) (n - (n - 1)) c]).run Try.prog W1 = .ok (.tuple #[]) (rowT W1 g (all1.take (n - 1) ++ [zeroT] ++ all1.drop (n - 1 + 1)))) := fun ty c => by
    rw [hA3 (by omega), show n - (n - 1) = 1 by omega]
    exact run_clearT W1 g all1 hb1 ty (n - 1) c (by omega)
  obtain ⟨all2, hall2⟩ : ∃ all2, all2 = all1.take (n - 1) ++ [zeroT] ++ all1.drop (n - 1 + 1) := ⟨_, rfl⟩
  rw [← hall2] at CL
  have hlen2 : all2.length = cap := by rw [hall2]; simp; omega
  have FIN : Hid (OwnT base (rowT W1 g all2) (.slice (some ⟨g, 0, none⟩) (n - 1) cap) (l.take i ++ l.drop j) ∧ w.grownBy (rowT W1 g all2) (some g)) := by
    have hg : w.grownBy (rowT W1 g all2) (some g) := grownBy_trans (by rw [hW1]; exact grownBy_trans (grownBy_any (grown_drew (grown_refl _ _))) (grown_rowT _ _ _)) (grown_rowT _ _ _)
    refine ⟨?_, hg⟩
    have hlq : (l.take i ++ l.drop j).length = n - 1 := by simp; omega
    have := ownT_row (base := base) (l := l.take i ++ l.drop j) (hb1.set all2) hbase (by omega) (by omega) (by
      have e : all2.take (l.take i ++ l.drop j).length = (all.take n).take i ++ (all.take n).drop j := by
        rw [hlq, hall2, hall1]
        rw [List.append_assoc, List.take_append_of_le_length (by simp; omega), List.take_take, Nat.min_self, List.take_append_of_le_length (by simp; omega), List.take_of_length_le (by simp; omega), List.take_take, Nat.min_eq_left (by omega), List.drop_take]
      rw [e]
      exact ((he.take i).append (he.drop j)).kept hg (hb.rowOf (Nat.zero_le _)))
    rw [hlq, hlen2] at this
    exact this
  have u1 : ((i : Int) == (j : Int)) = false := by simp; omega
  have u2 : n - 1 ≤ n := by omega
  rw [← hcap]
  have v1 : j ≤ i + 1 := by omega
  have v2 : i + 1 ≤ j := by omega
  have v3 : n ≤ cap := by omega
  have v4 : cap ≤ maxLen := by omega
  clear hall1 hall2 hA2 hA3 he hb hb1 hn hcap hj hW1 hlen1 hlen2 hm hla
  go_enter Try.func61, Try.ntmps61
  go_wp2
  go_region_law (refine step_append_run rfl _ _ 26 26 rfl _ _ (by simp [Act.eval, Act.put]) (by simp [Act.eval, Act.put]) (AP.out _) ?_)
  have CL' := CL.out
  go_wp2
  go_ret
  exact ⟨_, rfl, FIN.out.1, FIN.out.2⟩
theorem tdelete_any (base : Nat) (w : World) (v : Value) (l : FL) (i j : Nat) (h : OwnT base w v l) (hij : j = i ∨ j = i + 1) (hj : j ≤ l.length) (hl : l.length ≤ 1000) :
    Calls Try.prog 61 #[v, .int .i64 (i : Int), .int .i64 (j : Int)] w fun e w' => ∃ v', e = .returned v' ∧ OwnT base w' v' (l.take i ++ l.drop j) ∧ w.grownBy w' v.ownBlock := by
  rcases hij with rfl | rfl
  · obtain ⟨a, cap, rfl⟩ := h.shape
    have hc : l.length ≤ cap := by
      obtain ⟨a', cap', e, hc, _⟩ := h.list
      simp only [Value.slice.injEq] at e
      obtain ⟨_, _, rfl⟩ := e
      exact hc
    refine (tdelete_none w a l.length cap j hj hc).mono ?_
    rintro e w' ⟨rfl, rfl⟩
    exact ⟨_, rfl, by rw [List.take_append_drop]; exact h, grownBy_any (grown_refl _ _)⟩
  · rcases h.elim with ⟨_, rfl⟩ | ⟨g, all, rfl, hb, hg, h1, h2, h3⟩
    · simp at hj
    · exact tdelete_one base w g all l i hb hg h1 h2 h3 (by omega) hl
end Go.Proofs.Ytpmfbfflacbmjab
