/-
  Texts of this proof, joined: TSlDel, TSlIns, TSlRep.
-/
import Derived.Test.YtpmfbfflacbmjacPart6
import Derived.Deep.RegionLaw
import Derived.Deep.RegionWith
import Derived.Handy
import Derived.Lib.Overlaps
import Derived.Laws.Externs
/-
  slices.Delete of one tenant of the call's own, or of none.
-/
namespace Go.Proofs.Ytpmfbfflacbmjac
open Go.RowKit
theorem sizeTen (w : World) : (sizeOf (Try.prog.elem 35)).run Try.prog w = .ok 2 w := by kernel_rfl
theorem tslice_h (g n cap i : Nat) (hi : i ≤ cap) (W : World) : (Instr.slice 35 (.slice (some ⟨g, 0, none⟩) n cap) none (some (.int .i64 (i : Int))) none).run Try.prog W = .ok (.slice (some ⟨g, 0, none⟩) i cap) W := by
  rw [run_slice_h _ _ _ _ _ (by kernel_rfl) _ _ (by omega) (by omega), sizeTen]
  simp only [Result.andThen, Go.sliced, Int.toNat_natCast, Nat.sub_zero]
  by_cases h : cap = 0
  · rw [if_pos h]
  · rw [if_neg h]; simp [addr_add]
theorem tslice_l (g n cap j : Nat) (hj : j ≤ n) : ∃ A : Addr, (j < cap → A = ⟨g, j * 2, none⟩) ∧ ∀ W, (Instr.slice 35 (.slice (some ⟨g, 0, none⟩) n cap) (some (.int .i64 (j : Int))) none none).run Try.prog W = .ok (.slice (some A) (n - j) (cap - j)) W := by
  by_cases h : cap = j
  · refine ⟨⟨g, 0, none⟩, fun h2 => by omega, fun W => ?_⟩
    rw [run_slice_l _ _ _ _ _ (by kernel_rfl) _ _ (by omega) (by omega), sizeTen]
    simp only [Result.andThen, Go.sliced, Int.toNat_natCast]
    rw [if_pos h]
  · refine ⟨⟨g, j * 2, none⟩, fun _ => rfl, fun W => ?_⟩
    rw [run_slice_l _ _ _ _ _ (by kernel_rfl) _ _ (by omega) (by omega), sizeTen]
    simp only [Result.andThen, Go.sliced, Int.toNat_natCast]
    rw [if_neg h]; simp [addr_add]
theorem tslice_lh (g n cap i j : Nat) (hij : i ≤ j) (hj : j ≤ cap) : ∃ A : Addr, (i < cap → A = ⟨g, i * 2, none⟩) ∧ ∀ W, (Instr.slice 35 (.slice (some ⟨g, 0, none⟩) n cap) (some (.int .i64 (i : Int))) (some (.int .i64 (j : Int))) none).run Try.prog W = .ok (.slice (some A) (j - i) (cap - i)) W := by
  by_cases h : cap = i
  · refine ⟨⟨g, 0, none⟩, fun h2 => by omega, fun W => ?_⟩
    rw [run_slice_lh _ _ _ _ _ (by kernel_rfl) _ _ _ _ (by omega) (by omega) (by omega), sizeTen]
    simp only [Result.andThen, Go.sliced, Int.toNat_natCast]
    rw [if_pos h]
  · refine ⟨⟨g, i * 2, none⟩, fun _ => rfl, fun W => ?_⟩
    rw [run_slice_lh _ _ _ _ _ (by kernel_rfl) _ _ _ _ (by omega) (by omega) (by omega), sizeTen]
    simp only [Result.andThen, Go.sliced, Int.toNat_natCast]
    rw [if_neg h]; simp [addr_add]
theorem wp_clear_run (w : World) {o : Oper} {a : Act} {K : Act → World → Prop} {Q : Exit → Act → World → Prop} (d : Operand) (t : TypeId)
    (ho : o.op = .call { callee := .builtin .clear, args := #[d], argTypes := #[t] }) (v : Value) (hd : a.eval d = v) {v' : Value} {w' : World}
    (hr : (Builtin.clear_ #[t] o.type #[v]).run Try.prog w = .ok v' w') (h : K (a.put o.dst v') w') : o.wp Try.prog a w K Q := by
  unfold Oper.wp execOp
  simp only [ho, resolve, invoke, builtin, Sem.run_bind, Sem.run_pure, Result.andThen_ok, List.map_toArray, List.map_cons, List.map_nil, hd, hr]
  exact h
theorem wpList_clear_run (w : World) {ops : Array Oper} {rest : List Oper} {o : Oper} {a : Act} {Q : Exit → Act → World → Prop} (hgd : o.guard = none) (d : Operand) (t : TypeId)
    (ho : o.op = .call { callee := .builtin .clear, args := #[d], argTypes := #[t] }) (v : Value) (hd : a.eval d = v) {v' : Value} {w' : World}
    (hr : (Builtin.clear_ #[t] o.type #[v]).run Try.prog w = .ok v' w') (h : wpList Try.prog ops Q rest (a.put o.dst v') w') : wpList Try.prog ops Q (o :: rest) a w :=
  wpList_plain hgd fun _ hK => wp_clear_run w d t ho v hd hr (hK _ _ h)
theorem step_append_run {ops : Array Oper} {o : Oper} {a : Act} {w : World} {K : Act → World → Prop} {Q : Exit → Act → World → Prop} {E : Prop}
    (hg : o.guard = none) (d x : Operand) (dT sT : TypeId) (hop : o.op = Op.call { callee := Callee.builtin Builtin.append, args := #[d, x], argTypes := #[dT, sT] })
    (v u : Value) (hd : a.eval d = v) (hx : a.eval x = u) {v' : Value} {w' : World} (hr : (Builtin.append_ #[dT, sT] o.type #[v, u]).run Try.prog w = .ok v' w') (hK : K (a.put o.dst v') w') :
    if Region.wanted o (yielded ops a.tmps) = true then Oper.wp Try.prog o a w K Q else E := by
  have hw : Region.wanted o (yielded ops a.tmps) = true := by simp [Region.wanted, hg]
  rw [if_pos hw]
  unfold Oper.wp
  simp [execOp, hop, resolve, invoke, builtin, hd, hx, hr, Result.andThen]
  exact hK
set_option maxRecDepth 100000 in
set_option maxHeartbeats 1000000 in
theorem tdelete_none (w : World) (a : Option Addr) (n cap i : Nat) (hi : i ≤ n) (hn : n ≤ cap) :
    Calls Try.prog 68 #[.slice a n cap, .int .i64 (i : Int), .int .i64 (i : Int)] w fun e w' => e = .returned (.slice a n cap) ∧ w' = w := by
  have hm : ∀ W, (Instr.slice 35 (.slice a n cap) (some (.int .i64 (i : Int))) (some (.int .i64 (i : Int))) (some (.int .i64 (n : Int)))).run Try.prog W = .ok (Go.sliced a i i n 2) W := fun W => by
    rw [run_slice_lhm _ _ _ _ _ (by kernel_rfl) _ _ _ _ _ _ (by omega) (by omega) (by omega) (by omega), sizeTen]
    simp only [Result.andThen, Int.toNat_natCast]
  go_enter Try.func68, Try.ntmps68
  go_wp2
  all_goals (go_ret; exact ⟨rfl, rfl⟩)
set_option maxRecDepth 100000 in
set_option maxHeartbeats 1000000 in
theorem tdelete_one (base : Nat) (w : World) (g : Nat) (all : List VP) (l : FL) (i : Nat) (hb : BlkT w g all) (hbase : base ≤ g) (hla : l.length ≤ all.length) (hm : all.length ≤ maxLen) (he : EachT 0 w (all.take l.length) l) (hi : i < l.length) (hl : l.length ≤ 1000) :
    Calls Try.prog 68 #[.slice (some ⟨g, 0, none⟩) l.length all.length, .int .i64 (i : Int), .int .i64 ((i + 1 : Nat) : Int)] w fun e w' => ∃ v', e = .returned v' ∧ OwnT base w' v' (l.take i ++ l.drop (i + 1)) ∧ w.grownBy w' (some g) := by
  obtain ⟨n, hn⟩ : ∃ n, n = l.length := ⟨_, rfl⟩
  obtain ⟨cap, hcap⟩ : ∃ cap, cap = all.length := ⟨_, rfl⟩
  obtain ⟨j, hj⟩ : ∃ j, j = i + 1 := ⟨_, rfl⟩
  rw [← hn, ← hj]
  rw [← hn] at he hla hi hl
  have hmx : ∃ A c, ∀ W, (Instr.slice 35 (.slice (some ⟨g, 0, none⟩) n cap) (some (.int .i64 (i : Int))) (some (.int .i64 (j : Int))) (some (.int .i64 (n : Int)))).run Try.prog W = .ok (.slice A (j - i) c) W := ⟨if n = i then some ⟨g, 0, none⟩ else Option.map (fun x : Addr => x.add (i * 2)) (some ⟨g, 0, none⟩), n - i, fun W => by
    rw [run_slice_lhm _ _ _ _ _ (by kernel_rfl) _ _ _ _ _ _ (by omega) (by omega) (by omega) (by omega), sizeTen]
    simp only [Result.andThen, Int.toNat_natCast, Go.sliced]⟩
  obtain ⟨A0, c0, k0⟩ := hmx
  have k1 := tslice_h g n cap i (by omega)
  obtain ⟨A2, hA2, k2⟩ := tslice_l g n cap j (by omega)
  obtain ⟨A3, hA3, k3⟩ := tslice_lh g (n - 1) cap (n - 1) n (by omega) (by omega)
  have AP : Hid (∀ ty, (Builtin.append_ #[35, 35] ty #[.slice (some ⟨g, 0, none⟩) i cap, .slice (some A2) (n - j) (cap - j)]).run Try.prog w.drew = .ok (.slice (some ⟨g, 0, none⟩) (n - 1) cap) (rowT w.drew g (all.take i ++ (all.drop j).take (n - j) ++ all.drop (n - 1)))) := fun ty => by
    have hlen : ((all.drop j).take (n - j)).length = n - j := by simp; omega
    have := run_appendT w.drew g all ((all.drop j).take (n - j)) hb.drew ty i A2 (n - j) (cap - j) hlen (by
      by_cases hjc : j < cap
      · rw [hA2 hjc]; exact hb.drew.cellsT j (n - j)
      · intro t u ht
        rw [List.eq_nil_of_length_eq_zero (show ((all.drop j).take (n - j)).length = 0 by rw [hlen]; omega)] at ht
        simp [flat] at ht) (by omega) (by
      have h1 : OneV (all.take n) := he.oneV
      intro x hx
      refine h1 x ?_
      have e : (all.drop j).take (n - j) = (all.take n).drop j := by rw [List.drop_take]
      rw [e] at hx
      exact List.mem_of_mem_drop hx)
    rw [← hcap, show i + (n - j) = n - 1 by omega] at this
    exact this
  obtain ⟨all1, hall1⟩ : ∃ all1, all1 = all.take i ++ (all.drop j).take (n - j) ++ all.drop (n - 1) := ⟨_, rfl⟩
  rw [← hall1] at AP
  have hb1 := hb.drew.set all1
  have hlen1 : all1.length = cap := by rw [hall1]; simp; omega
  obtain ⟨W1, hW1⟩ : ∃ W1, W1 = rowT w.drew g all1 := ⟨_, rfl⟩
  rw [← hW1] at AP hb1
  have CL : Hid (∀ ty c, (Builtin.clear_ #[35] ty #[.slice (some A3) (n - (n - 1)) c]).run Try.prog W1 = .ok (.tuple #[]) (rowT W1 g (all1.take (n - 1) ++ [zeroT] ++ all1.drop (n - 1 + 1)))) := fun ty c => by
    rw [hA3 (by omega), show n - (n - 1) = 1 by omega]
    exact run_clearT W1 g all1 hb1 ty (n - 1) c (by omega)
  obtain ⟨all2, hall2⟩ : ∃ all2, all2 = all1.take (n - 1) ++ [zeroT] ++ all1.drop (n - 1 + 1) := ⟨_, rfl⟩
  rw [← hall2] at CL
  have hlen2 : all2.length = cap := by rw [hall2]; simp; omega
  have FIN : Hid (OwnT base (rowT W1 g all2) (.slice (some ⟨g, 0, none⟩) (n - 1) cap) (l.take i ++ l.drop j) ∧ w.grownBy (rowT W1 g all2) (some g)) := by
    have hg : w.grownBy (rowT W1 g all2) (some g) := grownBy_trans (by rw [hW1]; exact grownBy_trans (grownBy_any (grown_drew (grown_refl _ _))) (grown_rowT _ _ _)) (grown_rowT _ _ _)
    refine ⟨?_, hg⟩
    have hlq : (l.take i ++ l.drop j).length = n - 1 := by simp; omega
    have := ownT_row (base := base) (l := l.take i ++ l.drop j) (hb1.set all2) hbase (by omega) (by omega) (by
      have e : all2.take (l.take i ++ l.drop j).length = (all.take n).take i ++ (all.take n).drop j := by
        rw [hlq, hall2, hall1]
        rw [List.append_assoc, List.take_append_of_le_length (by simp; omega), List.take_take, Nat.min_self, List.take_append_of_le_length (by simp; omega), List.take_of_length_le (by simp; omega), List.take_take, Nat.min_eq_left (by omega), List.drop_take]
      rw [e]
      exact ((he.take i).append (he.drop j)).kept hg (hb.rowOf (Nat.zero_le _)))
    rw [hlq, hlen2] at this
    exact this
  have u1 : ((i : Int) == (j : Int)) = false := by simp; omega
  have u2 : n - 1 ≤ n := by omega
  rw [← hcap]
  have v1 : j ≤ i + 1 := by omega
  have v2 : i + 1 ≤ j := by omega
  have v3 : n ≤ cap := by omega
  have v4 : cap ≤ maxLen := by omega
  clear hall1 hall2 hA2 hA3 he hb hb1 hn hcap hj hW1 hlen1 hlen2 hm hla
  go_enter Try.func68, Try.ntmps68
  go_wp2
  go_region_law (refine step_append_run rfl _ _ 35 35 rfl _ _ (by simp [Act.eval, Act.put]) (by simp [Act.eval, Act.put]) (AP.out _) ?_)
  have CL' := CL.out
  go_wp2
  go_ret
  exact ⟨_, rfl, FIN.out.1, FIN.out.2⟩
theorem tdelete_any (base : Nat) (w : World) (v : Value) (l : FL) (i j : Nat) (h : OwnT base w v l) (hij : j = i ∨ j = i + 1) (hj : j ≤ l.length) (hl : l.length ≤ 1000) :
    Calls Try.prog 68 #[v, .int .i64 (i : Int), .int .i64 (j : Int)] w fun e w' => ∃ v', e = .returned v' ∧ OwnT base w' v' (l.take i ++ l.drop j) ∧ w.grownBy w' v.ownBlock := by
  rcases hij with rfl | rfl
  · obtain ⟨a, cap, rfl⟩ := h.shape
    have hc : l.length ≤ cap := by
      obtain ⟨a', cap', e, hc, _⟩ := h.list
      simp only [Value.slice.injEq] at e
      obtain ⟨_, _, rfl⟩ := e
      exact hc
    refine (tdelete_none w a l.length cap j hj hc).mono ?_
    rintro e w' ⟨rfl, rfl⟩
    exact ⟨_, rfl, by rw [List.take_append_drop]; exact h, grownBy_any (grown_refl _ _)⟩
  · rcases h.elim with ⟨_, rfl⟩ | ⟨g, all, rfl, hb, hg, h1, h2, h3⟩
    · simp at hj
    · exact tdelete_one base w g all l i hb hg h1 h2 h3 (by omega) hl
end Go.Proofs.Ytpmfbfflacbmjac

/-
  slices.Insert of one tenant into a list of the call's own.
-/
namespace Go.Proofs.Ytpmfbfflacbmjac
open Go.RowKit
theorem step_copy_run {ops : Array Oper} {o : Oper} {a : Act} {w : World} {K : Act → World → Prop} {Q : Exit → Act → World → Prop} {E : Prop}
    (hg : o.guard = none) (d x : Operand) (dT sT : TypeId) (hop : o.op = Op.call { callee := Callee.builtin Builtin.copy, args := #[d, x], argTypes := #[dT, sT] })
    (v u : Value) (hd : a.eval d = v) (hx : a.eval x = u) {v' : Value} {w' : World} (hr : (Builtin.copy_ #[dT, sT] o.type #[v, u]).run Try.prog w = .ok v' w') (hK : K (a.put o.dst v') w') :
    if Region.wanted o (yielded ops a.tmps) = true then Oper.wp Try.prog o a w K Q else E := by
  have hw : Region.wanted o (yielded ops a.tmps) = true := by simp [Region.wanted, hg]
  rw [if_pos hw]
  unfold Oper.wp
  simp [execOp, hop, resolve, invoke, builtin, hd, hx, hr, Result.andThen]
  exact hK
theorem grown_rowNew {w W : World} (h : w.grownBy W none) (g : Nat) (hg : w.heap.size ≤ g) (all : List VP) : w.grownBy (rowT W g all) none := by
  have h2 := grown_rowT W g all
  exact ⟨h2.os.trans h.os, h2.tape.trans h.tape, h2.output.trans h.output, Nat.le_trans h.size h2.size, fun k hk _ => (h2.block k (Nat.lt_of_lt_of_le hk h.size) (fun e => by cases e; omega)).trans (h.block k hk (by simp))⟩
theorem ins_take (all : List VP) (x : VP) (i n : Nat) (hi : i < n) (hn : n + 1 ≤ all.length) : ((all.take (i + 1) ++ (all.drop i).take (n - i) ++ all.drop (n + 1)).take i ++ [x] ++ (all.take (i + 1) ++ (all.drop i).take (n - i) ++ all.drop (n + 1)).drop (i + 1)).take (n + 1) = (all.take n).take i ++ [x] ++ (all.take n).drop i := by
  have a1 : (all.take (i + 1) ++ (all.drop i).take (n - i) ++ all.drop (n + 1)).take i = (all.take n).take i := by
    rw [List.append_assoc, List.take_append_of_le_length (by simp; omega), List.take_take, List.take_take, Nat.min_eq_left (by omega), Nat.min_eq_left (by omega)]
  have a2 : (all.take (i + 1) ++ (all.drop i).take (n - i) ++ all.drop (n + 1)).drop (i + 1) = (all.take n).drop i ++ all.drop (n + 1) := by
    rw [List.append_assoc, List.drop_append_of_le_length (by simp; omega), List.drop_eq_nil_of_le (by simp; omega), List.nil_append, List.drop_take]
  rw [a1, a2, ← List.append_assoc, List.take_append_of_le_length (by simp; omega), List.take_of_length_le (by simp; omega)]
theorem gro_take (all rest : List VP) (x : VP) (i n : Nat) (hi : i < n) (hn : n ≤ all.length) : (((all.take i ++ rest).take i ++ [x] ++ (all.take i ++ rest).drop (i + 1)).take (i + 1) ++ (all.drop i).take (n - i) ++ ((all.take i ++ rest).take i ++ [x] ++ (all.take i ++ rest).drop (i + 1)).drop (i + 1 + (n - i))).take (n + 1) = (all.take n).take i ++ [x] ++ (all.take n).drop i := by
  have a1 : (all.take i ++ rest).take i = all.take i := by rw [List.take_append_of_le_length (by simp; omega), List.take_take, Nat.min_self]
  have a2 : ((all.take i ++ rest).take i ++ [x] ++ (all.take i ++ rest).drop (i + 1)).take (i + 1) = all.take i ++ [x] := by
    rw [a1, List.take_append_of_le_length (by simp; omega), List.take_of_length_le (by simp; omega)]
  rw [a2, List.take_append_of_le_length (by simp; omega), List.take_of_length_le (by simp; omega), List.take_take, Nat.min_eq_left (by omega), List.drop_take]
/-- One tenant, in a block of its own. -/
structure OneT (base : Nat) (w : World) (nb : Nat) (x : VP) (t : Tn) : Prop where
  blk : w.heap[nb]? = some (.cells #[x.1, x.2] 113)
  is : TenV 0 w x t
theorem OneT.cells {w : World} {nb : Nat} {x : VP} {t : Tn} (h : OneT 0 w nb x t) : ∀ j u, (flat [x])[j]? = some u → w.cell? ((⟨nb, 0, none⟩ : Addr).add j) = some u := by
  intro j u hj
  rw [addr_add]
  have hb := h.blk
  match j, hj with
  | 0, hj => simp [flat] at hj; simp [World.cell?, hb, hj]
  | 1, hj => simp [flat] at hj; simp [World.cell?, hb, hj]
  | k + 2, hj => simp [flat] at hj
theorem OneT.oneV {w : World} {nb : Nat} {x : VP} {t : Tn} (h : OneT 0 w nb x t) : OneV [x] := (EachT.one h.is).oneV
theorem overlaps_apart (_base : Nat) (w : World) (nb g : Nat) (x : VP) (t : Tn) (all : List VP) (hx : OneT 0 w nb x t) (hb : BlkT w g all) (hne : nb ≠ g) (ha : 0 < all.length) (o m c lb cb : Nat) :
    (callFunc 80 #[.slice (some ⟨nb, 0, none⟩) m c, .slice (some ⟨g, o, none⟩) lb cb]).run Try.prog w = .ok (.value (.bool false)) w := by
  have h1 := hx.blk
  have h2 := hb
  unfold BlkT at h2
  rw [run_callFunc_extern Try.func80 (by kernel_rfl) (by kernel_rfl) (by kernel_rfl) (e := Extern.SlicesOverlaps.overlaps #[35, 35] #[4]) (by kernel_rfl),
    Lib.run_overlaps_apart w 35 4 113 underTen 2 (fun w => by kernel_rfl) ⟨nb, 0, none⟩ ⟨g, o, none⟩ m c lb cb hne 113 113 2 (all.length * 2) (by simp [World.shape?, h1]) (by simp [World.shape?, h2, flat_len]) (by omega) (by simp [World.frozen?, h1]) (by simp [World.frozen?, h1])]
  rfl
set_option maxRecDepth 100000 in
set_option maxHeartbeats 1000000 in
theorem tinsert_end (base : Nat) (w : World) (v : Value) (l : FL) (nb : Nat) (x : VP) (t : Tn) (h : OwnT base w v l) (hx : OneT 0 w nb x t) (hbase : base ≤ w.heap.size) (hl : l.length ≤ 1000) :
    Calls Try.prog 79 #[v, .int .i64 (l.length : Int), .slice (some ⟨nb, 0, none⟩) 1 1] w fun e w' => ∃ v', e = .returned v' ∧ OwnT base w' v' (l ++ [t]) ∧ w.grownBy w' v.ownBlock := by
  obtain ⟨a, cap, rfl⟩ := h.shape
  have HO : Hid (OwnT base w (.slice a l.length cap) l) := h
  have HX : Hid (OneT 0 w nb x t) := hx
  have k1 : ∃ A c, ∀ W, (Instr.slice 35 (.slice a l.length cap) (some (.int .i64 (l.length : Int))) none none).run Try.prog W = .ok (.slice A (l.length - l.length) c) W := ⟨if cap = l.length then a else a.map (fun x : Addr => x.add (l.length * 2)), cap - l.length, fun W => by
    rw [run_slice_l _ _ _ _ _ (by kernel_rfl) _ _ (by omega) (by omega), sizeTen]
    simp only [Result.andThen, Int.toNat_natCast, Go.sliced]⟩
  obtain ⟨A1, c1, k1⟩ := k1
  clear h hx
  go_enter Try.func79, Try.ntmps79
  go_wp2_with (at_builtin; refine wpList_append_ten rfl (.tmp 23) (.tmp 24) rfl base (.slice a l.length cap) l rfl HO.out x.1 x.2 t HX.out.is.1 HX.out.is.2 nb HX.out.blk rfl (by omega) hbase ?_; intro v1 w1 ho1 hg1)
  go_ret
  exact ⟨_, rfl, ho1, hg1⟩
set_option maxRecDepth 100000 in
set_option maxHeartbeats 1000000 in
theorem tinsert_shift (base : Nat) (w : World) (g : Nat) (all : List VP) (l : FL) (i nb : Nat) (x : VP) (t : Tn) (hb : BlkT w g all) (hbase : base ≤ g) (hm : all.length ≤ maxLen) (he : EachT 0 w (all.take l.length) l) (hi : i < l.length) (hl : l.length ≤ 1000)
    (hx : OneT 0 w nb x t) (hne : nb ≠ g) (hroom : l.length + 1 ≤ all.length) :
    Calls Try.prog 79 #[.slice (some ⟨g, 0, none⟩) l.length all.length, .int .i64 (i : Int), .slice (some ⟨nb, 0, none⟩) 1 1] w fun e w' => ∃ v', e = .returned v' ∧ OwnT base w' v' (l.take i ++ [t] ++ l.drop i) ∧ w.grownBy w' (some g) := by
  obtain ⟨n, hn⟩ : ∃ n, n = l.length := ⟨_, rfl⟩
  obtain ⟨cap, hcap⟩ : ∃ cap, cap = all.length := ⟨_, rfl⟩
  rw [← hn]
  rw [← hn] at he hi hl hroom
  obtain ⟨A0, hA0, k0⟩ := tslice_l g n cap i (by omega)
  have k1 := tslice_h g n cap (n + 1) (by omega)
  obtain ⟨A2, hA2, k2⟩ := tslice_l g (n + 1) cap (i + 1) (by omega)
  obtain ⟨A3, hA3, k3⟩ := tslice_l g (n + 1) cap i (by omega)
  have e2 := hA2 (by omega)
  have e3 := hA3 (by omega)
  subst e2 e3
  have OV : Hid (∀ lb cb, (callFunc 80 #[.slice (some ⟨nb, 0, none⟩) 1 1, .slice (some ⟨g, (i + 1) * 2, none⟩) lb cb]).run Try.prog w = .ok (.value (.bool false)) w) := fun lb cb => overlaps_apart base w nb g x t all hx hb hne (by omega) _ _ _ _ _
  have C1 : Hid (∀ ty dc sc, (Builtin.copy_ #[35, 35] ty #[.slice (some ⟨g, (i + 1) * 2, none⟩) (n - i) dc, .slice (some ⟨g, i * 2, none⟩) (n + 1 - i) sc]).run Try.prog w.drew = .ok (goInt ((n - i : Nat) : Int)) (rowT w.drew g (all.take (i + 1) ++ (all.drop i).take (n - i) ++ all.drop (n + 1)))) := fun ty dc sc => by
    have hlen : ((all.drop i).take (n - i)).length = n - i := by simp; omega
    have := run_copyT w.drew g all ((all.drop i).take (n - i)) hb.drew ty (i + 1) (n - i) dc ⟨g, i * 2, none⟩ (n + 1 - i) sc (by rw [hlen]; simp only [Nat.min_def]; split <;> omega) (hb.drew.cellsT i (n - i)) (by omega) (by
      have h1 : OneV (all.take n) := he.oneV
      intro y hy
      refine h1 y ?_
      rw [← List.drop_take] at hy
      exact List.mem_of_mem_drop hy)
    rw [hlen, show i + 1 + (n - i) = n + 1 by omega] at this
    exact this
  obtain ⟨all1, hall1⟩ : ∃ all1, all1 = all.take (i + 1) ++ (all.drop i).take (n - i) ++ all.drop (n + 1) := ⟨_, rfl⟩
  rw [← hall1] at C1
  have hb1 := hb.drew.set all1
  have hlen1 : all1.length = cap := by rw [hall1]; simp; omega
  obtain ⟨W1, hW1⟩ : ∃ W1, W1 = rowT w.drew g all1 := ⟨_, rfl⟩
  rw [← hW1] at C1 hb1
  have hgW : w.grownBy W1 (some g) := by rw [hW1]; exact grownBy_trans (grownBy_any (grown_drew (grown_refl _ _))) (grown_rowT _ _ _)
  have hxc : ∀ j u, (flat [x])[j]? = some u → W1.cell? ((⟨nb, 0, none⟩ : Addr).add j) = some u := fun j u hj => hgW.cell (hx.cells j u hj) (by rw [addr_add]; intro e; exact hne (by simpa using e))
  have C2 : Hid (∀ ty dc, (Builtin.copy_ #[35, 35] ty #[.slice (some ⟨g, i * 2, none⟩) (n + 1 - i) dc, .slice (some ⟨nb, 0, none⟩) 1 1]).run Try.prog W1 = .ok (goInt 1) (rowT W1 g (all1.take i ++ [x] ++ all1.drop (i + 1)))) := fun ty dc => by
    exact run_copyT W1 g all1 [x] hb1 ty i (n + 1 - i) dc ⟨nb, 0, none⟩ 1 1 (by simp only [Nat.min_def]; split <;> simp; omega) hxc (by simp; omega) hx.oneV
  obtain ⟨all2, hall2⟩ : ∃ all2, all2 = all1.take i ++ [x] ++ all1.drop (i + 1) := ⟨_, rfl⟩
  rw [← hall2] at C2
  have hlen2 : all2.length = cap := by rw [hall2]; simp; omega
  have FIN : Hid (OwnT base (rowT W1 g all2) (.slice (some ⟨g, 0, none⟩) (n + 1) cap) (l.take i ++ [t] ++ l.drop i) ∧ w.grownBy (rowT W1 g all2) (some g)) := by
    have hg : w.grownBy (rowT W1 g all2) (some g) := grownBy_trans hgW (grown_rowT _ _ _)
    refine ⟨?_, hg⟩
    have hlq : (l.take i ++ [t] ++ l.drop i).length = n + 1 := by simp; omega
    have := ownT_row (base := base) (l := l.take i ++ [t] ++ l.drop i) (hb1.set all2) hbase (by omega) (by omega) (by
      have e : all2.take (l.take i ++ [t] ++ l.drop i).length = (all.take n).take i ++ [x] ++ (all.take n).drop i := by
        rw [hlq, hall2, hall1]; exact ins_take all x i n hi (by omega)
      rw [e]
      exact ((((he.take i).append (EachT.one hx.is)).append (he.drop i))).kept hg (hb.rowOf (Nat.zero_le _)))
    rw [hlq, hlen2] at this
    exact this
  have u1 : ((i : Int) == (n : Int)) = false := by simp; omega
  have u2 : i + 1 ≤ n := by omega
  have u3 : n + 1 ≤ cap := by omega
  rw [← hcap]
  clear hall1 hall2 he hb hb1 hn hcap hW1 hlen1 hlen2 hm hA0 hA2 hA3 hxc hx hgW hroom
  have OV' := OV.out
  go_enter Try.func79, Try.ntmps79
  go_wp2_with (simp only [OV'])
  have hw1 : IntKind.i64.wrap ((i : Int) + 1) = (i : Int) + 1 := by rw [IntKind.wrap_i64]; omega
  have hw2 : (0 : Int) ≤ (i : Int) + 1 := by omega
  have hw3 : (i : Int) + 1 ≤ (n : Int) + 1 := by omega
  have hw4 : ((i : Int) + 1).toNat = i + 1 := by omega
  have hw5 : ¬ (cap = i + 1) := by omega
  have hw6 : ¬ (cap = i) := by omega
  have hw7 : (i : Int) ≤ (n : Int) + 1 := by omega
  have C1' := C1.out
  go_region
  have C2' := C2.out
  go_wp2_with (simp only [C2'])
  go_ret
  exact ⟨_, rfl, FIN.out.1, FIN.out.2⟩
set_option maxRecDepth 100000 in
set_option maxHeartbeats 1000000 in
theorem tinsert_grow (base : Nat) (w : World) (g : Nat) (all : List VP) (l : FL) (i nb : Nat) (x : VP) (t : Tn) (hb : BlkT w g all) (hbase : base ≤ g) (hla : l.length ≤ all.length) (he : EachT 0 w (all.take l.length) l) (hi : i < l.length) (hl : l.length ≤ 900)
    (hx : OneT 0 w nb x t) (hroom : all.length < l.length + 1) :
    Calls Try.prog 79 #[.slice (some ⟨g, 0, none⟩) l.length all.length, .int .i64 (i : Int), .slice (some ⟨nb, 0, none⟩) 1 1] w fun e w' => ∃ v', e = .returned v' ∧ OwnT base w' v' (l.take i ++ [t] ++ l.drop i) ∧ w.grownBy w' (some g) := by
  obtain ⟨n, hn⟩ : ∃ n, n = l.length := ⟨_, rfl⟩
  obtain ⟨cap, hcap⟩ : ∃ cap, cap = all.length := ⟨_, rfl⟩
  rw [← hn]
  rw [← hn] at he hla hi hl hroom
  obtain ⟨A0, hA0, k0⟩ := tslice_l g n cap i (by omega)
  have e0 := hA0 (by omega)
  subst e0
  have k1 := tslice_h g n cap i (by omega)
  obtain ⟨rest, r1, r2, hz⟩ := run_zerosT w g all hb 35 i (n + 1 - i) (by omega) (by omega) (by omega) (by omega)
  rw [← hcap, show i + (n + 1 - i) = n + 1 by omega] at hz
  obtain ⟨H, hH⟩ : ∃ H, H = w.heap.size := ⟨_, rfl⟩
  obtain ⟨C, hC⟩ : ∃ C, C = i + rest.length := ⟨_, rfl⟩
  rw [← hH, ← hC] at hz
  obtain ⟨W1, hW1⟩ : ∃ W1, W1 = w.drew.alloc (.cells (flat (all.take i ++ rest)).toArray 113) := ⟨_, rfl⟩
  rw [← hW1] at hz
  have hb1 : BlkT W1 H (all.take i ++ rest) := by rw [hW1, hH]; exact heap_alloc_new w.drew _
  have hg1 : w.grownBy W1 none := by rw [hW1]; exact grown_alloc (grown_drew (grown_refl _ _)) _
  have hlen0 : (all.take i ++ rest).length = C := by rw [hC]; simp; omega
  obtain ⟨A2, hA2, k2⟩ := tslice_l H (n + 1) C i (by omega)
  have e2 := hA2 (by omega)
  subst e2
  have C1 : Hid (∀ ty dc, (Builtin.copy_ #[35, 35] ty #[.slice (some ⟨H, i * 2, none⟩) (n + 1 - i) dc, .slice (some ⟨nb, 0, none⟩) 1 1]).run Try.prog W1 = .ok (goInt 1) (rowT W1 H ((all.take i ++ rest).take i ++ [x] ++ (all.take i ++ rest).drop (i + 1)))) := fun ty dc => by
    exact run_copyT W1 H _ [x] hb1 ty i (n + 1 - i) dc ⟨nb, 0, none⟩ 1 1 (by simp only [Nat.min_def]; split <;> simp; omega) (fun j u hj => hg1.cell (hx.cells j u hj) (by simp)) (by simp; omega) hx.oneV
  obtain ⟨all1, hall1⟩ : ∃ all1, all1 = (all.take i ++ rest).take i ++ [x] ++ (all.take i ++ rest).drop (i + 1) := ⟨_, rfl⟩
  rw [← hall1] at C1
  obtain ⟨W2, hW2⟩ : ∃ W2, W2 = rowT W1 H all1 := ⟨_, rfl⟩
  have hb2 : BlkT W2 H all1 := by rw [hW2]; exact hb1.set all1
  rw [← hW2] at C1
  have hg2 : w.grownBy W2 none := by rw [hW2]; exact grown_rowNew hg1 H (by omega) _
  have hlen1 : all1.length = C := by rw [hall1]; simp at hlen0 ⊢; omega
  have hbg : BlkT W2.drew g all := by
    have := hg2.block g hb.lt (by simp)
    have h3 := hb
    unfold BlkT at h3 ⊢
    rw [← h3, ← this]; rfl
  have C2 : Hid (∀ ty dc sc, (Builtin.copy_ #[35, 35] ty #[.slice (some ⟨H, (i + 1) * 2, none⟩) (n - i) dc, .slice (some ⟨g, i * 2, none⟩) (n - i) sc]).run Try.prog W2.drew = .ok (goInt ((n - i : Nat) : Int)) (rowT W2.drew H (all1.take (i + 1) ++ (all.drop i).take (n - i) ++ all1.drop (i + 1 + (n - i))))) := fun ty dc sc => by
    have hlen : ((all.drop i).take (n - i)).length = n - i := by simp; omega
    have := run_copyT W2.drew H all1 ((all.drop i).take (n - i)) hb2.drew ty (i + 1) (n - i) dc ⟨g, i * 2, none⟩ (n - i) sc (by rw [hlen]; simp only [Nat.min_def]; split <;> omega) (hbg.cellsT i (n - i)) (by omega) (by
      have h1 : OneV (all.take n) := he.oneV
      intro y hy
      refine h1 y ?_
      rw [← List.drop_take] at hy
      exact List.mem_of_mem_drop hy)
    rw [hlen] at this
    exact this
  obtain ⟨all2, hall2⟩ : ∃ all2, all2 = all1.take (i + 1) ++ (all.drop i).take (n - i) ++ all1.drop (i + 1 + (n - i)) := ⟨_, rfl⟩
  rw [← hall2] at C2
  have hlen2 : all2.length = C := by rw [hall2]; simp; omega
  have FIN : Hid (OwnT base (rowT W2.drew H all2) (.slice (some ⟨H, 0, none⟩) (n + 1) C) (l.take i ++ [t] ++ l.drop i) ∧ w.grownBy (rowT W2.drew H all2) (some g)) := by
    have hg : w.grownBy (rowT W2.drew H all2) none := grown_rowNew (grown_drew hg2) H (by omega) _
    refine ⟨?_, grownBy_any hg⟩
    have hlq : (l.take i ++ [t] ++ l.drop i).length = n + 1 := by simp; omega
    have := ownT_row (base := base) (l := l.take i ++ [t] ++ l.drop i) (hb2.drew.set all2) (by have := hb.lt; omega) (by omega) (by omega) (by
      have e : all2.take (l.take i ++ [t] ++ l.drop i).length = (all.take n).take i ++ [x] ++ (all.take n).drop i := by
        rw [hlq, hall2, hall1]; exact gro_take all rest x i n hi (by omega)
      rw [e]
      exact ((((he.take i).append (EachT.one hx.is)).append (he.drop i))).kept hg (.inl rfl))
    rw [hlq, hlen2] at this
    exact this
  have u1 : ((i : Int) == (n : Int)) = false := by simp; omega
  have u2 : i + 1 ≤ n := by omega
  have u3 : n ≤ cap := by omega
  have u4 : cap < n + 1 := by omega
  have u5 : n + 1 ≤ C := by omega
  have u6 : (cap : Int) < (n : Int) + 1 := by omega
  have hw1 : IntKind.i64.wrap ((i : Int) + 1) = (i : Int) + 1 := by rw [IntKind.wrap_i64]; omega
  have hw0 : IntKind.i64.wrap ((n : Int) + 1) = (n : Int) + 1 := by rw [IntKind.wrap_i64]; omega
  have hwa : IntKind.i64.wrap ((n : Int) + 1 - (i : Int)) = ((n + 1 - i : Nat) : Int) := by rw [IntKind.wrap_i64]; omega
  have hw2 : (0 : Int) ≤ (i : Int) + 1 := by omega
  have hw3 : (i : Int) + 1 ≤ (n : Int) + 1 := by omega
  have hw4 : ((i : Int) + 1).toNat = i + 1 := by omega
  have hw5 : ¬ (C = i + 1) := by omega
  have hw6 : ¬ (cap = i) := by omega
  have hw8 : ¬ (C = i) := by omega
  have hw7 : (i : Int) ≤ (n : Int) + 1 := by omega
  rw [← hcap]
  have HZ : Hid ((Builtin.append_ #[35, 3] 35 #[.slice (some ⟨g, 0, none⟩) i cap, .int .i64 ((n + 1 - i : Nat) : Int)]).run Try.prog w = .ok (.slice (some ⟨H, 0, none⟩) (n + 1) C) W1) := hz
  clear hall1 hall2 he hb hb1 hn hcap hW1 hW2 hlen1 hlen2 hla hA0 hA2 hx hg1 hg2 hroom hz hH hC hb2 hbg hlen0 r1 r2
  go_enter Try.func79, Try.ntmps79
  go_wp2_with (at_builtin; refine Lib.wpList_append_run _ rfl _ _ _ _ rfl _ _ rfl rfl _ _ HZ.out ?_)
  have C1' := C1.out
  go_wp2_with (simp only [C1'])
  have C2' := C2.out
  go_region
  go_wp2
  go_ret
  exact ⟨_, rfl, FIN.out.1, FIN.out.2⟩
end Go.Proofs.Ytpmfbfflacbmjac

/-
  slices.Replace of one tenant of the call's own, or of none, by one tenant.
-/
namespace Go.Proofs.Ytpmfbfflacbmjac
open Go.RowKit
theorem rep_take (all : List VP) (x : VP) (i n : Nat) (hi : i < n) (hn : n ≤ all.length) : (all.take i ++ [x] ++ all.drop (i + 1)).take n = (all.take n).take i ++ [x] ++ (all.take n).drop (i + 1) := by
  have e : all.drop (i + 1) = (all.take n).drop (i + 1) ++ all.drop n := by
    have := congrArg (List.drop (i + 1)) (List.take_append_drop n all)
    rw [List.drop_append_of_le_length (by simp; omega)] at this
    exact this.symm
  rw [e, ← List.append_assoc, List.take_append_of_le_length (by simp; omega), List.take_of_length_le (by simp; omega), List.take_take, Nat.min_eq_left (by omega)]
/-- One tenant takes another's place: the world behind it. -/
theorem rep_fin (base : Nat) (w : World) (g : Nat) (all : List VP) (l : FL) (i nb : Nat) (x : VP) (t : Tn) (hb : BlkT w g all) (hbase : base ≤ g) (hla : l.length ≤ all.length) (hm : all.length ≤ maxLen) (he : EachT 0 w (all.take l.length) l) (hi : i < l.length)
    (hx : OneT 0 w nb x t) (W : World) (hW : BlkT W g (all.take i ++ [x] ++ all.drop (i + 1))) (hg : w.grownBy W (some g)) : OwnT base W (.slice (some ⟨g, 0, none⟩) l.length all.length) (l.take i ++ [t] ++ l.drop (i + 1)) := by
  have hlq : (l.take i ++ [t] ++ l.drop (i + 1)).length = l.length := by simp; omega
  have hla2 : (all.take i ++ [x] ++ all.drop (i + 1)).length = all.length := by simp; omega
  have := ownT_row (base := base) (l := l.take i ++ [t] ++ l.drop (i + 1)) hW hbase (by omega) (by omega) (by
    rw [hlq, rep_take all x i l.length hi hla]
    exact ((((he.take i).append (EachT.one hx.is)).append (he.drop (i + 1)))).kept hg (hb.rowOf (Nat.zero_le _)))
  rw [hlq, hla2] at this
  exact this
set_option maxRecDepth 100000 in
set_option maxHeartbeats 1000000 in
theorem treplace_last (base : Nat) (w : World) (g : Nat) (all : List VP) (l : FL) (i nb : Nat) (x : VP) (t : Tn) (hb : BlkT w g all) (hbase : base ≤ g) (hla : l.length ≤ all.length) (hm : all.length ≤ maxLen) (he : EachT 0 w (all.take l.length) l) (hi : i + 1 = l.length)
    (hx : OneT 0 w nb x t) :
    Calls Try.prog 69 #[.slice (some ⟨g, 0, none⟩) l.length all.length, .int .i64 (i : Int), .int .i64 ((i + 1 : Nat) : Int), .slice (some ⟨nb, 0, none⟩) 1 1] w fun e w' => ∃ v', e = .returned v' ∧ OwnT base w' v' (l.take i ++ [t] ++ l.drop (i + 1)) ∧ w.grownBy w' (some g) := by
  have hA := run_appendT w g all [x] hb 35 i ⟨nb, 0, none⟩ 1 1 rfl hx.cells (by omega) hx.oneV
  have hg := grown_rowT w g (all.take i ++ [x] ++ all.drop (i + 1))
  have HF : Hid (OwnT base (rowT w g (all.take i ++ [x] ++ all.drop (i + 1))) (.slice (some ⟨g, 0, none⟩) l.length all.length) (l.take i ++ [t] ++ l.drop (i + 1)) ∧ w.grownBy (rowT w g (all.take i ++ [x] ++ all.drop (i + 1))) (some g)) := ⟨rep_fin base w g all l i nb x t hb hbase hla hm he (by omega) hx _ (hb.set _) hg, hg⟩
  rw [hi] at hA
  obtain ⟨n, hn⟩ : ∃ n, n = l.length := ⟨_, rfl⟩
  obtain ⟨cap, hcap⟩ : ∃ cap, cap = all.length := ⟨_, rfl⟩
  have HA : Hid ((Builtin.append_ #[35, 35] 35 #[.slice (some ⟨g, 0, none⟩) i cap, .slice (some ⟨nb, 0, none⟩) 1 1]).run Try.prog w = .ok (.slice (some ⟨g, 0, none⟩) n cap) (rowT w g (all.take i ++ [x] ++ all.drop (i + 1)))) := by rw [hn, hcap]; rw [← hi] at hA ⊢; exact hA
  rw [← hn, ← hcap] at HF
  rw [← hn, ← hcap]
  rw [← hn] at hi hla
  rw [← hcap] at hla
  generalize rowT w g (all.take i ++ [x] ++ all.drop (i + 1)) = W at *
  generalize l.take i ++ [t] ++ l.drop (i + 1) = L at *
  obtain ⟨A1, hA1, k1⟩ := tslice_lh g n cap i (i + 1) (by omega) (by omega)
  have k2 := tslice_h g n cap i (by omega)
  obtain ⟨j, hj⟩ : ∃ j, j = i + 1 := ⟨_, rfl⟩
  rw [← hj] at k1 ⊢
  have u1 : ((i : Int) == (j : Int)) = false := by simp; omega
  have u2 : ((j : Int) == (n : Int)) = true := by simp; omega
  have u3 : i + 1 ≤ n := by omega
  have u4 : n ≤ i + 1 := by omega
  clear hA hg hb hm he hx hi hn hcap hj hA1
  go_enter Try.func69, Try.ntmps69
  go_wp2_with (at_builtin; refine Lib.wpList_append_run _ rfl _ _ _ _ rfl _ _ rfl rfl _ _ HA.out ?_)
  go_ret
  exact ⟨_, rfl, HF.out.1, HF.out.2⟩
set_option maxRecDepth 100000 in
set_option maxHeartbeats 1000000 in
theorem treplace_mid (base : Nat) (w : World) (g : Nat) (all : List VP) (l : FL) (i nb : Nat) (x : VP) (t : Tn) (hb : BlkT w g all) (hbase : base ≤ g) (hla : l.length ≤ all.length) (hm : all.length ≤ maxLen) (he : EachT 0 w (all.take l.length) l) (hi : i + 1 < l.length) (hl : l.length ≤ 1000)
    (hx : OneT 0 w nb x t) :
    Calls Try.prog 69 #[.slice (some ⟨g, 0, none⟩) l.length all.length, .int .i64 (i : Int), .int .i64 ((i + 1 : Nat) : Int), .slice (some ⟨nb, 0, none⟩) 1 1] w fun e w' => ∃ v', e = .returned v' ∧ OwnT base w' v' (l.take i ++ [t] ++ l.drop (i + 1)) ∧ w.grownBy w' (some g) := by
  obtain ⟨n, hn⟩ : ∃ n, n = l.length := ⟨_, rfl⟩
  obtain ⟨cap, hcap⟩ : ∃ cap, cap = all.length := ⟨_, rfl⟩
  obtain ⟨all1, hall1⟩ : ∃ all1, all1 = all.take i ++ [x] ++ all.drop (i + 1) := ⟨_, rfl⟩
  have hlen1 : all1.length = all.length := by rw [hall1]; simp; omega
  have C1 : Hid (∀ W, BlkT W g all → w.grownBy W none → ∀ ty dc, (Builtin.copy_ #[35, 35] ty #[.slice (some ⟨g, i * 2, none⟩) (n - i) dc, .slice (some ⟨nb, 0, none⟩) 1 1]).run Try.prog W = .ok (goInt 1) (rowT W g all1)) := fun W hW hgW ty dc => by
    rw [hall1]
    exact run_copyT W g all [x] hW ty i (n - i) dc ⟨nb, 0, none⟩ 1 1 (by simp only [Nat.min_def]; split <;> simp; omega) (fun j u hj => hgW.cell (hx.cells j u hj) (by simp)) (by simp; omega) hx.oneV
  have C2 : Hid (∀ W, BlkT W g all1 → ∀ ty dc sc, (Builtin.copy_ #[35, 35] ty #[.slice (some ⟨g, (i + 1) * 2, none⟩) (n - (i + 1)) dc, .slice (some ⟨g, (i + 1) * 2, none⟩) (n - (i + 1)) sc]).run Try.prog W = .ok (goInt ((n - (i + 1) : Nat) : Int)) W) := fun W hW ty dc sc => by
    have hlen : ((all1.drop (i + 1)).take (n - (i + 1))).length = n - (i + 1) := by simp; omega
    have h2 : all1.take (i + 1) ++ (all1.drop (i + 1)).take (n - (i + 1)) ++ all1.drop (i + 1 + ((all1.drop (i + 1)).take (n - (i + 1))).length) = all1 := by
      rw [hlen, List.append_assoc]
      have : (all1.drop (i + 1)).take (n - (i + 1)) ++ all1.drop (i + 1 + (n - (i + 1))) = all1.drop (i + 1) := by
        have := List.take_append_drop (n - (i + 1)) (all1.drop (i + 1))
        rw [List.drop_drop] at this
        exact this
      rw [this, List.take_append_drop]
    have h3 := run_copyT W g all1 ((all1.drop (i + 1)).take (n - (i + 1))) hW ty (i + 1) (n - (i + 1)) dc ⟨g, (i + 1) * 2, none⟩ (n - (i + 1)) sc (by rw [hlen]; simp only [Nat.min_def]; split <;> omega) (hW.cellsT (i + 1) _) (by omega) (by
      have h1 : OneV (all.take l.length) := he.oneV
      intro y hy
      have hy2 := List.mem_of_mem_take hy
      have e : all1.drop (i + 1) = all.drop (i + 1) := by
        rw [hall1, List.drop_append_of_le_length (by simp; omega), List.drop_eq_nil_of_le (by simp; omega), List.nil_append]
      rw [e, hn, ← List.drop_take] at hy
      exact h1 y (List.mem_of_mem_drop hy))
    rw [h2, hlen, rowT_self hW] at h3
    exact h3
  have HF : Hid (∀ W, BlkT W g all1 → w.grownBy W (some g) → OwnT base W (.slice (some ⟨g, 0, none⟩) n cap) (l.take i ++ [t] ++ l.drop (i + 1))) := fun W hW hg => by
    rw [hall1] at hW
    rw [hn, hcap]
    exact rep_fin base w g all l i nb x t hb hbase hla hm he (by omega) hx W hW hg
  rw [← hn, ← hcap]
  rw [← hn] at hi hla hl
  rw [← hcap] at hla
  have HB : Hid (BlkT w g all) := hb
  generalize l.take i ++ [t] ++ l.drop (i + 1) = L at *
  obtain ⟨A1, hA1, k1⟩ := tslice_lh g n cap i (i + 1) (by omega) (by omega)
  have k2 := tslice_h g n cap i (by omega)
  obtain ⟨A3, hA3, k3⟩ := tslice_l g n cap (i + 1) (by omega)
  obtain ⟨A4, hA4, k4⟩ := tslice_l g n cap i (by omega)
  obtain ⟨A5, hA5, k5⟩ := tslice_l g n cap n (by omega)
  have k6 := tslice_h g n cap n (by omega)
  have e3 := hA3 (by omega)
  have e4 := hA4 (by omega)
  subst e3 e4
  have HV : Hid (∀ ty a c W, (Builtin.clear_ #[35] ty #[.slice a 0 c]).run Try.prog W = .ok (.tuple #[]) W) := fun ty a c W => run_clear0 W ty a c
  obtain ⟨j, hj⟩ : ∃ j, j = i + 1 := ⟨_, rfl⟩
  rw [← hj] at k1 k3 C2 ⊢
  have u1 : ((i : Int) == (j : Int)) = false := by simp; omega
  have u2 : ((j : Int) == (n : Int)) = false := by simp; omega
  have u3 : i + 1 ≤ j := by omega
  have u4 : j ≤ i + 1 := by omega
  have u5 : j < n := by omega
  have hw1 : IntKind.i64.wrap ((i : Int) + 1) = (j : Int) := by rw [IntKind.wrap_i64]; omega
  have hw2 : IntKind.i64.wrap ((j : Int) + ((n - j : Nat) : Int)) = (n : Int) := by rw [IntKind.wrap_i64]; omega
  clear hb hm he hx hi hn hcap hj hA1 hA3 hA4 hA5 hall1 hlen1
  go_enter Try.func69, Try.ntmps69
  go_wp2
  go_region
  have c1 := C1.out _ (show BlkT w.drew g all from HB.out) (grown_drew (grown_refl w none))
  have b1 : BlkT (rowT w.drew g all1) g all1 := BlkT.set (w := w.drew) HB.out all1
  have HG : Hid (w.grownBy (rowT w.drew g all1) (some g)) := grownBy_trans (grownBy_any (grown_drew (grown_refl _ _))) (grown_rowT _ _ _)
  have HB1 : Hid (BlkT (rowT w.drew g all1) g all1) := b1
  clear b1
  generalize rowT w.drew g all1 = W1 at *
  go_wp2
  have c2 := C2.out W1.drew HB1.out
  have hv := HV.out
  go_region
  go_wp2
  go_ret
  have hgf : w.grownBy W1.drew (some g) := grownBy_trans HG.out (grownBy_any (grown_drew (grown_refl _ _)))
  exact ⟨_, rfl, HF.out _ HB1.out hgf, hgf⟩
set_option maxRecDepth 100000 in
set_option maxHeartbeats 1000000 in
theorem treplace_new (w : World) (a : Option Addr) (n cap i nb : Nat) (hi : i ≤ n) (hn : n ≤ cap) (Q : Value → World → Prop) (IN : Calls Try.prog 79 #[.slice a n cap, .int .i64 (i : Int), .slice (some ⟨nb, 0, none⟩) 1 1] w fun e w' => ∃ v', e = .returned v' ∧ Q v' w') (hQ : ∀ v' w', Q v' w' → ∃ a n c, v' = .slice a n c) :
    Calls Try.prog 69 #[.slice a n cap, .int .i64 (i : Int), .int .i64 (i : Int), .slice (some ⟨nb, 0, none⟩) 1 1] w fun e w' => ∃ v', e = .returned v' ∧ Q v' w' := by
  have k1 : ∃ A c, ∀ W, (Instr.slice 35 (.slice a n cap) (some (.int .i64 (i : Int))) (some (.int .i64 (i : Int))) none).run Try.prog W = .ok (.slice A (i - i) c) W := ⟨if cap = i then a else a.map (fun x : Addr => x.add (i * 2)), cap - i, fun W => by
    rw [run_slice_lh _ _ _ _ _ (by kernel_rfl) _ _ _ _ (by omega) (by omega) (by omega), sizeTen]
    simp only [Result.andThen, Int.toNat_natCast, Go.sliced]⟩
  obtain ⟨A1, c1, k1⟩ := k1
  have HI : Hid (Calls Try.prog 79 #[.slice a n cap, .int .i64 (i : Int), .slice (some ⟨nb, 0, none⟩) 1 1] w fun e w' => ∃ v', e = .returned v' ∧ Q v' w') := IN
  clear IN
  go_enter Try.func69, Try.ntmps69
  go_wp2_with fail
  refine HI.out.mono ?_
  rintro e w1 ⟨v1, rfl, h1⟩
  obtain ⟨a1, n1, c1', rfl⟩ := hQ _ _ h1
  go_wp2
  go_ret
  exact ⟨_, rfl, h1⟩
theorem treplace_any (base : Nat) (w : World) (v : Value) (l : FL) (i j nb : Nat) (x : VP) (t : Tn) (h : OwnT base w v l) (hij : j = i ∨ j = i + 1) (hj : j ≤ l.length) (hl : l.length ≤ 900) (hx : OneT 0 w nb x t) (hne : v.ownBlock ≠ some nb) (hbase : base ≤ w.heap.size) :
    Calls Try.prog 69 #[v, .int .i64 (i : Int), .int .i64 (j : Int), .slice (some ⟨nb, 0, none⟩) 1 1] w fun e w' => ∃ v', e = .returned v' ∧ OwnT base w' v' (l.take i ++ [t] ++ l.drop j) ∧ w.grownBy w' v.ownBlock := by
  rcases hij with rfl | rfl
  · obtain ⟨a, cap, rfl⟩ := h.shape
    have hc : l.length ≤ cap := by
      obtain ⟨a', cap', e, hc, _⟩ := h.list
      simp only [Value.slice.injEq] at e
      obtain ⟨_, _, rfl⟩ := e
      exact hc
    refine treplace_new w a l.length cap j nb hj hc (fun v' w' => OwnT base w' v' (l.take j ++ [t] ++ l.drop j) ∧ w.grownBy w' (Value.ownBlock (.slice a l.length cap))) ?_ (fun v' w' h => by obtain ⟨a, c, e⟩ := h.1.shape; exact ⟨_, _, _, e⟩)
    by_cases hjl : j = l.length
    · subst hjl
      have := tinsert_end base w _ l nb x t h hx hbase (by omega)
      rw [List.take_length, List.drop_length, List.append_nil]
      exact this
    · rcases h.elim with ⟨_, rfl⟩ | ⟨g, all, e, hb, hg, h1, h2, h3⟩
      · simp at hj hjl; omega
      · simp only [Value.slice.injEq] at e
        obtain ⟨rfl, _, rfl⟩ := e
        by_cases hroom : l.length + 1 ≤ all.length
        · exact tinsert_shift base w g all l j nb x t hb hg h2 h3 (by omega) (by omega) hx (fun e => hne (by simp [Value.ownBlock, e])) hroom
        · exact tinsert_grow base w g all l j nb x t hb hg h1 h3 (by omega) (by omega) hx (by omega)
  · rcases h.elim with ⟨_, rfl⟩ | ⟨g, all, rfl, hb, hg, h1, h2, h3⟩
    · simp at hj
    · by_cases hlast : i + 1 = l.length
      · exact treplace_last base w g all l i nb x t hb hg h1 h2 h3 hlast hx
      · exact treplace_mid base w g all l i nb x t hb hg h1 h2 h3 (by omega) (by omega) hx
end Go.Proofs.Ytpmfbfflacbmjac
