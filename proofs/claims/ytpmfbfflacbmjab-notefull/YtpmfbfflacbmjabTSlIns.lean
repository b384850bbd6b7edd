/-
  slices.Insert of one tenant into a list of the call's own.
-/
import Derived.Test.YtpmfbfflacbmjabTSlDel
import Derived.Lib.Overlaps
import Derived.Laws.Externs
namespace Go.Proofs.Ytpmfbfflacbmjab
open Go.RowKit
theorem step_copy_run {ops : Array Oper} {o : Oper} {a : Act} {w : World} {K : Act → World → Prop} {Q : Exit → Act → World → Prop} {E : Prop}
    (hg : o.guard = none) (d x : Operand) (dT sT : TypeId) (hop : o.op = Op.call { callee := Callee.builtin Builtin.copy, args := #[d, x], argTypes := #[dT, sT] })
    (v u : Value) (hd : a.eval d = v) (hx : a.eval x = u) {v' : Value} {w' : World} (hr : (Builtin.copy_ #[dT, sT] o.type #[v, u]).run Try.prog w = .ok v' w') (hK : K (a.put o.dst v') w') :
    if Region.wanted o (yielded ops a.tmps) = true then Oper.wp Try.prog o a w K Q else E := by
  have hw : Region.wanted o (yielded ops a.tmps) = true := by simp [Region.wanted, hg]
  rw [if_pos hw]
  unfold Oper.wp
  simp [execOp, hop, resolve, invoke, builtin, hd, hx, hr, Result.andThen]
  exact hK
theorem grown_rowNew {w W : World} (h : w.grownBy W none) (g : Nat) (hg : w.heap.size ≤ g) (all : List VP) : w.grownBy (rowT W g all) none := by
  have h2 := grown_rowT W g all
  exact ⟨h2.os.trans h.os, h2.tape.trans h.tape, h2.output.trans h.output, Nat.le_trans h.size h2.size, fun k hk _ => (h2.block k (Nat.lt_of_lt_of_le hk h.size) (fun e => by cases e; omega)).trans (h.block k hk (by simp))⟩
theorem ins_take (all : List VP) (x : VP) (i n : Nat) (hi : i < n) (hn : n + 1 ≤ all.length) : ((all.take (i + 1) ++ (all.drop i).take (n - i) ++ all.drop (n + 1)).take i ++ [x] ++ (all.take (i + 1) ++ (all.drop i).take (n - i) ++ all.drop (n + 1)).drop (i + 1)).take (n + 1) = (all.take n).take i ++ [x] ++ (all.take n).drop i := by
  have a1 : (all.take (i + 1) ++ (all.drop i).take (n - i) ++ all.drop (n + 1)).take i = (all.take n).take i := by
    rw [List.append_assoc, List.take_append_of_le_length (by simp; omega), List.take_take, List.take_take, Nat.min_eq_left (by omega), Nat.min_eq_left (by omega)]
  have a2 : (all.take (i + 1) ++ (all.drop i).take (n - i) ++ all.drop (n + 1)).drop (i + 1) = (all.take n).drop i ++ all.drop (n + 1) := by
    rw [List.append_assoc, List.drop_append_of_le_length (by simp; omega), List.drop_eq_nil_of_le (by simp; omega), List.nil_append, List.drop_take]
  rw [a1, a2, ← List.append_assoc, List.take_append_of_le_length (by simp; omega), List.take_of_length_le (by simp; omega)]
theorem gro_take (all rest : List VP) (x : VP) (i n : Nat) (hi : i < n) (hn : n ≤ all.length) : (((all.take i ++ rest).take i ++ [x] ++ (all.take i ++ rest).drop (i + 1)).take (i + 1) ++ (all.drop i).take (n - i) ++ ((all.take i ++ rest).take i ++ [x] ++ (all.take i ++ rest).drop (i + 1)).drop (i + 1 + (n - i))).take (n + 1) = (all.take n).take i ++ [x] ++ (all.take n).drop i := by
  have a1 : (all.take i ++ rest).take i = all.take i := by rw [List.take_append_of_le_length (by simp; omega), List.take_take, Nat.min_self]
  have a2 : ((all.take i ++ rest).take i ++ [x] ++ (all.take i ++ rest).drop (i + 1)).take (i + 1) = all.take i ++ [x] := by
    rw [a1, List.take_append_of_le_length (by simp; omega), List.take_of_length_le (by simp; omega)]
  rw [a2, List.take_append_of_le_length (by simp; omega), List.take_of_length_le (by simp; omega), List.take_take, Nat.min_eq_left (by omega), List.drop_take]
/-- One tenant, in a block of its own. -/
structure OneT (base : Nat) (w : World) (nb : Nat) (x : VP) (t : Tn) : Prop where
  blk : w.heap[nb]? = some (.cells #[x.1, x.2] 97)
  is : TenV 0 w x t
theorem OneT.cells {w : World} {nb : Nat} {x : VP} {t : Tn} (h : OneT 0 w nb x t) : ∀ j u, (flat [x])[j]? = some u → w.cell? ((⟨nb, 0, none⟩ : Addr).add j) = some u := by
  intro j u hj
  rw [addr_add]
  have hb := h.blk
  match j, hj with
  | 0, hj => simp [flat] at hj; simp [World.cell?, hb, hj]
  | 1, hj => simp [flat] at hj; simp [World.cell?, hb, hj]
  | k + 2, hj => simp [flat] at hj
theorem OneT.oneV {w : World} {nb : Nat} {x : VP} {t : Tn} (h : OneT 0 w nb x t) : OneV [x] := (EachT.one h.is).oneV
theorem overlaps_apart (_base : Nat) (w : World) (nb g : Nat) (x : VP) (t : Tn) (all : List VP) (hx : OneT 0 w nb x t) (hb : BlkT w g all) (hne : nb ≠ g) (ha : 0 < all.length) (o m c lb cb : Nat) :
    (callFunc 75 #[.slice (some ⟨nb, 0, none⟩) m c, .slice (some ⟨g, o, none⟩) lb cb]).run Try.prog w = .ok (.value (.bool false)) w := by
  have h1 := hx.blk
  have h2 := hb
  unfold BlkT at h2
  rw [run_callFunc_extern Try.func75 (by kernel_rfl) (by kernel_rfl) (by kernel_rfl) (e := Extern.SlicesOverlaps.overlaps #[26, 26] #[4]) (by kernel_rfl),
    Lib.run_overlaps_apart w 26 4 97 underTen 2 (fun w => by kernel_rfl) ⟨nb, 0, none⟩ ⟨g, o, none⟩ m c lb cb hne 97 97 2 (all.length * 2) (by simp [World.shape?, h1]) (by simp [World.shape?, h2, flat_len]) (by omega) (by simp [World.frozen?, h1]) (by simp [World.frozen?, h1])]
  rfl
set_option maxRecDepth 100000 in
set_option maxHeartbeats 1000000 in
theorem tinsert_end (base : Nat) (w : World) (v : Value) (l : FL) (nb : Nat) (x : VP) (t : Tn) (h : OwnT base w v l) (hx : OneT 0 w nb x t) (hbase : base ≤ w.heap.size) (hl : l.length ≤ 1000) :
    Calls Try.prog 74 #[v, .int .i64 (l.length : Int), .slice (some ⟨nb, 0, none⟩) 1 1] w fun e w' => ∃ v', e = .returned v' ∧ OwnT base w' v' (l ++ [t]) ∧ w.grownBy w' v.ownBlock := by
  obtain ⟨a, cap, rfl⟩ := h.shape
  have HO : Hid (OwnT base w (.slice a l.length cap) l) := h
  have HX : Hid (OneT 0 w nb x t) := hx
  have k1 : ∃ A c, ∀ W, (Instr.slice 26 (.slice a l.length cap) (some (.int .i64 (l.length : Int))) none none).run Try.prog W = .ok (.slice A (l.length - l.length) c) W := ⟨if cap = l.length then a else a.map (fun x : Addr => x.add (l.length * 2)), cap - l.length, fun W => by
    rw [run_slice_l _ _ _ _ _ (by kernel_rfl) _ _ (by omega) (by omega), sizeTen]
    simp only [Result.andThen, Int.toNat_natCast, Go.sliced]⟩
  obtain ⟨A1, c1, k1⟩ := k1
  clear h hx
  go_enter Try.func74, Try.ntmps74
  go_wp2_with (at_builtin; refine wpList_append_ten rfl (.tmp 23) (.tmp 24) rfl base (.slice a l.length cap) l rfl HO.out x.1 x.2 t HX.out.is.1 HX.out.is.2 nb HX.out.blk rfl (by omega) hbase ?_; intro v1 w1 ho1 hg1)
  go_ret
  exact ⟨_, rfl, ho1, hg1⟩
set_option maxRecDepth 100000 in
set_option maxHeartbeats 1000000 in
theorem tinsert_shift (base : Nat) (w : World) (g : Nat) (all : List VP) (l : FL) (i nb : Nat) (x : VP) (t : Tn) (hb : BlkT w g all) (hbase : base ≤ g) (hm : all.length ≤ maxLen) (he : EachT 0 w (all.take l.length) l) (hi : i < l.length) (hl : l.length ≤ 1000)
    (hx : OneT 0 w nb x t) (hne : nb ≠ g) (hroom : l.length + 1 ≤ all.length) :
    Calls Try.prog 74 #[.slice (some ⟨g, 0, none⟩) l.length all.length, .int .i64 (i : Int), .slice (some ⟨nb, 0, none⟩) 1 1] w fun e w' => ∃ v', e = .returned v' ∧ OwnT base w' v' (l.take i ++ [t] ++ l.drop i) ∧ w.grownBy w' (some g) := by
  obtain ⟨n, hn⟩ : ∃ n, n = l.length := ⟨_, rfl⟩
  obtain ⟨cap, hcap⟩ : ∃ cap, cap = all.length := ⟨_, rfl⟩
  rw [← hn]
  rw [← hn] at he hi hl hroom
  obtain ⟨A0, hA0, k0⟩ := tslice_l g n cap i (by omega)
  have k1 := tslice_h g n cap (n + 1) (by omega)
  obtain ⟨A2, hA2, k2⟩ := tslice_l g (n + 1) cap (i + 1) (by omega)
  obtain ⟨A3, hA3, k3⟩ := tslice_l g (n + 1) cap i (by omega)
  have e2 := hA2 (by omega)
  have e3 := hA3 (by omega)
  subst e2 e3
  have OV : Hid (∀ lb cb, (callFunc 75 #[.slice (some ⟨nb, 0, none⟩) 1 1, .slice (some ⟨g, (i + 1) * 2, none⟩) lb cb]).run Try.prog w = .ok (.value (.bool false)) w) := fun lb cb => overlaps_apart base w nb g x t all hx hb hne (by omega) _ _ _ _ _
  have C1 : Hid (∀ ty dc sc, (Builtin.copy_ #[26, 26] ty #[.slice (some ⟨g, (i + 1) * 2, none⟩) (n - i) dc, .slice (some ⟨g, i * 2, none⟩) (n + 1 - i) sc]).run Try.prog w.drew = .ok (goInt ((n - i : Nat) : Int)) (rowT w.drew g (all.take (i + 1) ++ (all.drop i).take (n - i) ++ all.drop (n + 1)))) := fun ty dc sc => by
    have hlen : ((all.drop i).take (n - i)).length = n - i := by simp; omega
    have := run_copyT w.drew g all ((all.drop i).take (n - i)) hb.drew ty (i + 1) (n - i) dc ⟨g, i * 2, none⟩ (n + 1 - i) sc (by rw [hlen]; simp only [Nat.min_def]; split <;> omega) (hb.drew.cellsT i (n - i)) (by omega) (by
      have h1 : OneV (all.take n) := he.oneV
      intro y hy
      refine h1 y ?_
      rw [← List.drop_take] at hy
      exact List.mem_of_mem_drop hy)
    rw [hlen, show i + 1 + (n - i) = n + 1 by omega] at this
    exact this
  obtain ⟨all1, hall1⟩ : ∃ all1, all1 = all.take (i + 1) ++ (all.drop i).take (n - i) ++ all.drop (n + 1) := ⟨_, rfl⟩
  rw [← hall1] at C1
  have hb1 := hb.drew.set all1
  have hlen1 : all1.length = cap := by rw [hall1]; simp; omega
  obtain ⟨W1, hW1⟩ : ∃ W1, W1 = rowT w.drew g all1 := ⟨_, rfl⟩
  rw [← hW1] at C1 hb1
  have hgW : w.grownBy W1 (some g) := by rw [hW1]; exact grownBy_trans (grownBy_any (grown_drew (grown_refl _ _))) (grown_rowT _ _ _)
  have hxc : ∀ j u, (flat [x])[j]? = some u → W1.cell? ((⟨nb, 0, none⟩ : Addr).add j) = some u := fun j u hj => hgW.cell (hx.cells j u hj) (by rw [addr_add]; intro e; exact hne (by simpa using e))
  have C2 : Hid (∀ ty dc, (Builtin.copy_ #[26, 26] ty #[.slice (some ⟨g, i * 2, none⟩) (n + 1 - i) dc, .slice (some ⟨nb, 0, none⟩) 1 1]).run Try.prog W1 = .ok (goInt 1) (rowT W1 g (all1.take i ++ [x] ++ all1.drop (i + 1)))) := fun ty dc => by
    exact run_copyT W1 g all1 [x] hb1 ty i (n + 1 - i) dc ⟨nb, 0, none⟩ 1 1 (by simp only [Nat.min_def]; split <;> simp; omega) hxc (by simp; omega) hx.oneV
  obtain ⟨all2, hall2⟩ : ∃ all2, all2 = all1.take i ++ [x] ++ all1.drop (i + 1) := ⟨_, rfl⟩
  rw [← hall2] at C2
  have hlen2 : all2.length = cap := by rw [hall2]; simp; omega
  have FIN : Hid (OwnT base (rowT W1 g all2) (.slice (some ⟨g, 0, none⟩) (n + 1) cap) (l.take i ++ [t] ++ l.drop i) ∧ w.grownBy (rowT W1 g all2) (some g)) := by
    have hg : w.grownBy (rowT W1 g all2) (some g) := grownBy_trans hgW (grown_rowT _ _ _)
    refine ⟨?_, hg⟩
    have hlq : (l.take i ++ [t] ++ l.drop i).length = n + 1 := by simp; omega
    have := ownT_row (base := base) (l := l.take i ++ [t] ++ l.drop i) (hb1.set all2) hbase (by omega) (by omega) (by
      have e : all2.take (l.take i ++ [t] ++ l.drop i).length = (all.take n).take i ++ [x] ++ (all.take n).drop i := by
        rw [hlq, hall2, hall1]; exact ins_take all x i n hi (by omega)
      rw [e]
      exact ((((he.take i).append (EachT.one hx.is)).append (he.drop i))).kept hg (hb.rowOf (Nat.zero_le _)))
    rw [hlq, hlen2] at this
    exact this
  have u1 : ((i : Int) == (n : Int)) = false := by simp; omega
  have u2 : i + 1 ≤ n := by omega
  have u3 : n + 1 ≤ cap := by omega
  rw [← hcap]
  clear hall1 hall2 he hb hb1 hn hcap hW1 hlen1 hlen2 hm hA0 hA2 hA3 hxc hx hgW hroom
  have OV' := OV.out
  go_enter Try.func74, Try.ntmps74
  go_wp2_with (simp only [OV'])
  have hw1 : IntKind.i64.wrap ((i : Int) + 1) = (i : Int) + 1 := by rw [IntKind.wrap_i64]; omega
  have hw2 : (0 : Int) ≤ (i : Int) + 1 := by omega
  have hw3 : (i : Int) + 1 ≤ (n : Int) + 1 := by omega
  have hw4 : ((i : Int) + 1).toNat = i + 1 := by omega
  have hw5 : ¬ (cap = i + 1) := by omega
  have hw6 : ¬ (cap = i) := by omega
  have hw7 : (i : Int) ≤ (n : Int) + 1 := by omega
  have C1' := C1.out
  go_region
  have C2' := C2.out
  go_wp2_with (simp only [C2'])
  go_ret
  exact ⟨_, rfl, FIN.out.1, FIN.out.2⟩
set_option maxRecDepth 100000 in
set_option maxHeartbeats 1000000 in
theorem tinsert_grow (base : Nat) (w : World) (g : Nat) (all : List VP) (l : FL) (i nb : Nat) (x : VP) (t : Tn) (hb : BlkT w g all) (hbase : base ≤ g) (hla : l.length ≤ all.length) (he : EachT 0 w (all.take l.length) l) (hi : i < l.length) (hl : l.length ≤ 900)
    (hx : OneT 0 w nb x t) (hroom : all.length < l.length + 1) :
    Calls Try.prog 74 #[.slice (some ⟨g, 0, none⟩) l.length all.length, .int .i64 (i : Int), .slice (some ⟨nb, 0, none⟩) 1 1] w fun e w' => ∃ v', e = .returned v' ∧ OwnT base w' v' (l.take i ++ [t] ++ l.drop i) ∧ w.grownBy w' (some g) := by
  obtain ⟨n, hn⟩ : ∃ n, n = l.length := ⟨_, rfl⟩
  obtain ⟨cap, hcap⟩ : ∃ cap, cap = all.length := ⟨_, rfl⟩
  rw [← hn]
  rw [← hn] at he hla hi hl hroom
  obtain ⟨A0, hA0, k0⟩ := tslice_l g n cap i (by omega)
  have e0 := hA0 (by omega)
  subst e0
  have k1 := tslice_h g n cap i (by omega)
  obtain ⟨rest, r1, r2, hz⟩ := run_zerosT w g all hb 26 i (n + 1 - i) (by omega) (by omega) (by omega) (by omega)
  rw [← hcap, show i + (n + 1 - i) = n + 1 by omega] at hz
  obtain ⟨H, hH⟩ : ∃ H, H = w.heap.size := ⟨_, rfl⟩
  obtain ⟨C, hC⟩ : ∃ C, C = i + rest.length := ⟨_, rfl⟩
  rw [← hH, ← hC] at hz
  obtain ⟨W1, hW1⟩ : ∃ W1, W1 = w.drew.alloc (.cells (flat (all.take i ++ rest)).toArray 97) := ⟨_, rfl⟩
  rw [← hW1] at hz
  have hb1 : BlkT W1 H (all.take i ++ rest) := by rw [hW1, hH]; exact heap_alloc_new w.drew _
  have hg1 : w.grownBy W1 none := by rw [hW1]; exact grown_alloc (grown_drew (grown_refl _ _)) _
  have hlen0 : (all.take i ++ rest).length = C := by rw [hC]; simp; omega
  obtain ⟨A2, hA2, k2⟩ := tslice_l H (n + 1) C i (by omega)
  have e2 := hA2 (by omega)
  subst e2
  have C1 : Hid (∀ ty dc, (Builtin.copy_ #[26, 26] ty #[.slice (some ⟨H, i * 2, none⟩) (n + 1 - i) dc, .slice (some ⟨nb, 0, none⟩) 1 1]).run Try.prog W1 = .ok (goInt 1) (rowT W1 H ((all.take i ++ rest).take i ++ [x] ++ (all.take i ++ rest).drop (i + 1)))) := fun ty dc => by
    exact run_copyT W1 H _ [x] hb1 ty i (n + 1 - i) dc ⟨nb, 0, none⟩ 1 1 (by simp only [Nat.min_def]; split <;> simp; omega) (fun j u hj => hg1.cell (hx.cells j u hj) (by simp)) (by simp; omega) hx.oneV
  obtain ⟨all1, hall1⟩ : ∃ all1, all1 = (all.take i ++ rest).take i ++ [x] ++ (all.take i ++ rest).drop (i + 1) := ⟨_, rfl⟩
  rw [← hall1] at C1
  obtain ⟨W2, hW2⟩ : ∃ W2, W2 = rowT W1 H all1 := ⟨_, rfl⟩
  have hb2 : BlkT W2 H all1 := by rw [hW2]; exact hb1.set all1
  rw [← hW2] at C1
  have hg2 : w.grownBy W2 none := by rw [hW2]; exact grown_rowNew hg1 H (by omega) _
  have hlen1 : all1.length = C := by rw [hall1]; simp at hlen0 ⊢; omega
  have hbg : BlkT W2.drew g all := by
    have := hg2.block g hb.lt (by simp)
    have h3 := hb
    unfold BlkT at h3 ⊢
    rw [← h3, ← this]; rfl
  have C2 : Hid (∀ ty dc sc, (Builtin.copy_ #[26, 26] ty #[.slice (some ⟨H, (i + 1) * 2, none⟩) (n - i) dc, .slice (some ⟨g, i * 2, none⟩) (n - i) sc]).run Try.prog W2.drew = .ok (goInt ((n - i : Nat) : Int)) (rowT W2.drew H (all1.take (i + 1) ++ (all.drop i).take (n - i) ++ all1.drop (i + 1 + (n - i))))) := fun ty dc sc => by
    have hlen : ((all.drop i).take (n - i)).length = n - i := by simp; omega
    have := run_copyT W2.drew H all1 ((all.drop i).take (n - i)) hb2.drew ty (i + 1) (n - i) dc ⟨g, i * 2, none⟩ (n - i) sc (by rw [hlen]; simp only [Nat.min_def]; split <;> omega) (hbg.cellsT i (n - i)) (by omega) (by
      have h1 : OneV (all.take n) := he.oneV
      intro y hy
      refine h1 y ?_
      rw [← List.drop_take] at hy
      exact List.mem_of_mem_drop hy)
    rw [hlen] at this
    exact this
  obtain ⟨all2, hall2⟩ : ∃ all2, all2 = all1.take (i + 1) ++ (all.drop i).take (n - i) ++ all1.drop (i + 1 + (n - i)) := ⟨_, rfl⟩
  rw [← hall2] at C2
  have hlen2 : all2.length = C := by rw [hall2]; simp; omega
  have FIN : Hid (OwnT base (rowT W2.drew H all2) (.slice (some ⟨H, 0, none⟩) (n + 1) C) (l.take i ++ [t] ++ l.drop i) ∧ w.grownBy (rowT W2.drew H all2) (some g)) := by
    have hg : w.grownBy (rowT W2.drew H all2) none := grown_rowNew (grown_drew hg2) H (by omega) _
    refine ⟨?_, grownBy_any hg⟩
    have hlq : (l.take i ++ [t] ++ l.drop i).length = n + 1 := by simp; omega
    have := ownT_row (base := base) (l := l.take i ++ [t] ++ l.drop i) (hb2.drew.set all2) (by have := hb.lt; omega) (by omega) (by omega) (by
      have e : all2.take (l.take i ++ [t] ++ l.drop i).length = (all.take n).take i ++ [x] ++ (all.take n).drop i := by
        rw [hlq, hall2, hall1]; exact gro_take all rest x i n hi (by omega)
      rw [e]
      exact ((((he.take i).append (EachT.one hx.is)).append (he.drop i))).kept hg (.inl rfl))
    rw [hlq, hlen2] at this
    exact this
  have u1 : ((i : Int) == (n : Int)) = false := by simp; omega
  have u2 : i + 1 ≤ n := by omega
  have u3 : n ≤ cap := by omega
  have u4 : cap < n + 1 := by omega
  have u5 : n + 1 ≤ C := by omega
  have u6 : (cap : Int) < (n : Int) + 1 := by omega
  have hw1 : IntKind.i64.wrap ((i : Int) + 1) = (i : Int) + 1 := by rw [IntKind.wrap_i64]; omega
  have hw0 : IntKind.i64.wrap ((n : Int) + 1) = (n : Int) + 1 := by rw [IntKind.wrap_i64]; omega
  have hwa : IntKind.i64.wrap ((n : Int) + 1 - (i : Int)) = ((n + 1 - i : Nat) : Int) := by rw [IntKind.wrap_i64]; omega
  have hw2 : (0 : Int) ≤ (i : Int) + 1 := by omega
  have hw3 : (i : Int) + 1 ≤ (n : Int) + 1 := by omega
  have hw4 : ((i : Int) + 1).toNat = i + 1 := by omega
  have hw5 : ¬ (C = i + 1) := by omega
  have hw6 : ¬ (cap = i) := by omega
  have hw8 : ¬ (C = i) := by omega
  have hw7 : (i : Int) ≤ (n : Int) + 1 := by omega
  rw [← hcap]
  have HZ : Hid ((Builtin.append_ #[26, 3] 26 #[.slice (some ⟨g, 0, none⟩) i cap, .int .i64 ((n + 1 - i : Nat) : Int)]).run Try.prog w = .ok (.slice (some ⟨H, 0, none⟩) (n + 1) C) W1) := hz
  clear hall1 hall2 he hb hb1 hn hcap hW1 hW2 hlen1 hlen2 hla hA0 hA2 hx hg1 hg2 hroom hz hH hC hb2 hbg hlen0 r1 r2
  go_enter Try.func74, Try.ntmps74
  go_wp2_with (at_builtin; refine Lib.wpList_append_run _ rfl _ _ _ _ rfl _ _ rfl rfl _ _ HZ.out ?_)
  have C1' := C1.out
  go_wp2_with (simp only [C1'])
  have C2' := C2.out
  go_region
  go_wp2
  go_ret
  exact ⟨_, rfl, FIN.out.1, FIN.out.2⟩
end Go.Proofs.Ytpmfbfflacbmjab
