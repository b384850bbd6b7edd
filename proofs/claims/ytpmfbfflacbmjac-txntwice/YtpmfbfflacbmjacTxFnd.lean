/-
  txn.findRead and txn.findWrite, as they landed.
-/
import Derived.Test.YtpmfbfflacbmjacTxIdR
import Derived.Test.YtpmfbfflacbmjacTxIdW
import Derived.Test.YtpmfbfflacbmjacEqB
import Derived.Test.YtpmfbfflacbmjacPart2
import Derived.Shelf.Abstract
namespace Go.Proofs.Ytpmfbfflacbmjac
open Go.RowKit
set_option maxRecDepth 100000 in
set_option maxHeartbeats 2000000 in
/-- The closure of findRead: r lies in a block of its own. -/
theorem sameR_any (W : World) (rb : Nat) (x : Value) (q r : Rd) (na ka la : Option Addr) (nc kc lc : Nat) (hx : ReadIs W x q) (hb : W.heap[rb]? = some (.cells #[.slice na r.name.length nc, .slice ka r.key.length kc, .bool r.wide, .slice la r.last.length lc] 40))
    (s1 : SliceIs W (.slice na r.name.length nc) r.name) (s2 : SliceIs W (.slice ka r.key.length kc) r.key) (s3 : SliceIs W (.slice la r.last.length lc) r.last) :
    Calls Try.prog 63 #[x, .pointer (some ⟨rb, 0, none⟩)] W fun e w' => e = .returned (.bool (rdSame q r)) ∧ W.grownBy w' none := by
  obtain ⟨ma, mc, ja, jc, ha, hc, rfl⟩ := hx.agg
  obtain ⟨v1, v2, _, v3⟩ := hx.parts
  obtain ⟨W1, HW1, hg1, B1⟩ := alloc_namedX W (.cells #[.slice ma q.name.length mc, .slice ja q.key.length jc, .bool q.wide, .slice ha q.last.length hc] 40)
  obtain ⟨⟨a0, a1, a2, a3⟩, _⟩ := quad_room (grown_refl W1 none) B1.out
  obtain ⟨⟨b0, b1, b2, b3⟩, _⟩ := quad_room hg1 hb
  have SN : Hid (Calls Try.prog 51 #[.slice ma q.name.length mc, .slice na r.name.length nc] W1 fun e w' => e = .returned (.bool (decide (q.name = r.name))) ∧ w' = W1) := equal_any W1 _ _ _ _ (v1.grown hg1) (s1.grown hg1)
  have SK : Hid (Calls Try.prog 51 #[.slice ja q.key.length jc, .slice ka r.key.length kc] W1 fun e w' => e = .returned (.bool (decide (q.key = r.key))) ∧ w' = W1) := equal_any W1 _ _ _ _ (v2.grown hg1) (s2.grown hg1)
  have SL : Hid (Calls Try.prog 51 #[.slice ha q.last.length hc, .slice la r.last.length lc] W1 fun e w' => e = .returned (.bool (decide (q.last = r.last))) ∧ w' = W1) := equal_any W1 _ _ _ _ (v3.grown hg1) (s3.grown hg1)
  have HE : Hid (rdSame q r = (q.wide == r.wide && (decide (q.name = r.name) && (decide (q.key = r.key) && decide (q.last = r.last))))) := rfl
  obtain ⟨Z, hZ⟩ : ∃ Z, Z = rdSame q r := ⟨_, rfl⟩
  rw [← hZ] at HE ⊢
  clear hZ hx v1 v2 v3 s1 s2 s3 hb B1
  generalize decide (q.name = r.name) = EN at *
  generalize decide (q.key = r.key) = EK at *
  generalize decide (q.last = r.last) = EL at *
  generalize r.name.length = n1 at *
  generalize r.key.length = n2 at *
  generalize r.last.length = n3 at *
  generalize q.name.length = n4 at *
  generalize q.key.length = n5 at *
  generalize q.last.length = n6 at *
  generalize r.wide = wr at *
  generalize q.wide = wq at *
  cases EN with
  | false =>
    have HZ : Hid (Z = false) := by show _ = _; rw [HE.out]; simp
    clear HE
    go_enter Try.func63, Try.ntmps63
    go_upto_region 1 with fail
    rw [← HW1.out]
    go_wp2_with fail
    refine SN.out.mono ?_
    rintro e w1 ⟨rfl, rfl⟩
    go_wp2
    go_ret
    exact ⟨ret_boolX HZ.out, hg1⟩
  | true => cases EK with
    | false =>
      have HZ : Hid (Z = false) := by show _ = _; rw [HE.out]; simp
      clear HE
      go_enter Try.func63, Try.ntmps63
      go_upto_region 1 with fail
      rw [← HW1.out]
      go_wp2_with fail
      refine SN.out.mono ?_
      rintro e w1 ⟨rfl, rfl⟩
      go_wp2_with fail
      refine SK.out.mono ?_
      rintro e w1 ⟨rfl, rfl⟩
      go_wp2
      go_ret
      exact ⟨ret_boolX HZ.out, hg1⟩
    | true =>
      cases wr <;> cases wq
      case false.true | true.false =>
        all_goals
          have HZ : Hid (Z = false) := by show _ = _; rw [HE.out]; rfl
          clear HE
          go_enter Try.func63, Try.ntmps63
          go_upto_region 1 with fail
          rw [← HW1.out]
          go_wp2_with fail
          refine SN.out.mono ?_
          rintro e w1 ⟨rfl, rfl⟩
          go_wp2_with fail
          refine SK.out.mono ?_
          rintro e w1 ⟨rfl, rfl⟩
          go_wp2
          go_ret
          exact ⟨ret_boolX HZ.out, hg1⟩
      all_goals
        have HZ : Hid (Z = EL) := by show _ = _; rw [HE.out]; rfl
        clear HE
        go_enter Try.func63, Try.ntmps63
        go_upto_region 1 with fail
        rw [← HW1.out]
        go_wp2_with fail
        refine SN.out.mono ?_
        rintro e w1 ⟨rfl, rfl⟩
        go_wp2_with fail
        refine SK.out.mono ?_
        rintro e w1 ⟨rfl, rfl⟩
        go_wp2_with fail
        refine SL.out.mono ?_
        rintro e w1 ⟨rfl, rfl⟩
        go_wp2
        go_ret
        exact ⟨ret_boolX HZ.out, hg1⟩
set_option maxRecDepth 100000 in
set_option maxHeartbeats 2000000 in
theorem findRead_any (w : World) (v u : Value) (l : List Rd) (r : Rd) (hv : ReadsIs w v l) (hl : l.length ≤ 140737488355328) (hu : ReadIs w u r) :
    Calls Try.prog 35 #[v, u] w fun e w' => e = .returned (.int .i64 (firstP (fun q => rdSame q r) l)) ∧ w.grownBy w' none := by
  obtain ⟨na, nc, ka, kc, la, lc, rfl⟩ := hu.agg
  obtain ⟨s1, s2, _, s3⟩ := hu.parts
  obtain ⟨W1, HW1, hg1, B1⟩ := alloc_namedX w (.cells #[.slice na r.name.length nc, .slice ka r.key.length kc, .bool r.wide, .slice la r.last.length lc] 40)
  have IX : Hid (Calls Try.prog 50 #[v, .func (.func 63) #[] #[.pointer (some ⟨w.heap.size, 0, none⟩)]] W1 fun e w' => e = .returned (.int .i64 (firstP (fun q => rdSame q r) l)) ∧ W1.grownBy w' none) :=
    indexR_any W1 v l (fun q => rdSame q r) 63 #[.pointer (some ⟨w.heap.size, 0, none⟩)] (enters_of Try.func63 (by kernel_rfl) rfl) (hv.grown hg1) hl (fun W x q hg hx => sameR_any W w.heap.size x q r na ka la nc kc lc hx (pair_old hg B1.out) (s1.grown (grown_trans hg1 hg)) (s2.grown (grown_trans hg1 hg)) (s3.grown (grown_trans hg1 hg)))
  generalize firstP (fun q => rdSame q r) l = Z at *
  obtain ⟨a, cap, rfl⟩ := hv.shape
  clear hv hu s1 s2 s3 B1 hl
  go_enter Try.func35, Try.ntmps35
  go_upto_region 1 with fail
  rw [← HW1.out]
  go_wp2_with fail
  refine IX.out.mono ?_
  rintro e w2 ⟨rfl, hg2⟩
  go_wp2
  go_ret
  exact ⟨rfl, grown_trans hg1 hg2⟩
set_option maxRecDepth 100000 in
set_option maxHeartbeats 2000000 in
/-- The closure of findWrite: name and key lie in blocks of their own. -/
theorem sameW_any (W : World) (nb kb : Nat) (x vn vk : Value) (q : Plc) (n k : List UInt8) (hx : WriteIs W x q) (c1 : W.cell? ⟨nb, 0, none⟩ = some vn) (c2 : W.cell? ⟨kb, 0, none⟩ = some vk) (s1 : SliceIs W vn n) (s2 : SliceIs W vk k) :
    Calls Try.prog 64 #[x, .pointer (some ⟨nb, 0, none⟩), .pointer (some ⟨kb, 0, none⟩)] W fun e w' => e = .returned (.bool (atPl n k q)) ∧ W.grownBy w' none := by
  obtain ⟨ma, mc, ja, jc, ha, hc, rfl⟩ := hx.aggW
  obtain ⟨x1, x2, x3, ex, v1, v2, v3⟩ := hx
  simp only [Value.agg.injEq, Array.mk.injEq, List.cons.injEq, and_true] at ex
  obtain ⟨rfl, rfl, _, rfl⟩ := ex
  obtain ⟨W1, HW1, hg1, B1⟩ := alloc_namedX W (.cells #[.slice ma q.name.length mc, .slice ja q.key.length jc, .bool q.gone, .slice ha q.value.length hc] 53)
  obtain ⟨⟨a0, a1, a2, a3⟩, _⟩ := quad_room (grown_refl W1 none) B1.out
  have b0 := hg1.cell c1 (by simp)
  have b1 := hg1.cell c2 (by simp)
  have SN : Hid (Calls Try.prog 51 #[.slice ma q.name.length mc, vn] W1 fun e w' => e = .returned (.bool (decide (q.name = n))) ∧ w' = W1) := equal_any W1 _ _ _ _ (v1.grown hg1) (s1.grown hg1)
  have SK : Hid (Calls Try.prog 51 #[.slice ja q.key.length jc, vk] W1 fun e w' => e = .returned (.bool (decide (q.key = k))) ∧ w' = W1) := equal_any W1 _ _ _ _ (v2.grown hg1) (s2.grown hg1)
  have HE : Hid (atPl n k q = (decide (q.name = n) && decide (q.key = k))) := rfl
  obtain ⟨Z, hZ⟩ : ∃ Z, Z = atPl n k q := ⟨_, rfl⟩
  rw [← hZ] at HE ⊢
  obtain ⟨na, nc, rfl⟩ := s1.shape
  obtain ⟨ka, kc, rfl⟩ := s2.shape
  clear hZ v1 v2 v3 s1 s2 B1 c1 c2
  generalize decide (q.name = n) = EN at *
  generalize decide (q.key = k) = EK at *
  generalize q.name.length = n4 at *
  generalize q.key.length = n5 at *
  generalize q.value.length = n6 at *
  generalize q.gone = wq at *
  cases EN with
  | false =>
    have HZ : Hid (Z = false) := by show _ = _; rw [HE.out]; rfl
    clear HE
    go_enter Try.func64, Try.ntmps64
    go_upto_region 1 with fail
    rw [← HW1.out]
    go_wp2_with fail
    refine SN.out.mono ?_
    rintro e w1 ⟨rfl, rfl⟩
    go_wp2
    go_ret
    exact ⟨ret_boolX HZ.out, hg1⟩
  | true =>
    have HZ : Hid (Z = EK) := by show _ = _; rw [HE.out]; rfl
    clear HE
    go_enter Try.func64, Try.ntmps64
    go_upto_region 1 with fail
    rw [← HW1.out]
    go_wp2_with fail
    refine SN.out.mono ?_
    rintro e w1 ⟨rfl, rfl⟩
    go_wp2_with fail
    refine SK.out.mono ?_
    rintro e w1 ⟨rfl, rfl⟩
    go_wp2
    go_ret
    exact ⟨ret_boolX HZ.out, hg1⟩
set_option maxRecDepth 100000 in
set_option maxHeartbeats 2000000 in
theorem findWrite_any (w : World) (v vn vk : Value) (l : List Plc) (n k : List UInt8) (hv : WritesIs w v l) (hl : l.length ≤ 140737488355328) (hn : SliceIs w vn n) (hk : SliceIs w vk k) :
    Calls Try.prog 43 #[v, vn, vk] w fun e w' => e = .returned (.int .i64 (firstP (atPl n k) l)) ∧ w.grownBy w' none := by
  obtain ⟨na, nc, rfl⟩ := hn.shape
  obtain ⟨ka, kc, rfl⟩ := hk.shape
  obtain ⟨W1, HW1, hg1, B1⟩ := alloc_namedX w (.cells #[.slice na n.length nc] 38)
  obtain ⟨W2, HW2, hg2, B2⟩ := alloc_namedX W1 (.cells #[.slice ka k.length kc] 38)
  have s1 : W1.heap.size = w.heap.size + 1 := by rw [HW1.out]; simp
  rw [s1] at B2
  have hg02 := grown_trans hg1 hg2
  have HX : Hid (W2 = (w.alloc (.cells #[.slice na n.length nc] 38)).alloc (.cells #[.slice ka k.length kc] 38)) := by show _ = _; rw [HW2.out, HW1.out]
  have c1 : W2.cell? ⟨w.heap.size, 0, none⟩ = some (.slice na n.length nc) := by simp [World.cell?, pair_old hg2 B1.out]
  have c2 : W2.cell? ⟨w.heap.size + 1, 0, none⟩ = some (.slice ka k.length kc) := by simp [World.cell?, B2.out]
  have IX : Hid (Calls Try.prog 53 #[v, .func (.func 64) #[] #[.pointer (some ⟨w.heap.size, 0, none⟩), .pointer (some ⟨w.heap.size + 1, 0, none⟩)]] W2 fun e w' => e = .returned (.int .i64 (firstP (atPl n k) l)) ∧ W2.grownBy w' none) :=
    indexW_any W2 v l (atPl n k) 64 #[.pointer (some ⟨w.heap.size, 0, none⟩), .pointer (some ⟨w.heap.size + 1, 0, none⟩)] (enters_of Try.func64 (by kernel_rfl) rfl) (hv.grown hg02) hl (fun W x q hg hx => sameW_any W w.heap.size (w.heap.size + 1) x _ _ q n k hx (hg.cell c1 (by simp)) (hg.cell c2 (by simp)) (hn.grown (grown_trans hg02 hg)) (hk.grown (grown_trans hg02 hg)))
  generalize firstP (atPl n k) l = Z at *
  obtain ⟨a, cap, rfl⟩ := hv.shape
  clear hv hn hk B1 B2 HW1 HW2 hl s1 c1 c2
  go_enter Try.func43, Try.ntmps43
  go_upto_region 1 with fail
  rw [← HX.out]
  go_wp2_with fail
  refine IX.out.mono ?_
  rintro e w2 ⟨rfl, hg3⟩
  go_wp2
  go_ret
  exact ⟨rfl, grown_trans hg02 hg3⟩
end Go.Proofs.Ytpmfbfflacbmjac
