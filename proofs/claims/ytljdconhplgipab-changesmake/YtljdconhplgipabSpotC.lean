/-
  cmp.Or at two numbers, and the closure of history.spots that compares two writes by their places.
-/
import Derived.Test.YtljdconhplgipabPart5
import Derived.Test.YtljdconhplgipabWrMem
import Derived.Sort.Grow
import Derived.Deep.RegionHeld3
namespace Go.Proofs.Ytljdconhplgipab
open Go.RowKit
theorem ret_intC {x y : Int} (h : x = y) : Ending.returned (Value.int .i64 y) = Ending.returned (Value.int .i64 x) := by rw [h]
set_option maxRecDepth 100000 in
set_option maxHeartbeats 2000000 in
theorem or_two (w : World) (b : Nat) (x y : Int) (h0 : w.cell? ⟨b, 0, none⟩ = some (.int .i64 x)) (h1 : w.cell? ⟨b, 1, none⟩ = some (.int .i64 y)) :
    Calls Try.prog 29 #[.slice (some ⟨b, 0, none⟩) 2 2] w fun e w' => e = .returned (.int .i64 (if x = 0 then y else x)) ∧ w' = w := by
  obtain ⟨z, hz⟩ : ∃ z, z = if x = 0 then y else x := ⟨_, rfl⟩
  have HZ : Hid (z = if x = 0 then y else x) := hz
  rw [← hz]
  clear hz
  have H0 : Hid (w.cell? ⟨b, 0, none⟩ = some (.int .i64 x)) := h0
  have H1 : Hid (w.cell? ⟨b, 1, none⟩ = some (.int .i64 y)) := h1
  clear h0 h1
  go_enter Try.func29, Try.ntmps29
  go_wp2_with fail
  go_loopw [8] (fun i wr => ∃ k : Nat, k ≤ 2 ∧ i = .int .i64 (k : Int) ∧ (1 ≤ k → x = 0) ∧ (2 ≤ k → y = 0) ∧ wr = w) (fun i _ => 2 - (intOf i).toNat)
  case atStart => exact ⟨0, by omega, rfl, fun h => by omega, fun h => by omega, rfl⟩
  case round =>
    obtain ⟨k, hk, rfl, hx, hy, rfl⟩ := hrel
    have HX : Hid (1 ≤ k → x = 0) := hx
    have HY : Hid (2 ≤ k → y = 0) := hy
    clear hx hy
    obtain rfl | rfl | rfl : k = 0 ∨ k = 1 ∨ k = 2 := by omega
    · have c0 := H0.out
      by_cases hx : x = 0
      · subst hx
        go_wp2_with fail
        go_roundw
        case rel => exact ⟨1, by omega, by go_num, by first | trivial | exact fun _ => rfl, fun h => by omega, by first | rfl | trivial⟩
        case measure => simp [intOf]
      · have hx' : (x != 0) = true := by simpa using hx
        have HE : Hid (z = x) := by show _ = _; rw [HZ.out, if_neg hx]
        clear hx
        go_wp2
        go_ret
        exact ⟨ret_intC HE.out, rfl⟩
    · have c1 := H1.out
      have hx := HX.out (by omega)
      have HE : Hid (z = y) := by show _ = _; rw [HZ.out, if_pos hx]
      clear hx
      by_cases hy : y = 0
      · have HXX := HX.out (by omega)
        subst hy
        go_wp2_with fail
        go_roundw
        case rel => exact ⟨2, by omega, by go_num, fun _ => HXX, by first | trivial | exact fun _ => rfl, by first | rfl | trivial⟩
        case measure => simp [intOf]
      · have hy' : (y != 0) = true := by simpa using hy
        clear hy
        go_wp2
        go_ret
        exact ⟨ret_intC HE.out, rfl⟩
    · have hx := HX.out (by omega)
      have hy := HY.out (by omega)
      have HE : Hid (z = 0) := by show _ = _; rw [HZ.out, if_pos hx, hy]
      clear hx hy
      go_wp2
      go_ret
      exact ⟨ret_intC HE.out, rfl⟩

theorem quad_cells {w : World} {b : Nat} {x y z u : Value} {t : TypeId} (h : w.heap[b]? = some (.cells #[x, y, z, u] t)) : w.cell? ⟨b, 0, none⟩ = some x ∧ w.cell? ⟨b, 1, none⟩ = some y := by
  constructor <;> simp [World.cell?, h]
theorem pair_cellsI {w : World} {x y : Value} {t : TypeId} : (w.alloc (.cells #[x, y] t)).cell? ⟨w.heap.size, 0, none⟩ = some x ∧ (w.alloc (.cells #[x, y] t)).cell? ⟨w.heap.size, 1, none⟩ = some y := by
  constructor <;> simp
set_option maxRecDepth 100000 in
set_option maxHeartbeats 2000000 in
theorem cmp1_any (W : World) (an ak av bn bk bv : Value) (p q : Plc) (h1 : SliceIs W an p.name) (h2 : SliceIs W ak p.key) (h3 : SliceIs W bn q.name) (h4 : SliceIs W bk q.key) :
    Calls Try.prog 28 #[.agg #[an, ak, .bool p.gone, av], .agg #[bn, bk, .bool q.gone, bv]] W fun e w' => e = .returned (.int .i64 (cmpP p q)) ∧ ∃ n os', w' = Go.Sort.grow (W.drewN n) os' := by
  obtain ⟨na, nc, rfl⟩ := h1.shape
  obtain ⟨ka, kc, rfl⟩ := h2.shape
  obtain ⟨ma, mc, rfl⟩ := h3.shape
  obtain ⟨la, lc, rfl⟩ := h4.shape
  obtain ⟨O1, hO1⟩ : ∃ O1 : Obj, O1 = .cells #[.slice na p.name.length nc, .slice ka p.key.length kc, .bool p.gone, av] 35 := ⟨_, rfl⟩
  obtain ⟨O2, hO2⟩ : ∃ O2 : Obj, O2 = .cells #[.slice ma q.name.length mc, .slice la q.key.length lc, .bool q.gone, bv] 35 := ⟨_, rfl⟩
  obtain ⟨W2, hW2⟩ : ∃ W2 : World, W2 = (W.alloc O1).alloc O2 := ⟨_, rfl⟩
  have hg2 : W.grownBy W2 none := by rw [hW2]; exact grown_trans (World.grownBy_alloc _ _ _) (World.grownBy_alloc _ _ _)
  have hb1 : W2.heap[W.heap.size]? = some O1 := by rw [hW2]; exact pair_old (World.grownBy_alloc _ _ _) (heap_alloc_new W O1)
  have hb2 : W2.heap[W.heap.size + 1]? = some O2 := by
    rw [hW2]
    have := heap_alloc_new (W.alloc O1) O2
    simpa using this
  rw [hO1] at hb1
  rw [hO2] at hb2
  obtain ⟨c1, c2⟩ := quad_cells hb1
  obtain ⟨c3, c4⟩ := quad_cells hb2
  have HW2 : Hid (W2 = (W.alloc (.cells #[.slice na p.name.length nc, .slice ka p.key.length kc, .bool p.gone, av] 35)).alloc (.cells #[.slice ma q.name.length mc, .slice la q.key.length lc, .bool q.gone, bv] 35)) := by show _ = _; rw [hW2, hO1, hO2]
  have CN : Hid (∀ w', W2.grownBy w' none → Calls Try.prog 30 #[.slice na p.name.length nc, .slice ma q.name.length mc] w' fun e w'' => e = .returned (.int .i64 (cmpF p.name q.name)) ∧ w'' = w') := fun w' h => compare_any w' _ _ _ _ (h1.grown (grown_trans hg2 h)) (h3.grown (grown_trans hg2 h))
  have CK : Hid (∀ w', W2.grownBy w' none → Calls Try.prog 30 #[.slice ka p.key.length kc, .slice la q.key.length lc] w' fun e w'' => e = .returned (.int .i64 (cmpF p.key q.key)) ∧ w'' = w') := fun w' h => compare_any w' _ _ _ _ (h2.grown (grown_trans hg2 h)) (h4.grown (grown_trans hg2 h))
  have HP : Hid (cmpP p q = if cmpF p.name q.name = 0 then cmpF p.key q.key else cmpF p.name q.name) := rfl
  have OR : Hid (∀ w' b, w'.cell? ⟨b, 0, none⟩ = some (.int .i64 (cmpF p.name q.name)) → w'.cell? ⟨b, 1, none⟩ = some (.int .i64 (cmpF p.key q.key)) → Calls Try.prog 29 #[.slice (some ⟨b, 0, none⟩) 2 2] w' fun e w'' => e = .returned (.int .i64 (cmpP p q)) ∧ w'' = w') := fun w' b e1 e2 => by
    rw [HP.out]; exact or_two w' b _ _ e1 e2
  clear h1 h2 h3 h4 hb1 hb2 hW2 hO1 hO2 HP
  generalize cmpP p q = z at *
  generalize cmpF p.name q.name = x at *
  generalize cmpF p.key q.key = y at *
  generalize p.name.length = n1 at *
  generalize p.key.length = n2 at *
  generalize q.name.length = n3 at *
  generalize q.key.length = n4 at *
  generalize p.gone = g1 at *
  generalize q.gone = g2 at *
  have HF : Hid (∀ o, ∃ n os', (W2.alloc o).drew = Go.Sort.grow (W.drewN n) os') := fun o => ⟨1, _, by
    rw [HW2.out, Go.Sort.alloc_eq_grow W, Go.Sort.alloc_eq_grow (Go.Sort.grow W _), Go.Sort.grow_grow, Go.Sort.alloc_eq_grow (Go.Sort.grow W _), Go.Sort.grow_grow]
    rfl⟩
  go_enter Try.func28, Try.ntmps28
  go_upto_region 1 with fail
  rw [← HW2.out]
  have e1 : W2.drew.cell? ⟨W.heap.size, 0, none⟩ = some (.slice na n1 nc) := c1
  have e2 : W2.drew.cell? ⟨W.heap.size, 1, none⟩ = some (.slice ka n2 kc) := c2
  have e3 : W2.drew.cell? ⟨W.heap.size + 1, 0, none⟩ = some (.slice ma n3 mc) := c3
  have e4 : W2.drew.cell? ⟨W.heap.size + 1, 1, none⟩ = some (.slice la n4 lc) := c4
  have hgd : W2.grownBy W2.drew none := grown_drew (grown_refl _ _)
  go_region_held3 (fun w' => w'.cell? ⟨W.heap.size, 0, none⟩ = some (.slice na n1 nc) ∧ w'.cell? ⟨W.heap.size, 1, none⟩ = some (.slice ka n2 kc) ∧ w'.cell? ⟨W.heap.size + 1, 0, none⟩ = some (.slice ma n3 mc) ∧ w'.cell? ⟨W.heap.size + 1, 1, none⟩ = some (.slice la n4 lc))
    (first | exact ⟨e1, e2, e3, e4⟩ | exact ⟨(World.grownBy_alloc _ _ none).cell e1 (by simp), (World.grownBy_alloc _ _ none).cell e2 (by simp), (World.grownBy_alloc _ _ none).cell e3 (by simp), (World.grownBy_alloc _ _ none).cell e4 (by simp)⟩)
    (first
      | (go_at_call_of 30 (Value.slice na n1 nc); refine (CN.out _ hgd).mono ?_; rintro e w2 ⟨rfl, rfl⟩)
      | (go_at_call_of 30 (Value.slice ka n2 kc); refine (CK.out _ hgd).mono ?_; rintro e w3 ⟨rfl, rfl⟩)
      | (go_at_call 29; refine (OR.out (W2.alloc (.cells #[.int .i64 x, .int .i64 y] 3)).drew W2.heap.size (pair_cellsI (w := W2)).1 (pair_cellsI (w := W2)).2).mono ?_; rintro e w4 ⟨rfl, rfl⟩))
  go_wp2
  go_ret
  exact ⟨rfl, HF.out _⟩
end Go.Proofs.Ytljdconhplgipab
