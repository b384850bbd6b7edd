/-
  slices.CompactFunc at a list of writes of the call's own, as history.spots calls it.
-/
import Derived.Test.YtljdconhplgipabCompM
import Derived.Test.YtljdconhplgipabSpotC
import Derived.Deep.RegionHeld3
namespace Go.Proofs.Ytljdconhplgipab
open Go.RowKit
/-- The closure that is handed to slices.CompactFunc. -/
def eqV (cb : Nat) : Value := .func (.func 33) #[] #[.pointer (some ⟨cb, 0, none⟩)]
set_option maxRecDepth 100000 in
set_option maxHeartbeats 2000000 in
theorem cmp2_any (W : World) (cb : Nat) (an ak av bn bk bv : Value) (p q : Plc) (hc : W.cell? ⟨cb, 0, none⟩ = some (.func (.func 28) #[] #[])) (h1 : SliceIs W an p.name) (h2 : SliceIs W ak p.key) (h3 : SliceIs W bn q.name) (h4 : SliceIs W bk q.key) :
    Calls Try.prog 33 #[.agg #[an, ak, .bool p.gone, av], .agg #[bn, bk, .bool q.gone, bv], .pointer (some ⟨cb, 0, none⟩)] W fun e w' => e = .returned (.bool (cmpP p q == 0)) ∧ W.grownBy w' none := by
  obtain ⟨na, nc, rfl⟩ := h1.shape
  obtain ⟨ka, kc, rfl⟩ := h2.shape
  obtain ⟨ma, mc, rfl⟩ := h3.shape
  obtain ⟨la, lc, rfl⟩ := h4.shape
  obtain ⟨O1, hO1⟩ : ∃ O1 : Obj, O1 = .cells #[.slice na p.name.length nc, .slice ka p.key.length kc, .bool p.gone, av] 35 := ⟨_, rfl⟩
  obtain ⟨O2, hO2⟩ : ∃ O2 : Obj, O2 = .cells #[.slice ma q.name.length mc, .slice la q.key.length lc, .bool q.gone, bv] 35 := ⟨_, rfl⟩
  obtain ⟨W2, hW2⟩ : ∃ W2 : World, W2 = (W.alloc O1).alloc O2 := ⟨_, rfl⟩
  have hg2 : W.grownBy W2 none := by rw [hW2]; exact grown_trans (World.grownBy_alloc _ _ _) (World.grownBy_alloc _ _ _)
  have hb1 : W2.heap[W.heap.size]? = some O1 := by rw [hW2]; exact pair_old (World.grownBy_alloc _ _ _) (heap_alloc_new W O1)
  have hb2 : W2.heap[W.heap.size + 1]? = some O2 := by
    rw [hW2]
    have := heap_alloc_new (W.alloc O1) O2
    simpa using this
  rw [hO1] at hb1
  rw [hO2] at hb2
  obtain ⟨⟨c1, c2, c3, c4⟩, _⟩ := quad_room (grown_refl W2 none) hb1
  obtain ⟨⟨d1, d2, d3, d4⟩, _⟩ := quad_room (grown_refl W2 none) hb2
  have c0 := hg2.cell hc (by simp)
  have HW2 : Hid (W2 = (W.alloc (.cells #[.slice na p.name.length nc, .slice ka p.key.length kc, .bool p.gone, av] 35)).alloc (.cells #[.slice ma q.name.length mc, .slice la q.key.length lc, .bool q.gone, bv] 35)) := by show _ = _; rw [hW2, hO1, hO2]
  have CM : Hid (Calls Try.prog 28 #[.agg #[.slice na p.name.length nc, .slice ka p.key.length kc, .bool p.gone, av], .agg #[.slice ma q.name.length mc, .slice la q.key.length lc, .bool q.gone, bv]] W2 fun e w' => e = .returned (.int .i64 (cmpP p q)) ∧ W2.grownBy w' none) := by
    refine (cmp1_any W2 _ _ av _ _ bv p q (h1.grown hg2) (h2.grown hg2) (h3.grown hg2) (h4.grown hg2)).mono ?_
    rintro e w' ⟨rfl, n, os', rfl⟩
    exact ⟨rfl, ⟨rfl, rfl, rfl, by simp [Go.Sort.grow, World.drewN], fun i hi _ => by
      show (W2.heap ++ os')[i]? = _
      rw [Array.getElem?_append_left hi]⟩⟩
  clear h1 h2 h3 h4 hb1 hb2 hW2 hO1 hO2 hc
  generalize cmpP p q = z at *
  generalize p.name.length = n1 at *
  generalize p.key.length = n2 at *
  generalize q.name.length = n3 at *
  generalize q.key.length = n4 at *
  generalize p.gone = g1 at *
  generalize q.gone = g2 at *
  go_enter Try.func33, Try.ntmps33
  go_upto_region 1 with fail
  rw [← HW2.out]
  go_wp2_with fail
  refine CM.out.mono ?_
  rintro e w3 ⟨rfl, hg3⟩
  go_wp2
  go_ret
  exact ⟨rfl, grown_trans hg2 hg3⟩
theorem grown_someC {w w' : World} (h : w.grownBy w' none) (r : Option Nat) : w.grownBy w' r := ⟨h.os, h.tape, h.output, h.size, fun i hi _ => h.block i hi (by simp)⟩
theorem grown_thenC {w w1 w2 : World} {r : Option Nat} (h : w.grownBy w1 r) (k : w1.grownBy w2 none) : w.grownBy w2 r := ⟨k.os.trans h.os, k.tape.trans h.tape, k.output.trans h.output, Nat.le_trans h.size k.size, fun i hi hn => (k.block i (Nat.lt_of_lt_of_le hi h.size) (by simp)).trans (h.block i hi hn)⟩
theorem grown_rowC {w w1 w2 : World} {r : Option Nat} (h : w.grownBy w1 r) (k : w1.grownBy w2 r) : w.grownBy w2 r := ⟨k.os.trans h.os, k.tape.trans h.tape, k.output.trans h.output, Nat.le_trans h.size k.size, fun i hi hn => (k.block i (Nat.lt_of_lt_of_le hi h.size) hn).trans (h.block i hi hn)⟩
theorem sizeWr (w : World) : (sizeOf (Try.prog.elem 26)).run Try.prog w = .ok 4 w := by kernel_rfl
/-- l[n:] of a row. -/
theorem rslice_l (g n m cap : Nat) (hm : m < n) (hc : n ≤ cap) (W : World) : (Instr.slice 26 (.slice (some ⟨g, 0, none⟩) n cap) (some (.int .i64 (m : Int))) none none).run Try.prog W = .ok (.slice (some ⟨g, m * 4, none⟩) (n - m) (cap - m)) W := by
  rw [run_slice_l _ _ _ _ _ (by kernel_rfl) _ _ (by omega) (by omega), sizeWr]
  simp only [Result.andThen, Go.sliced, Int.toNat_natCast]
  rw [if_neg (by omega)]
  simp [addr_add]
/-- l[:n] of a row. -/
theorem rslice_h (g n m cap : Nat) (hm : m ≤ n) (hc : n ≤ cap) (h0 : 0 < cap) (W : World) : (Instr.slice 26 (.slice (some ⟨g, 0, none⟩) n cap) none (some (.int .i64 (m : Int))) none).run Try.prog W = .ok (.slice (some ⟨g, 0, none⟩) m cap) W := by
  rw [run_slice_h _ _ _ _ _ (by kernel_rfl) _ _ (by omega) (by omega), sizeWr]
  simp only [Result.andThen, Go.sliced, Int.toNat_natCast, Nat.sub_zero]
  rw [if_neg (by omega)]
  simp [addr_add]
theorem infoWrZ (w : World) : (zeroValue 35).run Try.prog w = .ok (.agg #[.slice none 0 0, .slice none 0 0, .bool false, .slice none 0 0]) w := Try.zeroValue35 w
/-- clear of the end of a row. -/
theorem run_clearW (W : World) (g k n c : Nat) (hn : 0 < n) (hc : ∀ j, j < n * 4 → (W.cell? ⟨g, k * 4 + j, none⟩).isSome = true) (hf : ∀ j, W.frozen? ⟨g, j, none⟩ = false) : ∃ vs, ∀ ty, (Builtin.clear_ #[26] ty #[.slice (some ⟨g, k * 4, none⟩) n c]).run Try.prog W = .ok (.tuple #[]) (W.setCells g (k * 4) vs) := by
  have hz : ∀ v ∈ (Builtin.zeroCells (Value.agg #[.slice none 0 0, .slice none 0 0, .bool false, .slice none 0 0]).cells n).toList, v.oneCell' = true := by
    intro v hv
    simp [Builtin.zeroCells] at hv
    obtain ⟨j, hj, rfl⟩ := hv
    have : j % 4 < 4 := Nat.mod_lt _ (by omega)
    simp [Value.cells]
    generalize j % 4 = r at *
    match r, this with
    | 0, _ => rfl
    | 1, _ => rfl
    | 2, _ => rfl
    | 3, _ => rfl
  have hs : (Builtin.zeroCells (Value.agg #[.slice none 0 0, .slice none 0 0, .bool false, .slice none 0 0]).cells n).toList.length = n * 4 := by simp [Builtin.zeroCells, Value.cells]
  have hst := run_storeCells_cells (P := Try.prog) g (k * 4) _ 0 W (by intro j hj; rw [hs] at hj; exact hc j hj) (by intro j hj; exact hf _) hz
  simp only [Nat.add_zero] at hst
  obtain ⟨m, rfl⟩ : ∃ m, n = m + 1 := ⟨n - 1, by omega⟩
  refine ⟨(Builtin.zeroCells (Value.agg #[.slice none 0 0, .slice none 0 0, .bool false, .slice none 0 0]).cells (m + 1)).toList, fun ty => ?_⟩
  generalize hvs : (Builtin.zeroCells (Value.agg #[.slice none 0 0, .slice none 0 0, .bool false, .slice none 0 0]).cells (m + 1)).toList = vs at hst
  simp only [Builtin.clear_, Sem.run_bind, Result.andThen, run_underlying Try.underlying26, List.getElem?_toArray, List.getElem?_cons_zero, infoWrZ, hvs, hst]
  rfl
set_option maxRecDepth 100000 in
set_option maxHeartbeats 4000000 in
theorem compact_any (rb : Nat) (w : World) (v : Value) (l : List Plc) (cb : Nat) (h : OwnV rb 0 w v l) (hl : l.length ≤ 1000000) (hc : w.cell? ⟨cb, 0, none⟩ = some (.func (.func 28) #[] #[])) (hcb : v.ownBlock ≠ some cb) :
    Calls Try.prog 32 #[v, eqV cb] w fun e w' => ∃ x, e = .returned x ∧ WritesIs w' x (compactL l) ∧ w.grownBy w' v.ownBlock := by
  obtain ⟨a, cap, rfl⟩ := h.shape
  by_cases h2 : l.length < 2
  · have hcl : compactL l = l := by
      cases l with
      | nil => rfl
      | cons x l => cases l with
        | nil => rfl
        | cons y l => simp at h2; omega
    rw [hcl]
    have HL : Hid (WritesIs w (.slice a l.length cap) l) := h.list
    have i1 : (l.length : Int) < 2 := by omega
    clear hcl h2 h hc hcb
    generalize hEq : eqV cb = ev at *
    clear hEq
    go_enter Try.func32, Try.ntmps32
    go_wp2
    go_ret
    exact ⟨_, rfl, HL.out, grown_refl _ _⟩
  · have i1 : ¬ (l.length : Int) < 2 := by omega
    obtain ⟨g, rfl⟩ : ∃ g, a = some ⟨g, 0, none⟩ := by
      obtain ⟨us, hul, hr, hp⟩ := h
      rcases hr.2 with ⟨_, e⟩ | ⟨g, cap', cur, e, _⟩
      · omega
      · simp only [Value.slice.injEq] at e
        exact ⟨g, e.1⟩
    have hcap : l.length ≤ cap := by
      obtain ⟨us, hul, hr, hp⟩ := h
      rcases hr.2 with ⟨e, _⟩ | ⟨g', cap', cur, e, _, _, hn, _⟩
      · cases e
      · simp only [Value.slice.injEq] at e
        obtain ⟨_, _, rfl⟩ := e
        exact hn
    have hne : cb ≠ g := fun e => hcb (by rw [e]; rfl)
    have CQ : Hid (∀ W X, OwnV rb 0 W (.slice (some ⟨g, 0, none⟩) l.length cap) X → w.grownBy W (some g) → ∀ an ak av bn bk bv p q, PartIs 0 W an p.name → PartIs 0 W ak p.key → PartIs 0 W bn q.name → PartIs 0 W bk q.key → Calls Try.prog 33 #[.agg #[an, ak, .bool p.gone, av], .agg #[bn, bk, .bool q.gone, bv], .pointer (some ⟨cb, 0, none⟩)] W fun e w' => e = .returned (.bool (cmpP p q == 0)) ∧ W.grownBy w' none) := fun W X _ hg an ak av bn bk bv p q p1 p2 p3 p4 => cmp2_any W cb an ak av bn bk bv p q (hg.cell hc (by simpa using hne)) p1.1 p2.1 p3.1 p4.1
    have H0 : Hid (OwnV rb 0 w (.slice (some ⟨g, 0, none⟩) l.length cap) l) := h
    have S0 : Hid (Cp1 l 1) := cp1_start (by omega)
    clear h hc hcb h2
    unfold eqV
    go_enter Try.func32, Try.ntmps32
    go_wp2_with fail
    go_loopw [5] (fun i wr => ∃ k : Nat, i = .int .i64 (k : Int) ∧ Cp1 l k ∧ OwnV rb 0 wr (.slice (some ⟨g, 0, none⟩) l.length cap) l ∧ w.grownBy wr none) (fun i _ => l.length - (intOf i).toNat)
    case atStart => exact ⟨1, rfl, S0.out, H0.out, grown_refl _ _⟩
    case round =>
      obtain ⟨k, rfl, hcp, ho, hg⟩ := hrel
      have hk1 := hcp.1
      have hk2 := hcp.2.1
      have HCP : Hid (Cp1 l k) := hcp
      have HO : Hid (OwnV rb 0 wr (.slice (some ⟨g, 0, none⟩) l.length cap) l) := ho
      clear hcp
      by_cases hlt : k < l.length
      · have i2 : (k : Int) < (l.length : Int) := by omega
        obtain ⟨m, hm⟩ : ∃ m, k = m + 1 := ⟨k - 1, by omega⟩
        have hkm : k - 1 = m := by omega
        have iw : IntKind.i64.wrap ((k : Int) - 1) = (m : Int) := by rw [IntKind.wrap_i64]; omega
        have i3 : (m : Int) < (l.length : Int) := by omega
        obtain ⟨vn, vk, vv, ⟨c1, c2, c3, c4⟩, p1, p2, p3⟩ := ho.at k hlt
        obtain ⟨un, uk, uv, ⟨d1, d2, d3, d4⟩, q1, q2, q3⟩ := ho.at m (by omega)
        have HST : Hid (cmpP (l.getD k noPlc) (l.getD m noPlc) ≠ 0 → Cp1 l (k + 1)) := fun h => HCP.out.step hlt (by rw [hkm]; exact h)
        have HTN : Hid (cmpP (l.getD k noPlc) (l.getD m noPlc) = 0 → Cp2 l l k (k + 1)) := fun h => HCP.out.turn hlt (by rw [hkm]; exact h)
        have CC : Hid (∀ W', wr.grownBy W' none → Calls Try.prog 33 #[.agg #[vn, vk, .bool (l.getD k noPlc).gone, vv], .agg #[un, uk, .bool (l.getD m noPlc).gone, uv], .pointer (some ⟨cb, 0, none⟩)] W' fun e w' => e = .returned (.bool (cmpP (l.getD k noPlc) (l.getD m noPlc) == 0)) ∧ W'.grownBy w' none) := fun W' h => CQ.out W' l (HO.out.grownNone h) (grown_someC (grown_trans hg h) g) vn vk vv un uk uv _ _ (p1.keptT h (.inl rfl)) (p2.keptT h (.inl rfl)) (q1.keptT h (.inl rfl)) (q2.keptT h (.inl rfl))
        obtain ⟨x1, x2, rfl⟩ := p1.1.shape
        obtain ⟨x3, x4, rfl⟩ := p2.1.shape
        obtain ⟨x5, x6, rfl⟩ := p3.1.shape
        obtain ⟨y1, y2, rfl⟩ := q1.1.shape
        obtain ⟨y3, y4, rfl⟩ := q2.1.shape
        obtain ⟨y5, y6, rfl⟩ := q3.1.shape
        clear p1 p2 p3 q1 q2 q3 ho hkm HCP
        generalize cmpP (l.getD k noPlc) (l.getD m noPlc) = z at *
        generalize (l.getD k noPlc).name.length = n1 at *
        generalize (l.getD k noPlc).key.length = n2 at *
        generalize (l.getD k noPlc).value.length = n3 at *
        generalize (l.getD k noPlc).gone = g1 at *
        generalize (l.getD m noPlc).name.length = n4 at *
        generalize (l.getD m noPlc).key.length = n5 at *
        generalize (l.getD m noPlc).value.length = n6 at *
        generalize (l.getD m noPlc).gone = g2 at *
        have HKM : Hid (k = m + 1) := hm
        clear hm
        go_wp2_with fail
        have e1 : wr.drew.cell? ⟨g, k * 4, none⟩ = some (.slice x1 n1 x2) := c1
        have e2 : wr.drew.cell? ⟨g, k * 4 + 1, none⟩ = some (.slice x3 n2 x4) := c2
        have e3 : wr.drew.cell? ⟨g, k * 4 + 2, none⟩ = some (.bool g1) := c3
        have e4 : wr.drew.cell? ⟨g, k * 4 + 3, none⟩ = some (.slice x5 n3 x6) := c4
        have f1 : wr.drew.cell? ⟨g, m * 4, none⟩ = some (.slice y1 n4 y2) := d1
        have f2 : wr.drew.cell? ⟨g, m * 4 + 1, none⟩ = some (.slice y3 n5 y4) := d2
        have f3 : wr.drew.cell? ⟨g, m * 4 + 2, none⟩ = some (.bool g2) := d3
        have f4 : wr.drew.cell? ⟨g, m * 4 + 3, none⟩ = some (.slice y5 n6 y6) := d4
        have hgd : wr.grownBy wr.drew none := grown_drew (grown_refl _ _)
        go_region_held3 (fun w' => w'.cell? ⟨g, k * 4, none⟩ = some (.slice x1 n1 x2) ∧ w'.cell? ⟨g, k * 4 + 1, none⟩ = some (.slice x3 n2 x4) ∧ w'.cell? ⟨g, k * 4 + 2, none⟩ = some (.bool g1) ∧ w'.cell? ⟨g, k * 4 + 3, none⟩ = some (.slice x5 n3 x6) ∧ w'.cell? ⟨g, m * 4, none⟩ = some (.slice y1 n4 y2) ∧ w'.cell? ⟨g, m * 4 + 1, none⟩ = some (.slice y3 n5 y4) ∧ w'.cell? ⟨g, m * 4 + 2, none⟩ = some (.bool g2) ∧ w'.cell? ⟨g, m * 4 + 3, none⟩ = some (.slice y5 n6 y6))
          (first | exact ⟨e1, e2, e3, e4, f1, f2, f3, f4⟩ | exact ⟨hg2.cell e1 (by simp), hg2.cell e2 (by simp), hg2.cell e3 (by simp), hg2.cell e4 (by simp), hg2.cell f1 (by simp), hg2.cell f2 (by simp), hg2.cell f3 (by simp), hg2.cell f4 (by simp)⟩)
          (first
            | (go_at_call 33; refine (CC.out _ hgd).mono ?_; rintro e w2 ⟨rfl, hg2⟩))
        clear e1 e2 e3 e4 f1 f2 f3 f4 c1 c2 c3 c4 d1 d2 d3 d4
        have hgw := grown_trans hg (grown_trans hgd hg2)
        have HO2 : Hid (OwnV rb 0 w2 (.slice (some ⟨g, 0, none⟩) l.length cap) l) := HO.out.grownNone (grown_trans hgd hg2)
        clear HO CC
        by_cases hz : z = 0
        · have HT2 : Hid (Cp2 l l k (k + 1)) := HTN.out hz
          subst hz
          clear HTN HST iw
          have SL : Hid (∀ W, (Instr.slice 26 (.slice (some ⟨g, 0, none⟩) l.length cap) (some (.int .i64 (k : Int))) none none).run Try.prog W = .ok (.slice (some ⟨g, k * 4, none⟩) (l.length - k) (cap - k)) W) := fun W => rslice_l g l.length k cap hlt hcap W
          have sl := SL.out w2
          go_wp2_with fail
          clear sl
          obtain ⟨D, hD⟩ : ∃ D, D = l.length - k := ⟨_, rfl⟩
          have HD : Hid (D = l.length - k) := hD
          rw [← hD]
          have hDk : D + k = l.length := by omega
          have HDK : Hid (D + k = l.length) := hDk
          have hD1 : 1 ≤ D := by omega
          have hDb : D ≤ 1000000 := by omega
          clear hD hDk
          go_loopw [5, 7] (fun s5 s7 wr => ∃ kk : Nat, s5 = .int .i64 (kk : Int) ∧ ∃ k2 : Nat, s7 = .int .i64 (k2 : Int) ∧ 1 ≤ k2 ∧ k2 ≤ D ∧ ∃ X : List Plc, Cp2 l X kk (k + k2) ∧ OwnV rb 0 wr (.slice (some ⟨g, 0, none⟩) l.length cap) X ∧ w.grownBy wr (some g)) (fun _ s7 _ => D - (intOf s7).toNat)
          case atStart => exact ⟨k, rfl, 1, rfl, Nat.le_refl _, hD1, l, HT2.out, HO2.out, grown_someC hgw _⟩
          case round =>
            obtain ⟨kk, rfl, k2, rfl, h21, h22, X, hc2, ho, hg5⟩ := hrel
            have HC2 : Hid (Cp2 l X kk (k + k2)) := hc2
            have HO : Hid (OwnV rb 0 wr (.slice (some ⟨g, 0, none⟩) l.length cap) X) := ho
            have hXl : X.length = l.length := hc2.1
            have HXL : Hid (X.length = l.length) := hXl
            have hkj : kk < l.length := by have := hc2.2.1; have := hc2.2.2.1; omega
            by_cases hlt2 : k2 < D
            · have j2 : (k2 : Int) < (D : Int) := by omega
              have hjl : k + k2 < l.length := by have := HDK.out; omega
              obtain ⟨q, hq⟩ : ∃ q, k2 = q + 1 := ⟨k2 - 1, by omega⟩
              have jw : IntKind.i64.wrap ((k2 : Int) - 1) = (q : Int) := by rw [IntKind.wrap_i64]; omega
              have j3 : (q : Int) < (D : Int) := by omega
              have hj1 : k + k2 - 1 = k + q := by omega
              obtain ⟨vn, vk, vv, ⟨c1, c2, c3, c4⟩, p1, p2, p3⟩ := ho.at (k + k2) (by omega)
              obtain ⟨un, uk, uv, ⟨d1, d2, d3, d4⟩, q1, q2, q3⟩ := ho.at (k + q) (by omega)
              have a1 := hc2.at (k + k2) (by omega)
              have a2 := hc2.at (k + q) (by omega)
              rw [a1] at c3 p1 p2 p3
              rw [a2] at d3 q1 q2 q3
              rw [Nat.add_mul] at c1 c2 c3 c4 d1 d2 d3 d4
              have HSK : Hid (cmpP (l.getD (k + k2) noPlc) (l.getD (k + q) noPlc) = 0 → Cp2 l X kk (k + (k2 + 1))) := fun h => HC2.out.skip hjl (by rw [hj1]; exact h)
              have HKP : Hid (cmpP (l.getD (k + k2) noPlc) (l.getD (k + q) noPlc) ≠ 0 → Cp2 l (X.set kk (l.getD (k + k2) noPlc)) (kk + 1) (k + (k2 + 1))) := fun h => HC2.out.keep hjl (by rw [hj1]; exact h)
              have CC : Hid (∀ W', wr.grownBy W' none → Calls Try.prog 33 #[.agg #[vn, vk, .bool (l.getD (k + k2) noPlc).gone, vv], .agg #[un, uk, .bool (l.getD (k + q) noPlc).gone, uv], .pointer (some ⟨cb, 0, none⟩)] W' fun e w' => e = .returned (.bool (cmpP (l.getD (k + k2) noPlc) (l.getD (k + q) noPlc) == 0)) ∧ W'.grownBy w' none) := fun W' h => CQ.out W' X (HO.out.grownNone h) (grown_thenC hg5 h) vn vk vv un uk uv _ _ (p1.keptT h (.inl rfl)) (p2.keptT h (.inl rfl)) (q1.keptT h (.inl rfl)) (q2.keptT h (.inl rfl))
              have HP : Hid (PartIs 0 wr vn (l.getD (k + k2) noPlc).name ∧ PartIs 0 wr vk (l.getD (k + k2) noPlc).key ∧ PartIs 0 wr vv (l.getD (k + k2) noPlc).value) := ⟨p1, p2, p3⟩
              obtain ⟨x1, x2, rfl⟩ := p1.1.shape
              obtain ⟨x3, x4, rfl⟩ := p2.1.shape
              obtain ⟨x5, x6, rfl⟩ := p3.1.shape
              obtain ⟨y1, y2, rfl⟩ := q1.1.shape
              obtain ⟨y3, y4, rfl⟩ := q2.1.shape
              obtain ⟨y5, y6, rfl⟩ := q3.1.shape
              clear p1 p2 p3 q1 q2 q3 ho hc2 hj1 HC2 a1 a2 hXl
              generalize cmpP (l.getD (k + k2) noPlc) (l.getD (k + q) noPlc) = z at *
              generalize (l.getD (k + q) noPlc).name.length = n4 at *
              generalize (l.getD (k + q) noPlc).key.length = n5 at *
              generalize (l.getD (k + q) noPlc).value.length = n6 at *
              generalize (l.getD (k + q) noPlc).gone = g2 at *
              generalize l.getD (k + k2) noPlc = P at *
              generalize P.name.length = n1 at *
              generalize P.key.length = n2 at *
              generalize P.value.length = n3 at *
              obtain ⟨g1, hg1⟩ : ∃ g1, g1 = P.gone := ⟨_, rfl⟩
              have HG1 : Hid (g1 = P.gone) := hg1
              rw [← hg1] at c3 CC
              have HKQ : Hid (k2 = q + 1) := hq
              obtain ⟨B, hB⟩ : ∃ B : Bool, B = (z == 0) := ⟨_, rfl⟩
              rw [← hB] at CC
              have HB1 : Hid (B = true → z = 0) := fun h => by rw [hB] at h; simpa using h
              have HB2 : Hid (B = false → z ≠ 0) := fun h => by rw [hB] at h; simpa using h
              clear hB
              clear hq hg1
              go_wp2_with fail
              have e1 : wr.drew.cell? ⟨g, k * 4 + k2 * 4, none⟩ = some (.slice x1 n1 x2) := c1
              have e2 : wr.drew.cell? ⟨g, k * 4 + k2 * 4 + 1, none⟩ = some (.slice x3 n2 x4) := c2
              have e3 : wr.drew.cell? ⟨g, k * 4 + k2 * 4 + 2, none⟩ = some (.bool g1) := c3
              have e4 : wr.drew.cell? ⟨g, k * 4 + k2 * 4 + 3, none⟩ = some (.slice x5 n3 x6) := c4
              have f1 : wr.drew.cell? ⟨g, k * 4 + q * 4, none⟩ = some (.slice y1 n4 y2) := d1
              have f2 : wr.drew.cell? ⟨g, k * 4 + q * 4 + 1, none⟩ = some (.slice y3 n5 y4) := d2
              have f3 : wr.drew.cell? ⟨g, k * 4 + q * 4 + 2, none⟩ = some (.bool g2) := d3
              have f4 : wr.drew.cell? ⟨g, k * 4 + q * 4 + 3, none⟩ = some (.slice y5 n6 y6) := d4
              have hgd : wr.grownBy wr.drew none := grown_drew (grown_refl _ _)
              go_region_held3 (fun w' => w'.cell? ⟨g, k * 4 + k2 * 4, none⟩ = some (.slice x1 n1 x2) ∧ w'.cell? ⟨g, k * 4 + k2 * 4 + 1, none⟩ = some (.slice x3 n2 x4) ∧ w'.cell? ⟨g, k * 4 + k2 * 4 + 2, none⟩ = some (.bool g1) ∧ w'.cell? ⟨g, k * 4 + k2 * 4 + 3, none⟩ = some (.slice x5 n3 x6) ∧ w'.cell? ⟨g, k * 4 + q * 4, none⟩ = some (.slice y1 n4 y2) ∧ w'.cell? ⟨g, k * 4 + q * 4 + 1, none⟩ = some (.slice y3 n5 y4) ∧ w'.cell? ⟨g, k * 4 + q * 4 + 2, none⟩ = some (.bool g2) ∧ w'.cell? ⟨g, k * 4 + q * 4 + 3, none⟩ = some (.slice y5 n6 y6))
                (first | exact ⟨e1, e2, e3, e4, f1, f2, f3, f4⟩ | exact ⟨hg2.cell e1 (by simp), hg2.cell e2 (by simp), hg2.cell e3 (by simp), hg2.cell e4 (by simp), hg2.cell f1 (by simp), hg2.cell f2 (by simp), hg2.cell f3 (by simp), hg2.cell f4 (by simp)⟩)
                (first
                  | (go_at_call 33; refine (CC.out _ hgd).mono ?_; rintro e w2 ⟨rfl, hg2⟩))
              have h1 := hg2.cell e1 (by simp)
              have h2 := hg2.cell e2 (by simp)
              have h3 := hg2.cell e3 (by simp)
              have h4 := hg2.cell e4 (by simp)
              clear e1 e2 e3 e4 f1 f2 f3 f4 c1 c2 c3 c4 d1 d2 d3 d4
              have hgw2 := grown_thenC hg5 (grown_trans hgd hg2)
              have HO3 : Hid (OwnV rb 0 w2 (.slice (some ⟨g, 0, none⟩) l.length cap) X) := HO.out.grownNone (grown_trans hgd hg2)
              clear HO CC
              cases B with
              | true =>
                have HS2 : Hid (Cp2 l X kk (k + (k2 + 1))) := HSK.out (HB1.out rfl)
                clear HSK HKP jw h1 h2 h3 h4
                go_wp2_with fail
                go_roundw
                case rel => first | exact ⟨kk, rfl, k2 + 1, by go_num, by omega, by omega, X, HS2.out, HO3.out⟩ | exact ⟨kk, rfl, k2 + 1, by go_num, by omega, by omega, X, HS2.out, HO3.out, hgw2⟩
                case measure => simp [intOf]; omega
              | false =>
                have HS2 : Hid (Cp2 l (X.set kk P) (kk + 1) (k + (k2 + 1))) := HKP.out (HB2.out rfl)
                have jk : (kk : Int) < (l.length : Int) := by omega
                obtain ⟨on, ok, ov, ⟨r1, r2, r3, r4⟩, _, _, _⟩ := HO3.out.at kk (by rw [HXL.out]; exact hkj)
                have z1 := HO3.out.frozen (kk * 4)
                have z2 := HO3.out.frozen (kk * 4 + 1)
                have z3 := HO3.out.frozen (kk * 4 + 2)
                have z4 := HO3.out.frozen (kk * 4 + 3)
                have NO : Hid (OwnV rb 0 ((((w2.setCell ⟨g, kk * 4, none⟩ (.slice x1 n1 x2)).setCell ⟨g, kk * 4 + 1, none⟩ (.slice x3 n2 x4)).setCell ⟨g, kk * 4 + 2, none⟩ (.bool g1)).setCell ⟨g, kk * 4 + 3, none⟩ (.slice x5 n3 x6)) (.slice (some ⟨g, 0, none⟩) l.length cap) (X.set kk P)) := by
                  show OwnV _ _ _ _ _
                  have hgr := grown_trans hgd hg2
                  rw [HG1.out]
                  exact HO3.out.set kk _ _ _ P (HP.out.1.keptT hgr (.inl rfl)) (HP.out.2.1.keptT hgr (.inl rfl)) (HP.out.2.2.keptT hgr (.inl rfl))
                have NG : Hid (w.grownBy ((((w2.setCell ⟨g, kk * 4, none⟩ (.slice x1 n1 x2)).setCell ⟨g, kk * 4 + 1, none⟩ (.slice x3 n2 x4)).setCell ⟨g, kk * 4 + 2, none⟩ (.bool g1)).setCell ⟨g, kk * 4 + 3, none⟩ (.slice x5 n3 x6)) (some g)) := grown_set (grown_set (grown_set (grown_set hgw2 _ _) _ _) _ _) _ _
                clear HSK HKP jw
                go_wp2_with fail
                go_roundw
                case rel => exact ⟨kk + 1, by go_num, k2 + 1, by go_num, by omega, by omega, X.set kk P, HS2.out, NO.out, NG.out⟩
                case measure => simp [intOf]; omega
            · have hkD : k2 = D := by omega
              subst hkD
              have j2 : ¬ (k2 : Int) < (k2 : Int) := by omega
              have hend : k + k2 = l.length := by have := HDK.out; omega
              rw [hend] at hc2
              have HE : Hid (compactL l = X.take kk) := hc2.end
              have sl1 := rslice_l g l.length kk cap hkj hcap wr
              have hcells : ∀ j, j < (l.length - kk) * 4 → (wr.cell? ⟨g, kk * 4 + j, none⟩).isSome = true := fun j hj => by
                obtain ⟨vn, vk, vv, ⟨c1, c2, c3, c4⟩, _, _, _⟩ := ho.at (kk + j / 4) (by omega)
                have hr : j % 4 < 4 := Nat.mod_lt _ (by omega)
                have hj4 : kk * 4 + j = (kk + j / 4) * 4 + j % 4 := by omega
                rw [hj4]
                generalize j % 4 = r at *
                match r, hr with
                | 0, _ => rw [Nat.add_zero, c1]; rfl
                | 1, _ => rw [c2]; rfl
                | 2, _ => rw [c3]; rfl
                | 3, _ => rw [c4]; rfl
              obtain ⟨vs, hcl⟩ := run_clearW wr g kk (l.length - kk) (cap - kk) (by omega) hcells ho.frozen
              obtain ⟨W5, hW5⟩ : ∃ W5, W5 = wr.setCells g (kk * 4) vs := ⟨_, rfl⟩
              rw [← hW5] at hcl
              have sl2 := rslice_h g l.length kk cap (by omega) hcap (by omega) W5
              have hg6 : wr.grownBy W5 (some g) := by rw [hW5]; exact setCells_grown _ _ _ _
              have HL : Hid (WritesIs W5 (.slice (some ⟨g, 0, none⟩) kk cap) (compactL l)) := by
                show WritesIs _ _ _
                rw [HE.out]
                exact ho.first kk (by omega) (by omega) hg6 (fun j hj => by rw [hW5]; exact setCells_low _ _ _ _ _ hj)
              have hgf : w.grownBy W5 (some g) := grown_rowC hg5 hg6
              clear hc2 ho HO HC2 hcells hend HE HXL hXl hW5
              generalize l.length - kk = LK at *
              go_wp2
              go_ret
              exact ⟨_, rfl, HL.out, hgf⟩
        · have hz' : (z == 0) = false := by simpa using hz
          have HS2 : Hid (Cp1 l (k + 1)) := HST.out hz
          clear HTN HST iw
          go_wp2_with fail
          go_roundw
          case rel => exact ⟨k + 1, by go_num, HS2.out, HO2.out, hgw⟩
          case measure => simp [intOf]; omega
      · obtain rfl : k = l.length := by omega
        have HE : Hid (compactL l = l) := HCP.out.end
        have i2 : ¬ (l.length : Int) < (l.length : Int) := by omega
        have HL : Hid (WritesIs wr (.slice (some ⟨g, 0, none⟩) l.length cap) (compactL l)) := by show WritesIs _ _ _; rw [HE.out]; exact ho.list
        clear ho HE
        go_wp2
        go_ret
        exact ⟨_, rfl, HL.out, grown_someC hg _⟩
end Go.Proofs.Ytljdconhplgipab
