/-
  Texts of this proof, joined: FrameW, CmtMem, FrameC, CmtRow, TapeA, TapeB, TpRec, TpDec, TpCheck, CmtSet, RdrMem, CmtRowS, TapeL, CmtFit, CmtPair.
-/
import Derived.Test.YtkheombfjgjedabDoorFrameP
import Derived.Test.YtkheombfjgjedabDoorFrameD
import Derived.Test.YtkheombfjgjedabDoorWrMem
import Derived.Test.YtkheombfjgjedabDoorPart2
import Derived.Test.YtkheombfjgjedabDoorTapeFour
import Derived.Test.YtkheombfjgjedabDoorPart3
/-
  What a row's proof opens with where writes came in: structs of a name, a key, a bool and a value, and lists of such.
-/
namespace Go.Proofs.YtkheombfjgjedabDoor
open Go.ChangeShapes Go.WideShapes Go.ChangeAt Go.RowKit Go.Deep Go.Joins
instance : Inhabited Plc := ⟨noPlc⟩
theorem cells4 : Tryd.prog.cellsOf 4 = 1 := by kernel_rfl
set_option maxRecDepth 100000 in
/-- A list of writes that came in. -/
theorem writes_open {H : Type} {enc : TypeId × Value → H} {W : World} {hd : Bool} {fuel : Nat} {a : Option Addr} {n cap : Nat} {x : DataW H × List MemPlace} {t e : TypeId} {f0 f1 f2 f3 : Field} (ht : Tryd.prog.underlying t = some (.slice e)) (he : Tryd.prog.underlying e = some (.struct #[f0, f1, f2, f3]))
    (ce : Tryd.prog.cellsOf e = 4) (be : Tryd.prog.bytesOf e = 80) (o0 : f0.offset = 0) (o1 : f1.offset = 1) (o2 : f2.offset = 2) (o3 : f3.offset = 3) (t0 : f0.type = 22) (t1 : f1.type = 22) (t2 : f2.type = 4) (t3 : f3.type = 22)
    (h : DataW.trod enc Tryd.prog W 0 (fun _ => true) hd fuel t [.slice a n cap] = some x) :
    ∃ l : List Plc, WritesIs W (.slice a n cap) l ∧ n = l.length ∧ ∀ B, (∀ m ∈ x.1.weights Tryd.prog t, m ≤ B) → l.length * 80 ≤ B ∧ ∀ i, i < l.length → (l.getD i noPlc).name.length ≤ B ∧ (l.getD i noPlc).key.length ≤ B ∧ (l.getD i noPlc).value.length ≤ B := by
  rcases open_slice ht h with ⟨hcs, _⟩ | ⟨y, len, c, m, k, D, Pl, hcs, hb, hl, hm, hmm, hx, hcell⟩
  · simp at hcs
    obtain ⟨rfl, rfl, rfl⟩ := hcs
    exact ⟨[], writesIs_nil W, rfl, fun B _ => ⟨by simp, by simp⟩⟩
  · simp at hcs
    obtain ⟨rfl, rfl, rfl⟩ := hcs
    have hmc : m = cap := by simpa using hmm
    subst hmc
    have each : ∀ i, i < m → ∃ q : Plc × Value × Value × Value × DataW H × DataW H × DataW H, W.cell? (y.add (i * 4)) = some q.2.1 ∧ W.cell? (y.add (i * 4 + 1)) = some q.2.2.1 ∧ W.cell? (y.add (i * 4 + 2)) = some (.bool q.1.gone) ∧ W.cell? (y.add (i * 4 + 3)) = some q.2.2.2.1 ∧
        SliceIs W q.2.1 q.1.name ∧ SliceIs W q.2.2.1 q.1.key ∧ SliceIs W q.2.2.2.1 q.1.value ∧ D i = .agg [q.2.2.2.2.1, q.2.2.2.2.2.1, .lit (.bool q.1.gone), q.2.2.2.2.2.2] ∧
        (q.1.name = [] ∨ ∃ z ∈ q.2.2.2.2.1.weights Tryd.prog 22, q.1.name.length ≤ z) ∧ (q.1.key = [] ∨ ∃ z ∈ q.2.2.2.2.2.1.weights Tryd.prog 22, q.1.key.length ≤ z) ∧ (q.1.value = [] ∨ ∃ z ∈ q.2.2.2.2.2.2.weights Tryd.prog 22, q.1.value.length ≤ z) := by
      intro i hi
      obtain ⟨cs', g1, g2⟩ := hcell i hi
      rw [ce] at g1
      obtain ⟨_, hlen, hcc⟩ := World.cells?_some g1
      obtain ⟨xs, k', hk, hxy, _, hxl, hf⟩ := DataW.trod_struct he g2
      match xs, hxl, cs', hlen with
      | [y0, y1, y2, y3], _, [v0, v1, v2, v3], _ =>
        have s0 := hf 0 f0 rfl
        have s1 := hf 1 f1 rfl
        have s2 := hf 2 f2 rfl
        have s3 := hf 3 f3 rfl
        rw [t0] at s0
        rw [t1] at s1
        rw [t2] at s2
        rw [t3] at s3
        simp [o0, o1, o2, o3, cells8, cells4] at s0 s1 s2 s3
        have e0 := hcc 0 (by omega)
        have e1 := hcc 1 (by omega)
        have e2 := hcc 2 (by omega)
        have e3 := hcc 3 (by omega)
        rw [add_add] at e0 e1 e2 e3
        obtain ⟨b0, z0, w0⟩ := part_open s0
        obtain ⟨b1, z1, w1⟩ := part_open s1
        obtain ⟨b2, z2, w2⟩ := part_open s3
        obtain ⟨bb, hbv, hy3⟩ := DataW.trod_bool Tryd.underlying4 s2
        simp at hbv
        subst hbv hy3
        simp only [Prod.mk.injEq] at hxy
        exact ⟨(⟨b0, b1, b2, bb⟩, v0, v1, v3, y0.1, y1.1, y3.1), by simpa using e0, by simpa using e1, by simpa using e2, by simpa using e3, z0, z1, z2, by simpa using hxy.1, w0, w1, w2⟩
    obtain ⟨q, hq⟩ := choose_lt each
    have hlen : ((List.range n).map fun i => (q i).1).length = n := by simp
    have hget : ∀ i, i < n → ((List.range n).map fun i => (q i).1).getD i noPlc = (q i).1 := by
      intro i hi
      simp [hi]
    refine ⟨(List.range n).map fun i => (q i).1, ⟨_, m, by rw [hlen], by omega, ?_⟩, hlen.symm, ?_⟩
    · by_cases h0 : n = 0
      · left; subst h0; exact ⟨rfl, fun h => by cases h⟩
      · right
        obtain ⟨b, o, sp⟩ := y
        have h00 := (hq 0 (by omega)).1
        obtain rfl : sp = none := by
          cases sp with
          | none => rfl
          | some z =>
            simp [Addr.add, World.cell?] at h00
            split at h00 <;> simp at h00
        refine ⟨b, o, rfl, fun i hi => ?_⟩
        rw [hlen] at hi
        obtain ⟨g0, g1, g2, g3, z0, z1, z2, _⟩ := hq i (by omega)
        rw [addr_add] at g0 g1 g2 g3
        rw [hget i hi]
        exact ⟨_, _, _, g0, g1, g2, g3, z0, z1, z2⟩
    · intro B hB
      rw [hlen]
      rw [hx] at hB
      simp only [DataW.weights, ht, List.mem_cons, List.mem_append] at hB
      constructor
      · have := hB _ (.inl rfl)
        simp only [List.length_map, List.length_range, be] at this
        omega
      · intro i hi
        rw [hget i hi]
        obtain ⟨_, _, _, _, _, _, _, hD, q0, q1, q2⟩ := hq i (by omega)
        have key : ∀ d z, (d = (q i).2.2.2.2.1 ∨ d = (q i).2.2.2.2.2.1 ∨ d = (q i).2.2.2.2.2.2) → z ∈ d.weights Tryd.prog 22 → z ≤ B := by
          intro d z hd hz
          refine hB z (.inr (.inl (weightsAll_mem (d := D i) (List.mem_map.2 ⟨i, List.mem_range.2 hi, rfl⟩) ?_)))
          rw [hD]
          simp only [DataW.weights, he, DataW.weightsEach, List.map_cons, List.map_nil, t0, t1, t2, t3, List.mem_append]
          rcases hd with rfl | rfl | rfl
          · exact .inl hz
          · exact .inr (.inl hz)
          · exact .inr (.inr (.inr (.inl hz)))
        refine ⟨?_, ?_, ?_⟩
        · rcases q0 with q0 | ⟨z, hz, hle⟩
          · rw [q0]; simp
          · exact Nat.le_trans hle (key _ z (.inl rfl) hz)
        · rcases q1 with q1 | ⟨z, hz, hle⟩
          · rw [q1]; simp
          · exact Nat.le_trans hle (key _ z (.inr (.inl rfl)) hz)
        · rcases q2 with q2 | ⟨z, hz, hle⟩
          · rw [q2]; simp
          · exact Nat.le_trans hle (key _ z (.inr (.inr rfl)) hz)
theorem fitsW_of {l : List Plc} (h : l.length * 80 ≤ 140737488351232 ∧ ∀ i, i < l.length → (l.getD i noPlc).name.length ≤ 140737488351232 ∧ (l.getD i noPlc).key.length ≤ 140737488351232 ∧ (l.getD i noPlc).value.length ≤ 140737488351232) : FitsW l :=
  ⟨by omega, fun i hi => by have := h.2 i hi; exact ⟨by omega, by omega, by omega⟩⟩
end Go.Proofs.YtkheombfjgjedabDoor

/-
  Commits and tapes in memory.
-/
namespace Go.Proofs.YtkheombfjgjedabDoor
open Go.RowKit
def WrPartAt (base : Nat) (w : World) (b o : Nat) (p : Plc) : Prop := ∃ vn vk vv, w.cell? ⟨b, o, none⟩ = some vn ∧ w.cell? ⟨b, o + 1, none⟩ = some vk ∧ w.cell? ⟨b, o + 2, none⟩ = some (.bool p.gone) ∧ w.cell? ⟨b, o + 3, none⟩ = some vv ∧ PartIs base w vn p.name ∧ PartIs base w vk p.key ∧ PartIs base w vv p.value
/-- A list of writes that stands where blocks of the call's own, of no writes and no bytes, turn. -/
def WritesB (base : Nat) (w : World) (v : Value) (l : List Plc) : Prop :=
  ∃ a cap, v = .slice a l.length cap ∧ l.length ≤ cap ∧ ((l = [] ∧ (a = none → cap = 0)) ∨ ∃ b o, a = some ⟨b, o, none⟩ ∧ (b < base ∨ ∃ cur fz, w.heap[b]? = some (.cells cur 52 fz)) ∧ ∀ i, i < l.length → WrPartAt base w b (o + i * 4) (l.getD i noPlc))
theorem writesB_nil (base : Nat) (w : World) : WritesB base w (.slice none 0 0) [] := ⟨none, 0, rfl, Nat.le_refl _, .inl ⟨rfl, fun _ => rfl⟩⟩
theorem WritesB.shape {base : Nat} {w : World} {v : Value} {l : List Plc} (h : WritesB base w v l) : ∃ a cap, v = .slice a l.length cap := by
  obtain ⟨a, cap, rfl, _⟩ := h
  exact ⟨a, cap, rfl⟩
theorem WritesB.oneCell {base : Nat} {w : World} {v : Value} {l : List Plc} (h : WritesB base w v l) : v.oneCell' = true := by
  obtain ⟨a, cap, rfl, _⟩ := h
  rfl
theorem WritesB.list {base : Nat} {w : World} {v : Value} {l : List Plc} (h : WritesB base w v l) : WritesIs w v l := by
  obtain ⟨a, cap, rfl, hc, h⟩ := h
  refine ⟨a, cap, rfl, hc, ?_⟩
  rcases h with h | ⟨b, o, rfl, _, h⟩
  · exact .inl h
  · refine .inr ⟨b, o, rfl, fun i hi => ?_⟩
    obtain ⟨vn, vk, vv, c1, c2, c3, c4, h1, h2, h3⟩ := h i hi
    exact ⟨vn, vk, vv, c1, c2, c3, c4, h1.1, h2.1, h3.1⟩
theorem WritesIs.writesB {w w' : World} {v : Value} {l : List Plc} (h : WritesIs w v l) (hg : w.grownBy w' none) (base : Nat) (hb : w.heap.size ≤ base) : WritesB base w' v l := by
  obtain ⟨a, cap, rfl, hc, h⟩ := h
  refine ⟨a, cap, rfl, hc, ?_⟩
  rcases h with h | ⟨b, o, rfl, h⟩
  · exact .inl h
  · by_cases h0 : l = []
    · exact .inl ⟨h0, fun e => by cases e⟩
    · have hl : 0 < l.length := List.length_pos_iff.2 h0
      refine .inr ⟨b, o, rfl, .inl ?_, fun i hi => ?_⟩
      · obtain ⟨vn, vk, vv, c1, _⟩ := h 0 hl
        exact Nat.lt_of_lt_of_le (cell_lt c1) hb
      · obtain ⟨vn, vk, vv, c1, c2, c3, c4, h1, h2, h3⟩ := h i hi
        exact ⟨vn, vk, vv, hg.cell c1 (by simp), hg.cell c2 (by simp), hg.cell c3 (by simp), hg.cell c4 (by simp), h1.part hg base hb, h2.part hg base hb, h3.part hg base hb⟩
theorem OwnW.writesB {base : Nat} {w : World} {v : Value} {l : List Plc} (h : OwnW base w v l) : WritesB base w v l := by
  obtain ⟨us, hl, hr, h3⟩ := h
  rcases hr.2 with ⟨rfl, h0⟩ | ⟨g, cap, cur, rfl, hb, hg, hn, hm, hs, ht⟩
  · have : l = [] := List.eq_nil_of_length_eq_zero h0
    rw [this]
    exact writesB_nil base w
  · have hcell : ∀ j u, (flatW us)[j]? = some u → w.cell? ⟨g, j, none⟩ = some u := by
      intro j u hj
      have hlt : j < l.length * 4 := by
        have := (List.getElem?_eq_some_iff.1 hj).1
        rw [hr.1] at this
        exact this
      have e2 : (cur.toList.take (l.length * 4))[j]? = (flatW us)[j]? := by rw [ht]
      rw [List.getElem?_take, if_pos hlt, hj] at e2
      simp [World.cell?, hg]
      simpa using e2
    refine ⟨_, cap, rfl, hn, .inr ⟨g, 0, rfl, .inr ⟨_, _, hg⟩, fun i hi => ?_⟩⟩
    obtain ⟨e1, e2⟩ := mapW_getD hl i hi
    have hlen : us.length = l.length := by rw [← hl]; simp
    obtain ⟨c1, c2, c3, c4⟩ := flatW_get us i (by omega)
    have hp := h3 _ e2
    rw [e1] at c3 hp
    rw [Nat.zero_add]
    exact ⟨_, _, _, hcell _ _ c1, hcell _ _ c2, hcell _ _ c3, hcell _ _ c4, hp.1, hp.2.1, hp.2.2⟩
theorem WritesB.kept {base : Nat} {w w' : World} {v : Value} {l : List Plc} (h : WritesB base w v l) {row : Option Nat} (hg : w.grownBy w' row) (hrow : row = none ∨ ∃ g cur t fz, row = some g ∧ base ≤ g ∧ w.heap[g]? = some (.cells cur t fz) ∧ t ≠ 5 ∧ t ≠ 52) : WritesB base w' v l := by
  obtain ⟨a, cap, rfl, hc, h⟩ := h
  refine ⟨a, cap, rfl, hc, ?_⟩
  rcases h with h | ⟨b, o, rfl, hb, h⟩
  · exact .inl h
  · by_cases h0 : l = []
    · exact .inl ⟨h0, fun e => by cases e⟩
    · have hl : 0 < l.length := List.length_pos_iff.2 h0
      have hlt : b < w.heap.size := by
        obtain ⟨vn, vk, vv, c1, _⟩ := h 0 hl
        exact cell_lt c1
      have hne : some b ≠ row := by
        intro e
        rcases hrow with rfl | ⟨g, cur, t, fz, rfl, hbg, hgc, ht, ht2⟩
        · cases e
        · cases e
          rcases hb with hb | ⟨cur2, fz2, hb⟩
          · omega
          · rw [hb] at hgc
            simp only [Option.some.injEq, Obj.cells.injEq] at hgc
            exact ht2 hgc.2.1.symm
      have hrow' : row = none ∨ ∃ g cur t fz, row = some g ∧ base ≤ g ∧ w.heap[g]? = some (.cells cur t fz) ∧ t ≠ 5 := by
        rcases hrow with h | ⟨g, cur, t, fz, h1, h2, h3, h4, _⟩
        · exact .inl h
        · exact .inr ⟨g, cur, t, fz, h1, h2, h3, h4⟩
      refine .inr ⟨b, o, rfl, ?_, fun i hi => ?_⟩
      · rcases hb with hb | ⟨cur, fz, hb⟩
        · exact .inl hb
        · exact .inr ⟨cur, fz, by rw [hg.block b hlt hne]; exact hb⟩
      · obtain ⟨vn, vk, vv, c1, c2, c3, c4, h1, h2, h3⟩ := h i hi
        exact ⟨vn, vk, vv, hg.cell c1 (by simpa using hne), hg.cell c2 (by simpa using hne), hg.cell c3 (by simpa using hne), hg.cell c4 (by simpa using hne), h1.keptT hg hrow', h2.keptT hg hrow', h3.keptT hg hrow'⟩
theorem WritesB.grown {base : Nat} {w w' : World} {v : Value} {l : List Plc} (h : WritesB base w v l) (hg : w.grownBy w' none) : WritesB base w' v l := h.kept hg (.inl rfl)
theorem WritesB.mono {base base' : Nat} {w : World} {v : Value} {l : List Plc} (h : WritesB base w v l) (hb : base ≤ base') : WritesB base' w v l := by
  obtain ⟨a, cap, rfl, hc, h⟩ := h
  refine ⟨a, cap, rfl, hc, ?_⟩
  rcases h with h | ⟨b, o, rfl, h1, h2⟩
  · exact .inl h
  · refine .inr ⟨b, o, rfl, ?_, fun i hi => ?_⟩
    · rcases h1 with h1 | h1
      · exact .inl (by omega)
      · exact .inr h1
    · obtain ⟨vn, vk, vv, c1, c2, c3, c4, p1, p2, p3⟩ := h2 i hi
      exact ⟨vn, vk, vv, c1, c2, c3, c4, p1.mono hb, p2.mono hb, p3.mono hb⟩
/-- A commit. -/
def CommitIs (w : World) (v : Value) (c : Cmt) : Prop := ∃ vs, v = .agg #[.int .i64 c.turn, vs] ∧ WritesIs w vs c.writes
theorem CommitIs.grown {w w' : World} {v : Value} {c : Cmt} (h : CommitIs w v c) (hg : w.grownBy w' none) : CommitIs w' v c := by
  obtain ⟨vs, rfl, h⟩ := h
  exact ⟨vs, rfl, h.grown hg⟩
theorem CommitIs.agg {w : World} {v : Value} {c : Cmt} (h : CommitIs w v c) : ∃ a cap, v = .agg #[.int .i64 c.turn, .slice a c.writes.length cap] := by
  obtain ⟨vs, rfl, h⟩ := h
  obtain ⟨a, cap, rfl⟩ := h.shape
  exact ⟨a, cap, rfl⟩
theorem CommitIs.writes {w : World} {c : Cmt} {x y : Value} (h : CommitIs w (.agg #[x, y]) c) : x = .int .i64 c.turn ∧ WritesIs w y c.writes := by
  obtain ⟨vs, e, h⟩ := h
  injection e with e
  injection e with e
  injection e with e1 e
  injection e with e2 e
  exact ⟨e1, e2 ▸ h⟩
theorem commitIs_no (w : World) : CommitIs w (.agg #[.int .i64 0, .slice none 0 0]) noCmt := ⟨_, rfl, writesIs_nil w⟩
structure FitsC (c : Cmt) : Prop where
  turn : -9223372036854775808 ≤ c.turn ∧ c.turn ≤ 9223372036854775807
  writes : FitsW c.writes
theorem cmtT5 : (43 : Nat) ≠ 5 := by decide
theorem cmtTW : (43 : Nat) ≠ 52 := by decide
/-- A tape. -/
structure Tap where
  data : List UInt8
  synced : Int
def noTap : Tap := ⟨[], 0⟩
def TapeIs (w : World) (v : Value) (t : Tap) : Prop := ∃ vd, v = .agg #[vd, .int .i64 t.synced] ∧ SliceIs w vd t.data
theorem TapeIs.grown {w w' : World} {v : Value} {t : Tap} (h : TapeIs w v t) (hg : w.grownBy w' none) : TapeIs w' v t := by
  obtain ⟨vd, rfl, h⟩ := h
  exact ⟨vd, rfl, h.grown hg⟩
theorem TapeIs.agg {w : World} {v : Value} {t : Tap} (h : TapeIs w v t) : ∃ a cap, v = .agg #[.slice a t.data.length cap, .int .i64 t.synced] := by
  obtain ⟨vd, rfl, h⟩ := h
  obtain ⟨a, cap, rfl⟩ := h.shape
  exact ⟨a, cap, rfl⟩
theorem TapeIs.data {w : World} {t : Tap} {x y : Value} (h : TapeIs w (.agg #[x, y]) t) : SliceIs w x t.data ∧ y = .int .i64 t.synced := by
  obtain ⟨vd, e, h⟩ := h
  injection e with e
  injection e with e
  injection e with e1 e
  injection e with e2 e
  exact ⟨e1 ▸ h, e2⟩
theorem tapeIs_no (w : World) : TapeIs w (.agg #[.slice none 0 0, .int .i64 0]) noTap := ⟨_, rfl, sliceIs_nil w⟩
structure FitsTp (t : Tap) : Prop where
  data : t.data.length ≤ 140737488355328
  synced : -9223372036854775808 ≤ t.synced ∧ t.synced ≤ 9223372036854775807
end Go.Proofs.YtkheombfjgjedabDoor

/-
  What a row's proof opens with where a commit or a tape came in.
-/
namespace Go.Proofs.YtkheombfjgjedabDoor
open Go.ChangeShapes Go.WideShapes Go.ChangeAt Go.RowKit Go.Deep Go.Joins
set_option maxRecDepth 100000 in
/-- A commit that came in. -/
theorem commit_open {H : Type} {enc : TypeId × Value → H} {W : World} {hd : Bool} {r : Reach} {b0 : Nat} {v : Value} {d : DataW H} {p : List MemPlace} {t tw e : TypeId} {f0 f1 g0 g1 g2 g3 : Field} (hs : Tryd.prog.underlying t = some (.struct #[f0, f1])) (hone : oneCellFields Tryd.prog #[f0, f1] = true) (hC : Tryd.prog.cellsOf t = 2) (t0 : f0.type = 3) (t1 : f1.type = tw)
    (ht : Tryd.prog.underlying tw = some (.slice e)) (he : Tryd.prog.underlying e = some (.struct #[g0, g1, g2, g3])) (ce : Tryd.prog.cellsOf e = 4) (be : Tryd.prog.bytesOf e = 80) (o0 : g0.offset = 0) (o1 : g1.offset = 1) (o2 : g2.offset = 2) (o3 : g3.offset = 3) (u0 : g0.type = 22) (u1 : g1.type = 22) (u2 : g2.type = 4) (u3 : g3.type = 22)
    (hv : Value.okWide Tryd.prog W r b0 t v) (h : DataW.Trod enc Tryd.prog W 0 (fun _ => true) hd t v d p) (hB : ∀ m ∈ d.weights Tryd.prog t, m ≤ 140737488351232) :
    ∃ q : Cmt, CommitIs W v q ∧ FitsC q := by
  obtain ⟨v0, v1, y0, y1, n, rfl, rfl, rfl, h0, h1⟩ := open_agg2 hs hone hC hv h
  rw [t0] at h0
  rw [t1] at h1
  obtain ⟨z, hz, hy0, hwf⟩ := DataW.trod_int Tryd.underlying3 h0
  simp at hz
  subst hz
  obtain ⟨a, m, c, rfl⟩ : ∃ a m c, v1 = .slice a m c := by
    rcases open_slice ht h1 with ⟨hcs, _⟩ | ⟨y, n, c, m, k, D, Pl, hcs, _⟩
    · simp at hcs; exact ⟨_, _, _, hcs⟩
    · simp at hcs; exact ⟨_, _, _, hcs⟩
  obtain ⟨l, g1', _, g2'⟩ := writes_open ht he ce be o0 o1 o2 o3 u0 u1 u2 u3 h1
  refine ⟨⟨z, l⟩, ⟨_, rfl, g1'⟩, ⟨int_bounds hwf, fitsW_of (g2' _ (fun m hm => hB m ?_))⟩⟩
  simp only [DataW.weights, hs, DataW.weightsEach, List.map_cons, List.map_nil, t0, t1, List.mem_append]
  exact .inr (.inl hm)
set_option maxRecDepth 100000 in
/-- A tape that came in. -/
theorem tape_open {H : Type} {enc : TypeId × Value → H} {W : World} {hd : Bool} {r : Reach} {b0 : Nat} {v : Value} {d : DataW H} {p : List MemPlace} {t : TypeId} {f0 f1 : Field} (hs : Tryd.prog.underlying t = some (.struct #[f0, f1])) (hone : oneCellFields Tryd.prog #[f0, f1] = true) (hC : Tryd.prog.cellsOf t = 2) (t0 : f0.type = 22) (t1 : f1.type = 3)
    (hv : Value.okWide Tryd.prog W r b0 t v) (h : DataW.Trod enc Tryd.prog W 0 (fun _ => true) hd t v d p) (hB : ∀ m ∈ d.weights Tryd.prog t, m ≤ 140737488351232) :
    ∃ q : Tap, TapeIs W v q ∧ FitsTp q := by
  obtain ⟨v0, v1, y0, y1, n, rfl, rfl, rfl, h0, h1⟩ := open_agg2 hs hone hC hv h
  rw [t0] at h0
  rw [t1] at h1
  obtain ⟨z, hz, hy1, hwf⟩ := DataW.trod_int Tryd.underlying3 h1
  simp at hz
  subst hz
  obtain ⟨b, s0, w0⟩ := part_open h0
  refine ⟨⟨b, z⟩, ⟨_, rfl, s0⟩, ⟨?_, int_bounds hwf⟩⟩
  simp only [DataW.weights, hs, DataW.weightsEach, List.map_cons, List.map_nil, t0, t1, List.mem_append] at hB
  show b.length ≤ 140737488355328
  rcases w0 with w0 | ⟨q, hq, hle⟩
  · rw [w0]; simp
  · have := hB q (.inl hq); omega
end Go.Proofs.YtkheombfjgjedabDoor

/-
  Lists of commits in memory.
-/
namespace Go.Proofs.YtkheombfjgjedabDoor
open Go.RowKit
def CmtAt (w : World) (b o : Nat) (c : Cmt) : Prop := ∃ vs, w.cell? ⟨b, o, none⟩ = some (.int .i64 c.turn) ∧ w.cell? ⟨b, o + 1, none⟩ = some vs ∧ WritesIs w vs c.writes
theorem CmtAt.grown {w w' : World} {b o : Nat} {c : Cmt} (h : CmtAt w b o c) (hg : w.grownBy w' none) : CmtAt w' b o c := by
  obtain ⟨vs, c1, c2, h⟩ := h
  exact ⟨vs, hg.cell c1 (by simp), hg.cell c2 (by simp), h.grown hg⟩
def CommitsIs (w : World) (v : Value) (l : List Cmt) : Prop :=
  ∃ a cap, v = .slice a l.length cap ∧ l.length ≤ cap ∧ ((l = [] ∧ (a = none → cap = 0)) ∨ ∃ b o, a = some ⟨b, o, none⟩ ∧ ∀ i, i < l.length → CmtAt w b (o + i * 2) (l.getD i noCmt))
theorem commitsIs_nil (w : World) : CommitsIs w (.slice none 0 0) [] := ⟨none, 0, rfl, Nat.le_refl _, .inl ⟨rfl, fun _ => rfl⟩⟩
theorem CommitsIs.shape {w : World} {v : Value} {l : List Cmt} (h : CommitsIs w v l) : ∃ a cap, v = .slice a l.length cap := by
  obtain ⟨a, cap, rfl, _⟩ := h
  exact ⟨a, cap, rfl⟩
theorem CommitsIs.grown {w w' : World} {v : Value} {l : List Cmt} (h : CommitsIs w v l) (hg : w.grownBy w' none) : CommitsIs w' v l := by
  obtain ⟨a, cap, rfl, hc, h⟩ := h
  refine ⟨a, cap, rfl, hc, ?_⟩
  rcases h with h | ⟨b, o, rfl, h⟩
  · exact .inl h
  · exact .inr ⟨b, o, rfl, fun i hi => (h i hi).grown hg⟩
theorem CommitsIs.at {w : World} {a : Option Addr} {n cap : Nat} {l : List Cmt} (h : CommitsIs w (.slice a n cap) l) (i : Nat) (hi : i < l.length) : ∃ b o, a = some ⟨b, o, none⟩ ∧ CmtAt w b (o + i * 2) (l.getD i noCmt) := by
  obtain ⟨a', cap', e, hc, h⟩ := h
  simp only [Value.slice.injEq] at e
  obtain ⟨rfl, rfl, rfl⟩ := e
  rcases h with ⟨rfl, _⟩ | ⟨b, o, rfl, h⟩
  · simp at hi
  · exact ⟨b, o, rfl, h i hi⟩
structure FitsCs (l : List Cmt) : Prop where
  many : l.length * 32 ≤ 140737488355328
  each : ∀ i, i < l.length → FitsC (l.getD i noCmt)
abbrev CV := Cmt × Value
def noCV : CV := (noCmt, undef)
def flatC (us : List CV) : List Value := us.flatMap fun x => [.int .i64 x.1.turn, x.2]
theorem flatC_append (a b : List CV) : flatC (a ++ b) = flatC a ++ flatC b := by simp [flatC]
theorem flatC_get : ∀ (us : List CV) (i : Nat), i < us.length → (flatC us)[i * 2]? = some (.int .i64 (us.getD i noCV).1.turn) ∧ (flatC us)[i * 2 + 1]? = some (us.getD i noCV).2
  | [], i, h => by simp at h
  | x :: us, 0, _ => ⟨rfl, rfl⟩
  | x :: us, i + 1, h => by
    have := flatC_get us i (by simpa using h)
    rw [show (i + 1) * 2 = i * 2 + 2 by omega]
    exact this
/-- The list v of commits is the call's own, from block 'base' on. -/
def OwnC (base : Nat) (w : World) (v : Value) (l : List Cmt) : Prop :=
  ∃ us : List CV, us.map (·.1) = l ∧ w.ownsRow base 43 2 v l.length (flatC us) ∧ ∀ x ∈ us, WritesB base w x.2 x.1.writes
theorem ownC_nil (base : Nat) (w : World) : OwnC base w (.slice none 0 0) [] := ⟨[], rfl, World.ownsRow_nil _ _ _ _, fun x hx => by simp at hx⟩
theorem OwnC.row {base : Nat} {w : World} {v : Value} {l : List Cmt} (h : OwnC base w v l) : v.ownBlock = none ∨ ∃ g cur t fz, v.ownBlock = some g ∧ base ≤ g ∧ w.heap[g]? = some (.cells cur t fz) ∧ t ≠ 5 ∧ t ≠ 52 := by
  obtain ⟨us, _, h, _⟩ := h
  rcases h.2 with ⟨rfl, _⟩ | ⟨g, cap, cur, rfl, hb, hg, _⟩
  · exact .inl rfl
  · exact .inr ⟨g, cur, _, _, rfl, hb, hg, cmtT5, cmtTW⟩
theorem OwnC.lt {base : Nat} {w : World} {v : Value} {l : List Cmt} (h : OwnC base w v l) : ∀ k, v.ownBlock = some k → base ≤ k ∧ k < w.heap.size := by
  obtain ⟨us, _, h, _⟩ := h
  exact World.ownsRow.lt h
theorem OwnC.grownNone {base : Nat} {w w' : World} {v : Value} {l : List Cmt} (h : OwnC base w v l) (hg : w.grownBy w' none) : OwnC base w' v l := by
  obtain ⟨us, h1, h2, h3⟩ := h
  refine ⟨us, h1, World.ownsRow.kept h2 hg ?_, fun x hx => (h3 x hx).kept hg (.inl rfl)⟩
  cases hv : v.ownBlock with
  | none => exact .inl rfl
  | some k => exact .inr (by simp)
theorem OwnC.shape {base : Nat} {w : World} {v : Value} {l : List Cmt} (h : OwnC base w v l) : ∃ a cap, v = .slice a l.length cap := by
  obtain ⟨us, _, h, _⟩ := h
  rcases h.2 with ⟨rfl, h0⟩ | ⟨g, cap, cur, rfl, _⟩
  · exact ⟨none, 0, by rw [h0]⟩
  · exact ⟨_, cap, rfl⟩
theorem mapC_getD {us : List CV} {l : List Cmt} (h : us.map (·.1) = l) (i : Nat) (hi : i < l.length) : (us.getD i noCV).1 = l.getD i noCmt ∧ us.getD i noCV ∈ us := by
  subst h
  have hi' : i < us.length := by simpa using hi
  refine ⟨by simp [hi'], ?_⟩
  rw [show us.getD i noCV = us[i] by simp [hi']]
  exact List.getElem_mem hi'
theorem OwnC.list {base : Nat} {w : World} {v : Value} {l : List Cmt} (h : OwnC base w v l) : CommitsIs w v l := by
  obtain ⟨us, hl, hr, h3⟩ := h
  rcases hr.2 with ⟨rfl, h0⟩ | ⟨g, cap, cur, rfl, hb, hg, hn, hm, hs, ht⟩
  · have : l = [] := List.eq_nil_of_length_eq_zero h0
    rw [this]
    exact commitsIs_nil w
  · have hcell : ∀ j u, (flatC us)[j]? = some u → w.cell? ⟨g, j, none⟩ = some u := by
      intro j u hj
      have hlt : j < l.length * 2 := by
        have := (List.getElem?_eq_some_iff.1 hj).1
        rw [hr.1] at this
        exact this
      have e2 : (cur.toList.take (l.length * 2))[j]? = (flatC us)[j]? := by rw [ht]
      rw [List.getElem?_take, if_pos hlt, hj] at e2
      simp [World.cell?, hg]
      simpa using e2
    refine ⟨_, cap, rfl, hn, .inr ⟨g, 0, rfl, fun i hi => ?_⟩⟩
    obtain ⟨e1, e2⟩ := mapC_getD hl i hi
    have hlen : us.length = l.length := by rw [← hl]; simp
    obtain ⟨c1, c2⟩ := flatC_get us i (by omega)
    have hp := h3 _ e2
    rw [e1] at c1 hp
    rw [Nat.zero_add]
    exact ⟨_, hcell _ _ c1, hcell _ _ c2, hp.list⟩
theorem grown_ownC {base : Nat} {w W w1 : World} {v : Value} {l : List Cmt} (h : w.grownBy W none) (ho : OwnC base W v l) (hb : w.heap.size ≤ base) (hg : W.grownBy w1 v.ownBlock) : w.grownBy w1 none :=
  ⟨hg.os.trans h.os, hg.tape.trans h.tape, hg.output.trans h.output, Nat.le_trans h.size hg.size, fun i hi hn => (hg.block i (Nat.lt_of_lt_of_le hi h.size) (fun e => by have := (ho.lt i e.symm).1; omega)).trans (h.block i hi hn)⟩
theorem infoCmt : (Tryd.prog.info? 43).map (fun i => (i.zero, i.size, i.bytes)) = some (some (.agg #[.int .i64 0, .slice none 0 0]), 2, 32) := by kernel_rfl
/-- append(v, x) of one commit. -/
theorem wp_append_cmt {w : World} {o : Oper} {a : Act} {K : Act → World → Prop} {Q : Exit → Act → World → Prop} (s x : Operand)
    (ho : o.op = .call { callee := .builtin .append, args := #[s, x], argTypes := #[26, 26] }) (base : Nat) (v : Value) (l : List Cmt) (hs : a.eval s = v) (hown : OwnC base w v l)
    (vw : Value) (c : Cmt) (hw : WritesB base w vw c.writes) (nb : Nat) (hb : w.heap[nb]? = some (.cells #[.int .i64 c.turn, vw] 43))
    (hx : a.eval x = .slice (some ⟨nb, 0, none⟩) 1 1) (hl : (l.length + 1) * 32 ≤ 140737488355328) (hbase : base ≤ w.heap.size)
    (h : ∀ v' w', OwnC base w' v' (l ++ [c]) → w.grownBy w' v.ownBlock → K (a.put o.dst v') w') : o.wp Tryd.prog a w K Q := by
  obtain ⟨i0, hi, hz0, hz1, hz2⟩ := info_parts infoCmt
  have hrow := hown.row
  obtain ⟨us, hul, hr, hp⟩ := hown
  refine wp_append_lies w s x 26 ho base 43 i0 (.agg #[.int .i64 0, .slice none 0 0]) 2 32 Tryd.underlying26 hi hz0 hz1 hz2 rfl (by decide) v l.length (flatC us) hs hr ⟨nb, 0, none⟩ 1 1 (flatC [(c, vw)]) hx rfl (World.news_of_block (cs := #[.int .i64 c.turn, vw]) hb) ?_ (by omega) (by unfold maxLen; omega) hl hbase _ rfl ?_
  · intro u hu
    simp only [flatC, List.flatMap_cons, List.flatMap_nil, List.append_nil, List.mem_cons, List.not_mem_nil, or_false] at hu
    rcases hu with rfl | rfl
    · rfl
    · exact hw.oneCell
  · intro g cap w' q1 q2 _ _
    refine h _ w' ⟨us ++ [(c, vw)], by simp [hul], ?_, ?_⟩ q2
    · rw [flatC_append, List.length_append]; exact q1
    · intro y hy
      rcases List.mem_append.1 hy with hy | hy
      · exact (hp y hy).kept q2 hrow
      · simp only [List.mem_cons, List.not_mem_nil, or_false] at hy
        subst hy
        exact hw.kept q2 hrow
theorem wpList_append_cmt {w : World} {ops : Array Oper} {rest : List Oper} {o : Oper} {a : Act} {Q : Exit → Act → World → Prop} (hgd : o.guard = none) (s x : Operand)
    (ho : o.op = .call { callee := .builtin .append, args := #[s, x], argTypes := #[26, 26] }) (base : Nat) (v : Value) (l : List Cmt) (hs : a.eval s = v) (hown : OwnC base w v l)
    (vw : Value) (c : Cmt) (hw : WritesB base w vw c.writes) (nb : Nat) (hb : w.heap[nb]? = some (.cells #[.int .i64 c.turn, vw] 43))
    (hx : a.eval x = .slice (some ⟨nb, 0, none⟩) 1 1) (hl : (l.length + 1) * 32 ≤ 140737488355328) (hbase : base ≤ w.heap.size)
    (h : ∀ v' w', OwnC base w' v' (l ++ [c]) → w.grownBy w' v.ownBlock → wpList Tryd.prog ops Q rest (a.put o.dst v') w') : wpList Tryd.prog ops Q (o :: rest) a w :=
  wpList_plain hgd fun _ hK => wp_append_cmt s x ho base v l hs hown vw c hw nb hb hx hl hbase fun v' w' h1 h2 => hK _ _ (h v' w' h1 h2)
end Go.Proofs.YtkheombfjgjedabDoor

/-
  What P6 answers, with no program: tapes that may be, Encode, Sync, Crash.
-/
namespace Go.Proofs.YtkheombfjgjedabDoor
open Go.RowKit
/-- P6.1. -/
def mayT (t : Tap) : Bool := decide (t.data.length ≤ 200000) && decide (0 ≤ t.synced ∧ t.synced ≤ (t.data.length : Int))
theorem mayT_iff (t : Tap) : mayT t = true ↔ t.data.length ≤ 200000 ∧ 0 ≤ t.synced ∧ t.synced ≤ (t.data.length : Int) := by
  unfold mayT
  rw [Bool.and_eq_true, decide_eq_true_iff, decide_eq_true_iff]
/-- What P6.3 answers. -/
def encF (c : Cmt) : List UInt8 := if commitE c = 0 then commitB c else []
/-- What P6.6 answers. -/
def syncE (t : Tap) : Int := if mayT t = true then 0 else 6
def syncT (t : Tap) : Tap := if mayT t = true then ⟨t.data, (t.data.length : Int)⟩ else noTap
/-- What P6.7 answers. -/
def crashE (t : Tap) (keep : Int) : Int := if mayT t = true then (if keep < 0 then 2 else 0) else 6
def crashN (t : Tap) (keep : Int) : Nat := if keep < (t.data.length : Int) - t.synced then (t.synced + keep).toNat else t.data.length
def crashT (t : Tap) (keep : Int) : Tap := if crashE t keep = 0 then ⟨t.data.take (crashN t keep), (crashN t keep : Int)⟩ else noTap
end Go.Proofs.YtkheombfjgjedabDoor

/-
  What P6.5 and P6.8 answer, with no program. D: the four bytes that stand behind a commit's.
-/
namespace Go.Proofs.YtkheombfjgjedabDoor
open Go.RowKit
def appE (D : List UInt8 → List UInt8) (t : Tap) (c : Cmt) : Int := if mayT t = true then (if commitE c = 0 then (if 200000 < t.data.length + (frameB D c).length then 11 else 0) else commitE c) else 6
def appT (D : List UInt8 → List UInt8) (t : Tap) (c : Cmt) : Tap := if appE D t c = 0 then ⟨t.data ++ frameB D c, t.synced⟩ else noTap
def recE (t : Tap) : Int := if mayT t = true then 0 else 6
def recC (D : List UInt8 → List UInt8) (t : Tap) : List Cmt := if mayT t = true then (recL D 1 t.data).1 else []
def recT (D : List UInt8 → List UInt8) (t : Tap) : Tap := if mayT t = true then ⟨t.data.take (recN D t.data), if t.synced > (recN D t.data : Int) then (recN D t.data : Int) else t.synced⟩ else noTap
end Go.Proofs.YtkheombfjgjedabDoor

/-
  What tape.Recover must keep.
-/
namespace Go.Proofs.YtkheombfjgjedabDoor
open Go.RowKit
def TpRecOK : Prop := ∀ (w : World) (v : Value) (t : Tap), TapeIs w v t → FitsTp t → Tabs w → Calls Tryd.prog 6 #[v] w fun e w' => ∃ vs x, e = .returned (.tuple #[vs, x, .int .i64 (recE t)]) ∧ CommitsIs w' vs (recC fourF t) ∧ TapeIs w' x (recT fourF t) ∧ w.grownBy w' none
end Go.Proofs.YtkheombfjgjedabDoor

/-
  What tape.Decode must keep.
-/
namespace Go.Proofs.YtkheombfjgjedabDoor
open Go.RowKit
def TpDecOK : Prop := ∀ (w : World) (v : Value) (b : List UInt8), SliceIs w v b → b.length ≤ 140737488355328 → Calls Tryd.prog 27 #[v] w fun e w' => ∃ x, e = .returned (.tuple #[x, .int .i64 (decE b)]) ∧ CommitIs w' x (decC b) ∧ w.grownBy w' none
end Go.Proofs.YtkheombfjgjedabDoor

/-
  What tape.Check must keep.
-/
namespace Go.Proofs.YtkheombfjgjedabDoor
open Go.RowKit
def TpCheckOK : Prop := ∀ (w : World) (v : Value) (c : Cmt), CommitIs w v c → FitsC c → Calls Tryd.prog 43 #[v] w fun e w' => e = .returned (.int .i64 (commitE c)) ∧ w.grownBy w' none
end Go.Proofs.YtkheombfjgjedabDoor

/-
  A list of writes with two bases (where its own block lies, where its bytes may lie), and blocks that turn beside it.
-/
namespace Go.Proofs.YtkheombfjgjedabDoor
open Go.RowKit
theorem set_self {w : World} {b i : Nat} {cs : Array Value} {t : TypeId} {fz : Nat × Nat} {u : Value} (h : w.heap[b]? = some (.cells cs t fz)) : (w.setCell ⟨b, i, none⟩ u).heap[b]? = some (.cells (cs.setIfInBounds i u) t fz) := by
  simp only [World.setCell, Array.getElem?_modify, if_true, h, Option.map_some]; rfl
theorem set_apart {w : World} {b c i : Nat} {o : Obj} {u : Value} (h : w.heap[b]? = some o) (hne : b ≠ c) : (w.setCell ⟨c, i, none⟩ u).heap[b]? = some o := by
  simp only [World.setCell, Array.getElem?_modify]
  rw [if_neg (fun e => hne e.symm)]; exact h
theorem set_grown (w : World) (b i : Nat) (u : Value) : w.grownBy (w.setCell ⟨b, i, none⟩ u) (some b) := grown_set (grown_refl w _) i u
theorem PartIs.setOther {base : Nat} {w : World} {v : Value} {bs : List UInt8} (h : PartIs base w v bs) {b i : Nat} {cs : Array Value} {t : TypeId} {fz : Nat × Nat} (hb : w.heap[b]? = some (.cells cs t fz)) (ht : t ≠ 5) (hbb : base ≤ b) (u : Value) : PartIs base (w.setCell ⟨b, i, none⟩ u) v bs :=
  h.keptT (set_grown w b i u) (.inr ⟨b, cs, t, fz, rfl, hbb, hb, ht⟩)
/-- The list v of writes is the call's own, from block rb on; its bytes lie ahead of block pb, or in blocks of bytes. -/
def OwnV (rb pb : Nat) (w : World) (v : Value) (l : List Plc) : Prop :=
  ∃ us : List WV, us.map (·.1) = l ∧ w.ownsRow rb 52 4 v l.length (flatW us) ∧ ∀ x ∈ us, PartIs pb w x.2.1 x.1.name ∧ PartIs pb w x.2.2.1 x.1.key ∧ PartIs pb w x.2.2.2 x.1.value
theorem ownV_nil (rb pb : Nat) (w : World) : OwnV rb pb w (.slice none 0 0) [] := ⟨[], rfl, World.ownsRow_nil _ _ _ _, fun x hx => by simp at hx⟩
theorem OwnV.own {rb : Nat} {w : World} {v : Value} {l : List Plc} (h : OwnV rb rb w v l) : OwnW rb w v l := h
theorem OwnV.row {rb pb : Nat} {w : World} {v : Value} {l : List Plc} (h : OwnV rb pb w v l) : v.ownBlock = none ∨ ∃ g cur fz, v.ownBlock = some g ∧ rb ≤ g ∧ w.heap[g]? = some (.cells cur 52 fz) := by
  obtain ⟨us, _, h, _⟩ := h
  rcases h.2 with ⟨rfl, _⟩ | ⟨g, cap, cur, rfl, hb, hg, _⟩
  · exact .inl rfl
  · exact .inr ⟨g, cur, _, rfl, hb, hg⟩
theorem OwnV.lt {rb pb : Nat} {w : World} {v : Value} {l : List Plc} (h : OwnV rb pb w v l) : ∀ k, v.ownBlock = some k → rb ≤ k ∧ k < w.heap.size := by
  obtain ⟨us, _, h, _⟩ := h
  exact World.ownsRow.lt h
theorem OwnV.ne {rb pb : Nat} {w : World} {v : Value} {l : List Plc} (h : OwnV rb pb w v l) {b : Nat} {cs : Array Value} {t : TypeId} {fz : Nat × Nat} (hb : w.heap[b]? = some (.cells cs t fz)) (ht : t ≠ 52) : v.ownBlock ≠ some b := by
  intro e
  rcases h.row with h0 | ⟨g, cur, fz2, h1, _, h2⟩
  · rw [h0] at e; cases e
  · rw [h1] at e
    cases e
    rw [hb] at h2
    simp only [Option.some.injEq, Obj.cells.injEq] at h2
    exact ht h2.2.1
theorem OwnV.kept {rb pb : Nat} {w w' : World} {v : Value} {l : List Plc} (h : OwnV rb pb w v l) {row : Option Nat} (hg : w.grownBy w' row) (hne : v.ownBlock = none ∨ v.ownBlock ≠ row) (hrow : row = none ∨ ∃ g cur t fz, row = some g ∧ pb ≤ g ∧ w.heap[g]? = some (.cells cur t fz) ∧ t ≠ 5) : OwnV rb pb w' v l := by
  obtain ⟨us, h1, h2, h3⟩ := h
  exact ⟨us, h1, World.ownsRow.kept h2 hg hne, fun x hx => ⟨(h3 x hx).1.keptT hg hrow, (h3 x hx).2.1.keptT hg hrow, (h3 x hx).2.2.keptT hg hrow⟩⟩
theorem OwnV.grownNone {rb pb : Nat} {w w' : World} {v : Value} {l : List Plc} (h : OwnV rb pb w v l) (hg : w.grownBy w' none) : OwnV rb pb w' v l := h.kept hg (by
  cases hv : v.ownBlock with
  | none => exact .inl rfl
  | some k => exact .inr (by simp)) (.inl rfl)
theorem OwnV.setOther {rb pb : Nat} {w : World} {v : Value} {l : List Plc} (h : OwnV rb pb w v l) {b i : Nat} {cs : Array Value} {t : TypeId} {fz : Nat × Nat} (hb : w.heap[b]? = some (.cells cs t fz)) (ht : t ≠ 5) (ht2 : t ≠ 52) (hbb : pb ≤ b) (u : Value) : OwnV rb pb (w.setCell ⟨b, i, none⟩ u) v l :=
  h.kept (set_grown w b i u) (.inr (h.ne hb ht2)) (.inr ⟨b, cs, t, fz, rfl, hbb, hb, ht⟩)
theorem OwnV.shape {rb pb : Nat} {w : World} {v : Value} {l : List Plc} (h : OwnV rb pb w v l) : ∃ a cap, v = .slice a l.length cap := by
  obtain ⟨us, _, h, _⟩ := h
  rcases h.2 with ⟨rfl, h0⟩ | ⟨g, cap, cur, rfl, _⟩
  · exact ⟨none, 0, by rw [h0]⟩
  · exact ⟨_, cap, rfl⟩
theorem OwnV.any {rb pb : Nat} {w : World} {v : Value} {l : List Plc} (h : OwnV rb pb w v l) : ∃ a n cap, v = .slice a n cap := by
  obtain ⟨a, cap, e⟩ := h.shape
  exact ⟨a, _, cap, e⟩
theorem OwnV.down {rb pb : Nat} {w : World} {v : Value} {l : List Plc} (h : OwnV rb pb w v l) (rb' : Nat) (hb : rb' ≤ rb) : OwnV rb' pb w v l := by
  obtain ⟨us, h1, h2, h3⟩ := h
  refine ⟨us, h1, ⟨h2.1, ?_⟩, h3⟩
  rcases h2.2 with h | ⟨g, cap, cur, e, hb2, rest⟩
  · exact .inl h
  · exact .inr ⟨g, cap, cur, e, Nat.le_trans hb hb2, rest⟩
theorem OwnV.writesB {rb pb : Nat} {w : World} {v : Value} {l : List Plc} (h : OwnV rb pb w v l) : WritesB pb w v l := by
  obtain ⟨us, hl, hr, h3⟩ := h
  rcases hr.2 with ⟨rfl, h0⟩ | ⟨g, cap, cur, rfl, hb, hg, hn, hm, hs, ht⟩
  · have : l = [] := List.eq_nil_of_length_eq_zero h0
    rw [this]
    exact writesB_nil pb w
  · have hcell : ∀ j u, (flatW us)[j]? = some u → w.cell? ⟨g, j, none⟩ = some u := by
      intro j u hj
      have hlt : j < l.length * 4 := by
        have := (List.getElem?_eq_some_iff.1 hj).1
        rw [hr.1] at this
        exact this
      have e2 : (cur.toList.take (l.length * 4))[j]? = (flatW us)[j]? := by rw [ht]
      rw [List.getElem?_take, if_pos hlt, hj] at e2
      simp [World.cell?, hg]
      simpa using e2
    refine ⟨_, cap, rfl, hn, .inr ⟨g, 0, rfl, .inr ⟨_, _, hg⟩, fun i hi => ?_⟩⟩
    obtain ⟨e1, e2⟩ := mapW_getD hl i hi
    have hlen : us.length = l.length := by rw [← hl]; simp
    obtain ⟨c1, c2, c3, c4⟩ := flatW_get us i (by omega)
    have hp := h3 _ e2
    rw [e1] at c3 hp
    rw [Nat.zero_add]
    exact ⟨_, _, _, hcell _ _ c1, hcell _ _ c2, hcell _ _ c3, hcell _ _ c4, hp.1, hp.2.1, hp.2.2⟩
theorem OwnV.list {rb pb : Nat} {w : World} {v : Value} {l : List Plc} (h : OwnV rb pb w v l) : WritesIs w v l := h.writesB.list
theorem grown_ownV {rb pb : Nat} {w W w1 : World} {v : Value} {l : List Plc} (h : w.grownBy W none) (ho : OwnV rb pb W v l) (hb : w.heap.size ≤ rb) (hg : W.grownBy w1 v.ownBlock) : w.grownBy w1 none :=
  ⟨hg.os.trans h.os, hg.tape.trans h.tape, hg.output.trans h.output, Nat.le_trans h.size hg.size, fun i hi hn => (hg.block i (Nat.lt_of_lt_of_le hi h.size) (fun e => by have := (ho.lt i e.symm).1; omega)).trans (h.block i hi hn)⟩
/-- append(v, x) of one write. -/
theorem wpList_append_wrV {w : World} {ops : Array Oper} {rest : List Oper} {o : Oper} {a : Act} {Q : Exit → Act → World → Prop} (hgd : o.guard = none) (s x : Operand)
    (ho : o.op = .call { callee := .builtin .append, args := #[s, x], argTypes := #[41, 41] }) (rb : Nat) (v : Value) (l : List Plc) (hs : a.eval s = v) (hown : OwnV rb 0 w v l)
    (vn vk vv : Value) (p : Plc) (h1 : PartIs 0 w vn p.name) (h2 : PartIs 0 w vk p.key) (h3 : PartIs 0 w vv p.value) (nb : Nat) (hb : w.heap[nb]? = some (.cells #[vn, vk, .bool p.gone, vv] 52))
    (hx : a.eval x = .slice (some ⟨nb, 0, none⟩) 1 1) (hl : (l.length + 1) * 80 ≤ 140737488355328) (hbase : rb ≤ w.heap.size)
    (h : ∀ v' w', OwnV rb 0 w' v' (l ++ [p]) → w.grownBy w' v.ownBlock → wpList Tryd.prog ops Q rest (a.put o.dst v') w') : wpList Tryd.prog ops Q (o :: rest) a w := by
  obtain ⟨i0, hi, hz0, hz1, hz2⟩ := info_parts infoWr
  have hrow : v.ownBlock = none ∨ ∃ g cur t fz, v.ownBlock = some g ∧ 0 ≤ g ∧ w.heap[g]? = some (.cells cur t fz) ∧ t ≠ 5 := by
    rcases hown.row with h | ⟨g, cur, fz, e, _, h⟩
    · exact .inl h
    · exact .inr ⟨g, cur, _, fz, e, Nat.zero_le _, h, wrT5⟩
  obtain ⟨us, hul, hr, hp⟩ := hown
  refine wpList_plain hgd fun K hK => ?_
  refine wp_append_lies w s x 41 ho rb 52 i0 (.agg #[.slice none 0 0, .slice none 0 0, .bool false, .slice none 0 0]) 4 80 Tryd.underlying41 hi hz0 hz1 hz2 rfl (by decide) v l.length (flatW us) hs hr ⟨nb, 0, none⟩ 1 1 (flatW [(p, vn, vk, vv)]) hx rfl (World.news_of_block (cs := #[vn, vk, .bool p.gone, vv]) hb) ?_ (by omega) (by unfold maxLen; omega) hl hbase _ rfl ?_
  · intro u hu
    simp only [flatW, List.flatMap_cons, List.flatMap_nil, List.append_nil, List.mem_cons, List.not_mem_nil, or_false] at hu
    rcases hu with rfl | rfl | rfl | rfl
    · exact part_oneCell h1
    · exact part_oneCell h2
    · rfl
    · exact part_oneCell h3
  · intro g cap w' q1 q2 _ _
    refine hK _ _ (h _ w' ⟨us ++ [(p, vn, vk, vv)], by simp [hul], ?_, ?_⟩ q2)
    · rw [flatW_append, List.length_append]; exact q1
    · intro y hy
      rcases List.mem_append.1 hy with hy | hy
      · exact ⟨(hp y hy).1.keptT q2 hrow, (hp y hy).2.1.keptT q2 hrow, (hp y hy).2.2.keptT q2 hrow⟩
      · simp only [List.mem_cons, List.not_mem_nil, or_false] at hy
        subst hy
        exact ⟨h1.keptT q2 hrow, h2.keptT q2 hrow, h3.keptT q2 hrow⟩
end Go.Proofs.YtkheombfjgjedabDoor

/-
  A reader of bytes in memory; b[n:]; blocks that come and turn beside it.
-/
namespace Go.Proofs.YtkheombfjgjedabDoor
open Go.RowKit
theorem alloc_named0 (w : World) (o : Obj) : ∃ W : World, Hid (W = w.alloc o) ∧ w.grownBy W none ∧ Hid (W.heap[w.heap.size]? = some o) := ⟨w.alloc o, rfl, World.grownBy_alloc _ _ _, heap_alloc_new w o⟩
theorem set_named0 (w : World) (b i : Nat) (u : Value) : ∃ W : World, Hid (W = w.setCell ⟨b, i, none⟩ u) ∧ w.grownBy W (some b) := ⟨_, rfl, set_grown w b i u⟩
theorem bslice_l (a : Option Addr) (cap : Nat) (l : List UInt8) (n : Nat) (hn : n ≤ l.length) : ∃ a1 c1, (∀ W, (Instr.slice 22 (.slice a l.length cap) (some (.int .i64 (n : Int))) none none).run Tryd.prog W = .ok (.slice a1 (l.length - n) c1) W) ∧ ∀ W, SliceIs W (.slice a l.length cap) l → SliceIs W (.slice a1 (l.length - n) c1) (l.drop n) := by
  refine ⟨if cap = n then a else a.map (·.add (n * 1)), cap - n, fun W => ?_, fun W h => ?_⟩
  · rw [run_slice_l _ _ _ _ _ (by kernel_rfl) _ _ (by omega) (by omega), sizeByte]
    simp only [Result.andThen, Go.sliced, Int.toNat_natCast]
  · have := h.sliced n l.length hn (Nat.le_refl _)
    simpa only [Go.sliced, List.take_length] using this
theorem rdrT5 : (74 : Nat) ≠ 5 := by decide
theorem rdrTW : (74 : Nat) ≠ 52 := by decide
theorem rdrTC : (74 : Nat) ≠ 43 := by decide
/-- A slice of bytes does not lie in the reader's block. -/
theorem SliceIs.rdr {w w' : World} {b : Nat} {a0 : Option Addr} {n0 c0 : Nat} {s : Bool} {t : TypeId} {v : Value} {bs : List UInt8} (h : SliceIs w v bs) (hb : w.heap[b]? = some (.cells #[.slice a0 n0 c0, .bool s] t)) (hg : w.grownBy w' (some b)) : SliceIs w' v bs := by
  obtain ⟨a, cap, rfl, hc, h⟩ := h
  refine ⟨a, cap, rfl, hc, ?_⟩
  rcases h with h | ⟨pb, o, rfl, h⟩
  · exact .inl h
  · by_cases h0 : bs = []
    · exact .inl ⟨h0, fun e => by cases e⟩
    · refine .inr ⟨pb, o, rfl, h.grown hg ?_⟩
      intro e
      cases e
      have hc0 := h 0 (List.length_pos_iff.2 h0)
      simp only [World.cell?, hb, Nat.add_zero] at hc0
      match o, hc0 with
      | 0, hc0 => simp at hc0
      | 1, hc0 => simp at hc0
      | o + 2, hc0 => simp at hc0
/-- The reader that lies in block b: what is left lies where it lay in an elder world. -/
structure RdrAt (w0 w : World) (b : Nat) (r : Rdr) : Prop where
  at_ : ∃ a cap, w.heap[b]? = some (.cells #[.slice a r.rest.length cap, .bool r.short] 74) ∧ SliceIs w0 (.slice a r.rest.length cap) r.rest
  old : ∃ a n c s, w0.heap[b]? = some (.cells #[.slice a n c, .bool s] 74)
  grown : w0.grownBy w (some b)
theorem RdrAt.lt {w0 w : World} {b : Nat} {r : Rdr} (h : RdrAt w0 w b r) : b < w.heap.size := by
  obtain ⟨a, cap, h, _⟩ := h.at_
  exact (Array.getElem?_eq_some_iff.1 h).1
theorem RdrAt.now {w0 w : World} {b : Nat} {r : Rdr} (h : RdrAt w0 w b r) {v : Value} {bs : List UInt8} (hv : SliceIs w0 v bs) : SliceIs w v bs := by
  obtain ⟨a, n, c, s, h0⟩ := h.old
  exact hv.rdr h0 h.grown
theorem RdrAt.row {w0 w : World} {b : Nat} {r : Rdr} (h : RdrAt w0 w b r) : some b = none ∨ ∃ g cur t fz, some b = some g ∧ 0 ≤ g ∧ w.heap[g]? = some (.cells cur t fz) ∧ t ≠ 5 := by
  obtain ⟨a, cap, h, _⟩ := h.at_
  exact .inr ⟨b, _, _, _, rfl, Nat.zero_le _, h, rdrT5⟩
theorem PartIs.rdr {w0 w w' : World} {b : Nat} {r : Rdr} {v : Value} {bs : List UInt8} (h : PartIs 0 w v bs) (hb : RdrAt w0 w b r) (hg : w.grownBy w' (some b)) : PartIs 0 w' v bs := h.keptT hg hb.row
theorem grown_of_none {w w' : World} (hg : w.grownBy w' none) (r : Option Nat) : w.grownBy w' r := ⟨hg.os, hg.tape, hg.output, hg.size, fun i hi _ => hg.block i hi (by simp)⟩
theorem RdrAt.kept {w0 w w' : World} {b : Nat} {r : Rdr} (h : RdrAt w0 w b r) (hg : w.grownBy w' none) : RdrAt w0 w' b r := by
  have hl := h.lt
  obtain ⟨a, cap, h1, hs⟩ := h.at_
  exact ⟨⟨a, cap, by rw [hg.block b hl (by simp)]; exact h1, hs⟩, h.old, grown_trans h.grown (grown_of_none hg _)⟩
/-- A block that is not the reader's stays where the reader turns. -/
theorem rdr_other {w w' : World} {b : Nat} (hg : w.grownBy w' (some b)) {c : Nat} {o : Obj} (hc : w.heap[c]? = some o) (hne : c ≠ b) : w'.heap[c]? = some o := by
  rw [hg.block c (Array.getElem?_eq_some_iff.1 hc).1 (by simpa using hne)]; exact hc
/-- The reader stays where a later block turns. -/
theorem RdrAt.apart {w0 w w' : World} {b : Nat} {r : Rdr} (h : RdrAt w0 w b r) {c : Nat} (hne : b ≠ c) (hc : w0.heap.size ≤ c) (hg : w.grownBy w' (some c)) : RdrAt w0 w' b r := by
  have hl := h.lt
  obtain ⟨a, cap, h1, hs⟩ := h.at_
  exact ⟨⟨a, cap, by rw [hg.block b hl (by simpa using hne)]; exact h1, hs⟩, h.old, grown_new h.grown hc hg⟩
theorem OwnV.rdr {rb : Nat} {w0 w w' : World} {b : Nat} {r : Rdr} {v : Value} {l : List Plc} (h : OwnV rb 0 w v l) (hb : RdrAt w0 w b r) (hg : w.grownBy w' (some b)) : OwnV rb 0 w' v l := by
  obtain ⟨a, cap, h0, _⟩ := hb.at_
  exact h.kept hg (.inr (h.ne h0 rdrTW)) hb.row
/-- Where a list of writes grows, the reader stays. -/
theorem RdrAt.ownV {rb : Nat} {w0 w w' : World} {b : Nat} {r : Rdr} {v : Value} {l : List Plc} (h : RdrAt w0 w b r) (ho : OwnV rb 0 w v l) (hb : w0.heap.size ≤ rb) (hg : w.grownBy w' v.ownBlock) : RdrAt w0 w' b r := by
  obtain ⟨a, cap, h1, hs⟩ := h.at_
  have hne := ho.ne h1 rdrTW
  cases hv : v.ownBlock with
  | none => rw [hv] at hg; exact h.kept hg
  | some g =>
    rw [hv] at hg hne
    exact h.apart (c := g) (fun e => hne (by rw [e])) (Nat.le_trans hb (ho.lt g hv).1) hg
end Go.Proofs.YtkheombfjgjedabDoor

/-
  Lists of commits where other blocks turn.
-/
namespace Go.Proofs.YtkheombfjgjedabDoor
open Go.RowKit
theorem tapT5 : (24 : Nat) ≠ 5 := by decide
theorem tapTW : (24 : Nat) ≠ 52 := by decide
theorem tapTC : (24 : Nat) ≠ 43 := by decide
theorem OwnC.ne {base : Nat} {w : World} {v : Value} {l : List Cmt} (h : OwnC base w v l) {b : Nat} {cs : Array Value} {t : TypeId} {fz : Nat × Nat} (hb : w.heap[b]? = some (.cells cs t fz)) (ht : t ≠ 43) : v.ownBlock ≠ some b := by
  intro e
  obtain ⟨us, _, h, _⟩ := h
  rcases h.2 with ⟨rfl, _⟩ | ⟨g, cap, cur, rfl, _, hg, _⟩
  · cases e
  · cases e
    rw [hb] at hg
    simp only [Option.some.injEq, Obj.cells.injEq] at hg
    exact ht hg.2.1
theorem OwnC.setOther {base : Nat} {w : World} {v : Value} {l : List Cmt} (h : OwnC base w v l) {b i : Nat} {cs : Array Value} {t : TypeId} {fz : Nat × Nat} (hb : w.heap[b]? = some (.cells cs t fz)) (ht : t ≠ 5) (ht2 : t ≠ 52) (ht3 : t ≠ 43) (hbb : base ≤ b) (u : Value) : OwnC base (w.setCell ⟨b, i, none⟩ u) v l := by
  have hne := h.ne hb ht3
  obtain ⟨us, h1, h2, h3⟩ := h
  exact ⟨us, h1, World.ownsRow.kept h2 (set_grown w b i u) (.inr hne), fun x hx => (h3 x hx).kept (set_grown w b i u) (.inr ⟨b, cs, t, fz, rfl, hbb, hb, ht, ht2⟩)⟩
/-- A block of another type stays where a list of commits grows. -/
theorem OwnC.other {base : Nat} {w w' : World} {v : Value} {l : List Cmt} (h : OwnC base w v l) (hg : w.grownBy w' v.ownBlock) {b : Nat} {cs : Array Value} {t : TypeId} {fz : Nat × Nat} (hb : w.heap[b]? = some (.cells cs t fz)) (ht : t ≠ 43) : w'.heap[b]? = some (.cells cs t fz) := by
  rw [hg.block b (Array.getElem?_eq_some_iff.1 hb).1 (fun e => h.ne hb ht e.symm)]; exact hb
end Go.Proofs.YtkheombfjgjedabDoor

/-
  What is recovered are commits that may be, not more than the bytes.
-/
namespace Go.Proofs.YtkheombfjgjedabDoor
open Go.RowKit
theorem rec_each (D : List UInt8 → List UInt8) : ∀ (n t : Nat) (r : List UInt8) (_ : r.length ≤ n), (recL D t r).1.length * 6 ≤ r.length ∧ ∀ c ∈ (recL D t r).1, commitE c = 0
  | 0, t, r, h => by
    have : r = [] := List.eq_nil_of_length_eq_zero (by omega)
    subst this
    rw [rec_stop (frame_nil D)]
    exact ⟨by simp, fun c hc => by simp at hc⟩
  | n + 1, t, r, h => by
    cases hf : frameD D r with
    | none => rw [rec_stop hf]; exact ⟨by simp, fun c hc => by simp at hc⟩
    | some q =>
      obtain ⟨c, r2⟩ := q
      by_cases ht : c.turn = (t : Int)
      · obtain ⟨m, h1, h2, h3, h4⟩ := frame_less hf
        have hl : r2.length = r.length - m := by rw [h3, List.length_drop]
        obtain ⟨k1, k2⟩ := rec_each D n (t + 1) r2 (by omega)
        rw [rec_go hf ht]
        refine ⟨?_, fun x hx => ?_⟩
        · show (c :: (recL D (t + 1) r2).1).length * 6 ≤ _
          rw [List.length_cons]; omega
        · rcases List.mem_cons.1 hx with rfl | hx
          · exact h4
          · exact k2 x hx
      · rw [rec_other hf ht]; exact ⟨by simp, fun c hc => by simp at hc⟩
theorem recC_each (D : List UInt8 → List UInt8) (t : Tap) : (recC D t).length ≤ 200000 ∧ ∀ i, i < (recC D t).length → commitE ((recC D t).getD i noCmt) = 0 := by
  unfold recC
  by_cases hm : mayT t = true
  · rw [if_pos hm]
    obtain ⟨h1, h2⟩ := rec_each D _ 1 t.data (Nat.le_refl _)
    have h3 := ((mayT_iff t).1 hm).1
    refine ⟨by omega, fun i hi => ?_⟩
    rw [show (recL D 1 t.data).1.getD i noCmt = (recL D 1 t.data).1[i] by simp [hi]]
    exact h2 _ (List.getElem_mem hi)
  · rw [if_neg hm]; exact ⟨by simp, fun i hi => by simp at hi⟩
end Go.Proofs.YtkheombfjgjedabDoor

/-
  Commits that may be fit into memory.
-/
namespace Go.Proofs.YtkheombfjgjedabDoor
open Go.RowKit
theorem writes_fits {ws : List Plc} (hn : ws.length ≤ 1000) (h : ∀ w ∈ ws, writeE w = 0) : FitsW ws := ⟨by omega, fun j hj => by
  have h0 := h ws[j] (List.getElem_mem hj)
  rw [show ws[j] = ws.getD j noPlc by simp [hj]] at h0
  have h2 := (writeE_iff _).1 h0
  have h3 : (ws.getD j noPlc).value.length ≤ 32 := by
    have := h2.2.2
    split at this
    · rw [this]; simp
    · exact this
  exact ⟨by omega, by omega, by omega⟩⟩
theorem commit_fits {c : Cmt} (h : commitE c = 0) : FitsC c := by
  obtain ⟨h1, h2, h3⟩ := (commit_iff c).1 h
  exact ⟨by omega, writes_fits (by omega) h3⟩
end Go.Proofs.YtkheombfjgjedabDoor

/-
  Bytes and writes stay where the two cells of another block are written.
-/
namespace Go.Proofs.YtkheombfjgjedabDoor
open Go.RowKit
theorem SliceIs.setPair {w : World} {v : Value} {bs : List UInt8} (h : SliceIs w v bs) {nb : Nat} {x y : Value} {t : TypeId} (hb : w.heap[nb]? = some (.cells #[x, y] t)) (hx : ∀ q, x ≠ .int .u8 q) (hy : ∀ q, y ≠ .int .u8 q) (u1 u2 : Value) :
    SliceIs ((w.setCell ⟨nb, 0, none⟩ u1).setCell ⟨nb, 1, none⟩ u2) v bs := by
  obtain ⟨a, cap, rfl, hc, h⟩ := h
  refine ⟨a, cap, rfl, hc, ?_⟩
  rcases h with h | ⟨c, o, rfl, h⟩
  · exact .inl h
  · refine .inr ⟨c, o, rfl, fun i hi => ?_⟩
    have h1 := h i hi
    have hne : c ≠ nb := by
      rintro rfl
      match hj : o + i with
      | 0 => rw [hj] at h1; simp [World.cell?, hb] at h1; exact hx _ h1
      | 1 => rw [hj] at h1; simp [World.cell?, hb] at h1; exact hy _ h1
      | n + 2 => rw [hj] at h1; simp [World.cell?, hb] at h1
    rw [World.cell?_setCell_other _ _ _ _ (fun e => hne (congrArg Addr.block e).symm), World.cell?_setCell_other _ _ _ _ (fun e => hne (congrArg Addr.block e).symm)]
    exact h1
theorem WritesIs.setPair {w : World} {v : Value} {l : List Plc} (h : WritesIs w v l) {nb : Nat} {x y : Value} {t : TypeId} (hb : w.heap[nb]? = some (.cells #[x, y] t)) (hx : ∀ q, x ≠ .int .u8 q) (hy : ∀ q, y ≠ .int .u8 q) (u1 u2 : Value) :
    WritesIs ((w.setCell ⟨nb, 0, none⟩ u1).setCell ⟨nb, 1, none⟩ u2) v l := by
  obtain ⟨a, cap, rfl, hc, h⟩ := h
  refine ⟨a, cap, rfl, hc, ?_⟩
  rcases h with h | ⟨c, o, rfl, h⟩
  · exact .inl h
  · refine .inr ⟨c, o, rfl, fun i hi => ?_⟩
    obtain ⟨vn, vk, vv, c1, c2, c3, c4, h1, h2, h3⟩ := h i hi
    have hne : c ≠ nb := by
      rintro rfl
      simp [World.cell?, hb] at c4
    have st : ∀ (j : Nat) (z : Value), w.cell? ⟨c, j, none⟩ = some z → ((w.setCell ⟨nb, 0, none⟩ u1).setCell ⟨nb, 1, none⟩ u2).cell? ⟨c, j, none⟩ = some z := fun j z hz => by
      rw [World.cell?_setCell_other _ _ _ _ (fun e => hne (congrArg Addr.block e).symm), World.cell?_setCell_other _ _ _ _ (fun e => hne (congrArg Addr.block e).symm)]
      exact hz
    exact ⟨vn, vk, vv, st _ _ c1, st _ _ c2, st _ _ c3, st _ _ c4, h1.setPair hb hx hy _ _, h2.setPair hb hx hy _ _, h3.setPair hb hx hy _ _⟩
end Go.Proofs.YtkheombfjgjedabDoor
