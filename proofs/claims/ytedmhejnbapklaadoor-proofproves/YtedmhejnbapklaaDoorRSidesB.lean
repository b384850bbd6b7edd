/-
  The walk of the document's answer to P3.6: sides, where the lists are the call's own and hold what the argument holds.
-/
import Derived.Test.YtedmhejnbapklaaDoorPairMem
import Derived.Test.YtedmhejnbapklaaDoorPart2
import Derived.Test.YtedmhejnbapklaaDoorPart6
import Derived.Deep.RegionWith
namespace Go.Proofs.YtedmhejnbapklaaDoor
open Go.RowKit
/-- A block of the call's own turns that holds no bytes: bytes stay. -/
theorem PartIs.keptT {base : Nat} {w w' : World} {v : Value} {bs : List UInt8} (h : PartIs base w v bs) {row : Option Nat} (hg : w.grownBy w' row) (hrow : row = none ∨ ∃ g cur t fz, row = some g ∧ base ≤ g ∧ w.heap[g]? = some (.cells cur t fz) ∧ t ≠ 5) : PartIs base w' v bs := by
  obtain ⟨hs, ho⟩ := h
  rcases ho with rfl | ⟨b, hb, hlt, hc⟩
  · obtain ⟨a, cap, rfl, hc, h⟩ := hs
    refine ⟨⟨a, cap, rfl, hc, ?_⟩, .inl rfl⟩
    rcases h with h | ⟨b, o, rfl, h⟩
    · exact .inl h
    · exact .inr ⟨b, o, rfl, fun i hi => by simp at hi⟩
  · have hne : some b ≠ row := by
      intro e
      rcases hrow with rfl | ⟨g, cur, t, fz, rfl, hbg, hgc, ht⟩
      · cases e
      · cases e
        rcases hc with hc | ⟨cur2, fz2, hc⟩
        · omega
        · rw [hc] at hgc
          simp only [Option.some.injEq, Obj.cells.injEq] at hgc
          exact ht hgc.2.1.symm
    have hblk := hg.block b hlt hne
    refine ⟨?_, .inr ⟨b, hb, Nat.lt_of_lt_of_le hlt hg.size, ?_⟩⟩
    · obtain ⟨a, cap, rfl, hcp, h⟩ := hs
      refine ⟨a, cap, rfl, hcp, ?_⟩
      rcases h with h | ⟨b', o, rfl, h⟩
      · exact .inl h
      · refine .inr ⟨b', o, rfl, fun i hi => ?_⟩
        simp [Value.ownBlock] at hb
        subst hb
        exact hg.cell (h i hi) (by simpa using hne)
    · rcases hc with hc | ⟨cur, fz, hc⟩
      · exact .inl hc
      · exact .inr ⟨cur, fz, by rw [hblk]; exact hc⟩
def PartAt (base : Nat) (w : World) (b o : Nat) (p : Pr) : Prop := ∃ vk vv, w.cell? ⟨b, o, none⟩ = some vk ∧ w.cell? ⟨b, o + 1, none⟩ = some vv ∧ PartIs base w vk p.1 ∧ PartIs base w vv p.2
/-- A list of pairs that stands where blocks of the call's own, of no pairs and no bytes, turn. -/
def PairsB (base : Nat) (w : World) (v : Value) (l : PL) : Prop :=
  ∃ a cap, v = .slice a l.length cap ∧ l.length ≤ cap ∧ ((l = [] ∧ (a = none → cap = 0)) ∨ ∃ b o, a = some ⟨b, o, none⟩ ∧ (b < base ∨ ∃ cur fz, w.heap[b]? = some (.cells cur 27 fz)) ∧ ∀ i, i < l.length → PartAt base w b (o + i * 2) (l.getD i ([], [])))
theorem PairsB.list {base : Nat} {w : World} {v : Value} {l : PL} (h : PairsB base w v l) : PairsIs w v l := by
  obtain ⟨a, cap, rfl, hc, h⟩ := h
  refine ⟨a, cap, rfl, hc, ?_⟩
  rcases h with h | ⟨b, o, rfl, _, h⟩
  · exact .inl h
  · refine .inr ⟨b, o, rfl, fun i hi => ?_⟩
    obtain ⟨vk, vv, c1, c2, h1, h2⟩ := h i hi
    exact ⟨vk, vv, c1, c2, h1.1, h2.1⟩
theorem PairsIs.pairsB {w w' : World} {v : Value} {l : PL} (h : PairsIs w v l) (hg : w.grownBy w' none) (base : Nat) (hb : w.heap.size ≤ base) : PairsB base w' v l := by
  obtain ⟨a, cap, rfl, hc, h⟩ := h
  refine ⟨a, cap, rfl, hc, ?_⟩
  rcases h with h | ⟨b, o, rfl, h⟩
  · exact .inl h
  · by_cases h0 : l = []
    · exact .inl ⟨h0, fun e => by cases e⟩
    · have hl : 0 < l.length := List.length_pos_iff.2 h0
      refine .inr ⟨b, o, rfl, .inl ?_, fun i hi => ?_⟩
      · obtain ⟨vk, vv, c1, _⟩ := h 0 hl
        exact Nat.lt_of_lt_of_le (cell_lt c1) hb
      · obtain ⟨vk, vv, c1, c2, h1, h2⟩ := h i hi
        exact ⟨vk, vv, hg.cell c1 (by simp), hg.cell c2 (by simp), h1.part hg base hb, h2.part hg base hb⟩
theorem OwnP.pairsB {base : Nat} {w : World} {v : Value} {l : PL} (h : OwnP base w v l) : PairsB base w v l := by
  obtain ⟨vs, hl, hr, h3⟩ := h
  have hr' := hr
  rcases hr.2 with ⟨rfl, h0⟩ | ⟨g, cap, cur, rfl, hb, hg, hn, hm, hs, ht⟩
  · have : l = [] := List.eq_nil_of_length_eq_zero h0
    subst this
    exact ⟨none, 0, rfl, Nat.le_refl _, .inl ⟨rfl, fun _ => rfl⟩⟩
  · refine ⟨_, cap, rfl, hn, .inr ⟨g, 0, rfl, .inr ⟨cur, _, hg⟩, fun i hi => ?_⟩⟩
    have hf := flat_get vs i (by omega)
    refine ⟨(vs.getD i (undef, undef)).1, (vs.getD i (undef, undef)).2, ?_, ?_, (h3 i hi).1, (h3 i hi).2⟩
    · have := OwnP.cells hr' _ _ hf.1
      rw [Nat.zero_add]; exact this
    · have := OwnP.cells hr' _ _ hf.2
      rw [Nat.zero_add]; exact this
theorem PairsB.kept {base : Nat} {w w' : World} {v : Value} {l : PL} (h : PairsB base w v l) {row : Option Nat} (hg : w.grownBy w' row) (hrow : row = none ∨ ∃ g cur t fz, row = some g ∧ base ≤ g ∧ w.heap[g]? = some (.cells cur t fz) ∧ t ≠ 5 ∧ t ≠ 27) : PairsB base w' v l := by
  obtain ⟨a, cap, rfl, hc, h⟩ := h
  refine ⟨a, cap, rfl, hc, ?_⟩
  rcases h with h | ⟨b, o, rfl, hb, h⟩
  · exact .inl h
  · by_cases h0 : l = []
    · exact .inl ⟨h0, fun e => by cases e⟩
    · have hl : 0 < l.length := List.length_pos_iff.2 h0
      have hlt : b < w.heap.size := by
        obtain ⟨vk, vv, c1, _⟩ := h 0 hl
        exact cell_lt c1
      have hne : some b ≠ row := by
        intro e
        rcases hrow with rfl | ⟨g, cur, t, fz, rfl, hbg, hgc, ht, ht2⟩
        · cases e
        · cases e
          rcases hb with hb | ⟨cur2, fz2, hb⟩
          · omega
          · rw [hb] at hgc
            simp only [Option.some.injEq, Obj.cells.injEq] at hgc
            exact ht2 hgc.2.1.symm
      have hrow' : row = none ∨ ∃ g cur t fz, row = some g ∧ base ≤ g ∧ w.heap[g]? = some (.cells cur t fz) ∧ t ≠ 5 := by
        rcases hrow with h | ⟨g, cur, t, fz, h1, h2, h3, h4, _⟩
        · exact .inl h
        · exact .inr ⟨g, cur, t, fz, h1, h2, h3, h4⟩
      refine .inr ⟨b, o, rfl, ?_, fun i hi => ?_⟩
      · rcases hb with hb | ⟨cur, fz, hb⟩
        · exact .inl hb
        · exact .inr ⟨cur, fz, by rw [hg.block b hlt hne]; exact hb⟩
      · obtain ⟨vk, vv, c1, c2, h1, h2⟩ := h i hi
        exact ⟨vk, vv, hg.cell c1 (by simpa using hne), hg.cell c2 (by simpa using hne), h1.keptT hg hrow', h2.keptT hg hrow'⟩
theorem PairsB.grown {base : Nat} {w w' : World} {v : Value} {l : PL} (h : PairsB base w v l) (hg : w.grownBy w' none) : PairsB base w' v l := h.kept hg (.inl rfl)
theorem PairsB.at {base : Nat} {w : World} {a : Option Addr} {n cap : Nat} {l : PL} (h : PairsB base w (.slice a n cap) l) (i : Nat) (hi : i < l.length) : ∃ b o, a = some ⟨b, o, none⟩ ∧ PartAt base w b (o + i * 2) (l.getD i ([], [])) := by
  obtain ⟨a', cap', e, hc, h⟩ := h
  simp only [Value.slice.injEq] at e
  obtain ⟨rfl, rfl, rfl⟩ := e
  rcases h with ⟨rfl, _⟩ | ⟨b, o, rfl, _, h⟩
  · simp at hi
  · exact ⟨b, o, rfl, h i hi⟩
theorem grown_rowP {w W w1 : World} {v : Value} (h : w.grownBy W none) (ho : ∀ k, v.ownBlock = some k → w.heap.size ≤ k) (hg : W.grownBy w1 v.ownBlock) : w.grownBy w1 none :=
  ⟨hg.os.trans h.os, hg.tape.trans h.tape, hg.output.trans h.output, Nat.le_trans h.size hg.size, fun i hi hn => (hg.block i (Nat.lt_of_lt_of_le hi h.size) (fun e => by have := ho i e.symm; omega)).trans (h.block i hi hn)⟩
set_option maxRecDepth 100000 in
set_option maxHeartbeats 1000000 in
theorem sides_base (B0 : Nat) (w : World) (v : Value) (l : PL) (hB0 : B0 ≤ w.heap.size) (hv0 : PairsB B0 w v l) (hT : Tree l) (h2 : 2 ≤ l.length) :
    Calls Tryd.prog 33 #[v] w fun e w' => ∃ x y, e = .returned (.tuple #[.int .i64 (forkBit l), x, y]) ∧ OwnP B0 w' x (sideL l (forkBit l).toNat false) ∧ OwnP B0 w' y (sideL l (forkBit l).toNat true) ∧ w.grownBy w' none := by
  have hv := hv0.list
  obtain ⟨a, cap, rfl⟩ := hv.shape
  have HV0 : Hid (PairsB B0 w (.slice a l.length cap) l) := hv0
  clear hv0
  have hroom := hT.room
  have HT : Hid (Tree l) := hT
  have hrange := forkBit_range hT h2
  obtain ⟨B, hB⟩ : ∃ B : Nat, forkBit l = (B : Int) := ⟨(forkBit l).toNat, by omega⟩
  rw [hB, show ((B : Int)).toNat = B from rfl]
  have hB144 : B < 145 := by omega
  have HB : Hid (minTo l l.length = (B : Int)) := hB
  clear hrange hB
  go_enter Tryd.func33, Tryd.ntmps33
  go_wp2_with fail
  obtain ⟨b0, o0, rfl, hat0⟩ := hv.at 0 (by omega)
  have hk0 := (hT.pairs l[0] (List.getElem_mem (by omega))).1
  rw [show l[0] = l.getD 0 ([], []) by simp [show 0 < l.length by omega]] at hk0
  have PO : Hid (∀ w' vi ki, w.grownBy w' none → SliceIs w' vi ki → ki.length ≤ 16 → ∀ v0, SliceIs w' v0 (l.getD 0 ([], [])).1 → Calls Tryd.prog 59 #[v0, vi] w' fun e w'' => e = .returned (.int .i64 (partK (l.getD 0 ([], [])).1 ki)) ∧ w'.grownBy w'' none) := fun w' vi ki _ h1 h2 v0 h0 => partOf_any w' v0 vi _ ki h0 h1 hk0.2 h2
  clear hT
  go_loopw [5, 6] (fun bv i wr => ∃ m : Nat, 1 ≤ m ∧ m ≤ l.length ∧ i = .int .i64 (m : Int) ∧ bv = .int .i64 (minTo l m) ∧ w.grownBy wr none) (fun _ i _ => l.length - (intOf i).toNat)
  case atStart => exact ⟨1, by omega, by omega, rfl, rfl, grown_refl _ _⟩
  case round =>
    obtain ⟨m, hm1, hm, rfl, rfl, hg⟩ := hrel
    by_cases hlt : m < l.length
    · obtain ⟨vk0, vv0, c1, _, s1, _⟩ := hat0.grown hg
      obtain ⟨b, o, e, hat⟩ := hv.at m hlt
      simp only [Option.some.injEq, Addr.mk.injEq] at e
      obtain ⟨rfl, rfl, _⟩ := e
      obtain ⟨vk, vv, d1, _, r1, _⟩ := hat.grown hg
      have hkm := (HT.out.pairs l[m] (List.getElem_mem hlt)).1
      rw [show l[m] = l.getD m ([], []) by simp [hlt]] at hkm
      rw [Nat.zero_mul, Nat.add_zero] at c1
      obtain ⟨ak0, ck0, rfl⟩ := s1.shape
      obtain ⟨ak, ck, rfl⟩ := r1.shape
      have HP : Hid (Calls Tryd.prog 59 #[.slice ak0 (l.getD 0 ([], [])).1.length ck0, .slice ak (l.getD m ([], [])).1.length ck] wr.drew fun e w'' => e = .returned (.int .i64 (partK (l.getD 0 ([], [])).1 (l.getD m ([], [])).1)) ∧ wr.drew.grownBy w'' none) := PO.out wr.drew _ _ (grown_drew hg) r1.drew hkm.2 _ s1.drew
      have HM : Hid (minTo l (m + 1) = if partK (l.getD 0 ([], [])).1 (l.getD m ([], [])).1 < minTo l m then partK (l.getD 0 ([], [])).1 (l.getD m ([], [])).1 else minTo l m) := by
        show _ = _
        obtain ⟨k, rfl⟩ : ∃ k, m = k + 1 := ⟨m - 1, by omega⟩
        rw [minTo]
      generalize (l.getD 0 ([], [])).1.length = n1 at *
      generalize (l.getD m ([], [])).1.length = n2 at *
      generalize partK (l.getD 0 ([], [])).1 (l.getD m ([], [])).1 = N at *
      generalize minTo l m = M at *
      have i1 : (m : Int) < (l.length : Int) := by omega
      clear s1 r1 hat hkm
      go_upto_region 5 with fail
      go_cut [7] (fun s7 wx => s7 = .int .i64 N ∧ w.grownBy wx none)
      case first =>
        go_region_with (go_at_call 59; refine HP.out.mono ?_; rintro e w1 ⟨rfl, hg1⟩)
        all_goals (go_wp2_with fail; go_meet; case rel => exact ⟨rfl, grown_trans (grown_drew hg) hg1⟩)
      case rest =>
        obtain ⟨rfl, hgc⟩ := hcut
        clear hg c1 d1 HP
        by_cases hlt2 : N < M
        · have HM2 : Hid (minTo l (m + 1) = N) := by show _ = _; rw [HM.out, if_pos hlt2]
          clear HM
          go_wp2_with fail
          go_roundw
          case rel =>
            first
              | exact ⟨m + 1, by omega, by omega, by go_num, by rw [HM2.out], hgc⟩
              | ((repeat apply Exists.intro); refine ⟨⟨m + 1, by omega, by omega, ?_, by rw [HM2.out], hgc⟩, rfl⟩; go_num)
          case measure => simp [intOf]; omega
        · have HM2 : Hid (minTo l (m + 1) = M) := by show _ = _; rw [HM.out, if_neg hlt2]
          clear HM
          go_wp2_with fail
          go_roundw
          case rel =>
            first
              | exact ⟨m + 1, by omega, by omega, by go_num, by rw [HM2.out], hgc⟩
              | ((repeat apply Exists.intro); refine ⟨⟨m + 1, by omega, by omega, ?_, by rw [HM2.out], hgc⟩, rfl⟩; go_num)
          case measure => simp [intOf]; omega
    · obtain rfl : m = l.length := by omega
      rw [HB.out]
      have HG0 : Hid (w.grownBy wr none) := hg
      clear hlt PO hat0 hk0
      go_wp2_with fail
      clear hg
      go_loopw [8, 9, 10] (fun lv rv i wr => ∃ m : Nat, m ≤ l.length ∧ i = .int .i64 (m : Int) ∧ OwnP B0 wr lv (sideL (l.take m) B false) ∧ OwnP B0 wr rv (sideL (l.take m) B true) ∧ (∀ k, lv.ownBlock = some k → rv.ownBlock ≠ some k) ∧ (∀ k, lv.ownBlock = some k → w.heap.size ≤ k) ∧ (∀ k, rv.ownBlock = some k → w.heap.size ≤ k) ∧ w.grownBy wr none) (fun _ _ i _ => l.length - (intOf i).toNat)
      case atStart => exact ⟨0, by omega, rfl, ownP_nil _ _, ownP_nil _ _, (fun k h => by cases h), (fun k h => by cases h), (fun k h => by cases h), HG0.out⟩
      case round =>
        obtain ⟨m, hm', rfl, hl, hr, hap, hbl, hbr, hg⟩ := hrel
        by_cases hlt : m < l.length
        · obtain ⟨b, o, e, hat⟩ := HV0.out.at m hlt
          simp only [Option.some.injEq, Addr.mk.injEq] at e
          obtain ⟨rfl, rfl, _⟩ := e
          obtain ⟨vk, vv, c1, c2, t1, t2⟩ := hat
          have s1 := t1.1
          have s2 := t2.1
          have hpm := HT.out.pairs l[m] (List.getElem_mem hlt)
          rw [show l[m] = l.getD m ([], []) by simp [hlt]] at hpm
          have hsf := side_take l B false m hlt
          have hst := side_take l B true m hlt
          have hlen1 := Nat.le_trans (side_len (l.take m) B false) (List.length_take_le m l)
          have hlen2 := Nat.le_trans (side_len (l.take m) B true) (List.length_take_le m l)
          generalize l.getD m ([], []) = P at *
          generalize sideL (l.take m) B false = L at *
          generalize sideL (l.take m) B true = R at *
          have e1 := hg.cell c1 (by simp)
          have e2 := hg.cell c2 (by simp)
          have AB : Hid (Calls Tryd.prog 32 #[vk] wr fun e w' => ∃ v', e = .returned v' ∧ OwnB wr.heap.size w' v' (bitsN P.1 145) ∧ wr.grownBy w' none) := allBits_any wr vk P.1 (s1.grown hg) hpm.1.2
          have SK : Hid (PartIs B0 w vk P.1) := t1
          have SV : Hid (PartIs B0 w vv P.2) := t2
          obtain ⟨ak, ck, rfl⟩ := s1.shape
          obtain ⟨av, cv, rfl⟩ := s2.shape
          have i1 : (m : Int) < (l.length : Int) := by omega
          clear s1 s2 t1 t2 c1 c2 hpm
          go_wp2_with fail
          refine AB.out.mono ?_
          rintro e w1 ⟨v1, rfl, ho1, hg1⟩
          obtain ⟨g, bcap, rfl, hcell⟩ := ho1.block (by intro e; have := bitsN_len P.1 145; rw [e] at this; simp at this)
          rw [bitsN_len] at hcell ⊢
          have c0 := hcell B hB144
          rw [bitsN_get _ _ _ hB144] at c0
          have hg1w := grown_trans hg hg1
          have e3 := hg1.cell e1 (by simp)
          have e4 := hg1.cell e2 (by simp)
          have HK1 : Hid (PartIs B0 w1 (.slice ak P.1.length ck) P.1) := SK.out.kept hg1w (.inl rfl)
          have HV1 : Hid (PartIs B0 w1 (.slice av P.2.length cv) P.2) := SV.out.kept hg1w (.inl rfl)
          have hl1 := hl.grownNone hg1
          have hr1 := hr.grownNone hg1
          have hsz1 := hg1w.size
          have hszB := Nat.le_trans hB0 hsz1
          have hll := hl1.lt
          have hrl := hr1.lt
          obtain ⟨la, lc, rfl⟩ := hl1.shape
          obtain ⟨ra, rc, rfl⟩ := hr1.shape
          have HAP : Hid (∀ k, (Value.slice la L.length lc).ownBlock = some k → (Value.slice ra R.length rc).ownBlock ≠ some k) := hap
          have HLL : Hid (∀ k, (Value.slice la L.length lc).ownBlock = some k → w.heap.size ≤ k ∧ k < w1.heap.size) := fun k h => ⟨hbl k h, (hll k h).2⟩
          have HRL : Hid (∀ k, (Value.slice ra R.length rc).ownBlock = some k → w.heap.size ≤ k ∧ k < w1.heap.size) := fun k h => ⟨hbr k h, (hrl k h).2⟩
          have i2 : (B : Int) < 145 := by omega
          clear ho1 hcell hl hr e1 e2 AB SK SV hap hll hrl hg1 hg hbl hbr
          cases hb : kbit P.1 B with
          | true =>
            rw [hb] at c0 hsf hst
            rw [if_neg (by simp)] at hsf
            rw [if_pos rfl] at hst
            have HSF : Hid (sideL (l.take (m + 1)) B false = L) := hsf
            have HST : Hid (sideL (l.take (m + 1)) B true = R ++ [P]) := hst
            clear hsf hst
            go_wp2_with (at_builtin; refine wpList_append_pair_at (w0 := w1) rfl _ _ rfl B0 _ R rfl hr1 _ _ P HK1.out HV1.out rfl w1.heap.size rfl rfl (by omega) hszB ?_; intro v2 w2 ho2 hg2 hb2)
            have hgw2 := grown_rowP (grown_alloc hg1w _) (fun k h => (HRL.out k h).1) hg2
            have HB2 : Hid (∀ k, v2.ownBlock = some k → w.heap.size ≤ k) := fun k h2 => by
              rcases hb2 with hb2 | hb2
              · rw [hb2] at h2; exact (HRL.out k h2).1
              · rw [hb2] at h2
                simp at h2
                omega
            have HB1 : Hid (∀ k, (Value.slice la L.length lc).ownBlock = some k → w.heap.size ≤ k) := fun k h => (HLL.out k h).1
            have hoth := OwnP.other (hl1.alloc (.cells #[.slice ak P.1.length ck, .slice av P.2.length cv] 27)) (hr1.alloc _) hg2 HAP.out
            have HAP2 : Hid (∀ k, (Value.slice la L.length lc).ownBlock = some k → v2.ownBlock ≠ some k) := fun k h1 h2 => by
              rcases hb2 with hb2 | hb2
              · rw [hb2] at h2; exact HAP.out k h1 h2
              · rw [hb2] at h2
                have := (HLL.out k h1).2
                simp at h2
                omega
            clear hb2
            go_roundw
            case rel =>
              first
                | exact ⟨m + 1, by omega, by go_num, by rw [HSF.out]; exact hoth, by rw [HST.out]; exact ho2, HAP2.out, HB1.out, HB2.out, hgw2⟩
                | ((repeat apply Exists.intro); refine ⟨⟨m + 1, by omega, ?_, by rw [HSF.out]; exact hoth, by rw [HST.out]; exact ho2, HAP2.out, HB1.out, HB2.out, hgw2⟩, rfl⟩; go_num)
            case measure => simp [intOf]; omega
          | false =>
            rw [hb] at c0 hsf hst
            rw [if_pos rfl] at hsf
            rw [if_neg (by simp)] at hst
            have HSF : Hid (sideL (l.take (m + 1)) B false = L ++ [P]) := hsf
            have HST : Hid (sideL (l.take (m + 1)) B true = R) := hst
            clear hsf hst
            go_wp2_with (at_builtin; refine wpList_append_pair_at (w0 := w1) rfl _ _ rfl B0 _ L rfl hl1 _ _ P HK1.out HV1.out rfl w1.heap.size rfl rfl (by omega) hszB ?_; intro v2 w2 ho2 hg2 hb2)
            have hgw2 := grown_rowP (grown_alloc hg1w _) (fun k h => (HLL.out k h).1) hg2
            have HB1 : Hid (∀ k, v2.ownBlock = some k → w.heap.size ≤ k) := fun k h2 => by
              rcases hb2 with hb2 | hb2
              · rw [hb2] at h2; exact (HLL.out k h2).1
              · rw [hb2] at h2
                simp at h2
                omega
            have HB2 : Hid (∀ k, (Value.slice ra R.length rc).ownBlock = some k → w.heap.size ≤ k) := fun k h => (HRL.out k h).1
            have hoth := OwnP.other (hr1.alloc (.cells #[.slice ak P.1.length ck, .slice av P.2.length cv] 27)) (hl1.alloc _) hg2 (fun k h1 h2 => HAP.out k h2 h1)
            have HAP2 : Hid (∀ k, v2.ownBlock = some k → (Value.slice ra R.length rc).ownBlock ≠ some k) := fun k h2 h1 => by
              rcases hb2 with hb2 | hb2
              · rw [hb2] at h2; exact HAP.out k h2 h1
              · rw [hb2] at h2
                have := (HRL.out k h1).2
                simp at h2
                omega
            clear hb2
            go_roundw
            case rel =>
              first
                | exact ⟨m + 1, by omega, by go_num, by rw [HSF.out]; exact ho2, by rw [HST.out]; exact hoth, HAP2.out, HB1.out, HB2.out, hgw2⟩
                | ((repeat apply Exists.intro); refine ⟨⟨m + 1, by omega, ?_, by rw [HSF.out]; exact ho2, by rw [HST.out]; exact hoth, HAP2.out, HB1.out, HB2.out, hgw2⟩, rfl⟩; go_num)
            case measure => simp [intOf]; omega
        · obtain rfl : m = l.length := by omega
          rw [List.take_length] at hl hr
          obtain ⟨la, lc, rfl⟩ := hl.shape
          obtain ⟨ra, rc, rfl⟩ := hr.shape
          clear hap hbl hbr
          go_wp2
          go_ret3
          exact ⟨_, _, rfl, hl, hr, hg⟩
end Go.Proofs.YtedmhejnbapklaaDoor
