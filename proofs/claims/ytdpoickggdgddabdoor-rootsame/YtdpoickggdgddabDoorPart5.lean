/-
  Texts of this proof, joined: TSearchP, CloneP, PairStep, TJoinP, PairSlice, TCPut, TPutP, TCDelete, TDelP, Sides, ForkF, BitC, Group.
-/
import Derived.Test.YtdpoickggdgddabDoorPart4
import Derived.Handy
import Derived.Test.YtdpoickggdgddabDoorPart1
import Derived.Lib.SliceRun
import Derived.Test.YtdpoickggdgddabDoorPart3
import Derived.Deep.AppendLies
import Derived.Deep.RegionWith
import Derived.Test.YtdpoickggdgddabDoorPart2
/-
  tree.compareKey, slices.BinarySearchFunc at pairs, tree.place, tree.checkWith, as they landed.
-/
namespace Go.Proofs.YtdpoickggdgddabDoor
open Go.RowKit
set_option maxRecDepth 100000 in
set_option maxHeartbeats 1000000 in
theorem checkWith_any (w : World) (v u : Value) (l : PL) (k : List UInt8) (hv : PairsIs w v l) (hu : SliceIs w u k) (hl : Fits l) :
    Calls Tryd.prog 18 #[v, u] w fun e w' => e = .returned (.int .i64 (getE l k)) ∧ w.grownBy w' none := by
  have CL : Hid (Calls Tryd.prog 14 #[v] w fun e w' => e = .returned (.int .i64 (pairsFaultF l)) ∧ w.grownBy w' none) := tcheck_ok w v l hv hl
  have CK : Hid CheckOK := check_ok
  obtain ⟨a, cap, rfl⟩ := hv.shape
  obtain ⟨ka, kcap, rfl⟩ := hu.shape
  have HE : Hid (getE l k = if pairsFaultF l = 0 then keyFaultF k.length else pairsFaultF l) := by show _ = _; rw [getE]
  clear hv hu
  generalize getE l k = E at *
  generalize pairsFaultF l = z at *
  go_enter Tryd.func18, Tryd.ntmps18
  go_wp2_with fail
  refine CL.out.mono ?_
  rintro e w1 ⟨rfl, hg1⟩
  by_cases hz : z = 0
  · have HE2 : Hid (E = keyFaultF k.length) := by show _ = _; rw [HE.out, if_pos hz]
    subst hz
    clear HE
    go_wp2_with fail
    refine (CK.out _ _ _ _).mono ?_
    rintro e w2 ⟨rfl, hg2⟩
    go_wp2
    go_ret
    exact ⟨by rw [HE2.out]; rfl, grown_trans hg1 hg2⟩
  · have HE2 : Hid (E = z) := by show _ = _; rw [HE.out, if_neg hz]
    have hz' : (z != 0) = true := by simpa using hz
    clear HE
    go_wp2
    go_ret
    exact ⟨by rw [HE2.out]; rfl, hg1⟩
set_option maxRecDepth 100000 in
set_option maxHeartbeats 1000000 in
theorem compareKey_any (w : World) (vk vv u : Value) (q k : List UInt8) (hq : SliceIs w vk q) (hu : SliceIs w u k) :
    Calls Tryd.prog 23 #[.agg #[vk, vv], u] w fun e w' => e = .returned (.int .i64 (cmpF q k)) ∧ w.grownBy w' none := by
  have CM : Hid (∀ w', w.grownBy w' none → Calls Tryd.prog 20 #[vk, u] w' fun e w'' => e = .returned (.int .i64 (cmpF q k)) ∧ w'' = w') := fun w' hg => compare_any w' vk u q k (hq.grown hg) (hu.grown hg)
  obtain ⟨qa, qcap, rfl⟩ := hq.shape
  obtain ⟨ka, kcap, rfl⟩ := hu.shape
  clear hq hu
  generalize cmpF q k = z at *
  go_enter Tryd.func23, Tryd.ntmps23
  go_wp2_with fail
  refine (CM.out _ (World.grownBy_alloc _ _ _)).mono ?_
  rintro e w1 ⟨rfl, rfl⟩
  go_wp2
  go_ret
  exact ⟨rfl, World.grownBy_alloc _ _ _⟩
set_option maxRecDepth 100000 in
set_option maxHeartbeats 1000000 in
theorem bsearch_any (w : World) (v u : Value) (l : PL) (k : List UInt8) (hv : PairsIs w v l) (hu : SliceIs w u k) (hr : Rises l) (hl : l.length ≤ 60) :
    Calls Tryd.prog 22 #[v, u, .func (.func 23) #[] #[]] w fun e w' => e = .returned (.tuple #[.int .i64 (posF l k : Int), .bool (hasF l k)]) ∧ w.grownBy w' none := by
  obtain ⟨a, cap, rfl⟩ := hv.shape
  have hpl := pos_le l k
  have HK : Hid (∀ j, j < l.length → klt (l.getD j ([], [])).1 k = decide (j < posF l k)) := klt_pos l k hr
  have HH : Hid (hasF l k = decide (posF l k < l.length ∧ (l.getD (posF l k) ([], [])).1 = k)) := rfl
  generalize posF l k = n at *
  generalize hasF l k = B at *
  go_enter Tryd.func22, Tryd.ntmps22
  go_wp2_with fail
  go_loopw [9, 10] (fun si sj wr => ∃ i j : Nat, i ≤ n ∧ n ≤ j ∧ j ≤ l.length ∧ si = .int .i64 (i : Int) ∧ sj = .int .i64 (j : Int) ∧ w.grownBy wr none) (fun si sj _ => (intOf sj).toNat - (intOf si).toNat)
  case atStart => exact ⟨0, l.length, by omega, hpl, by omega, rfl, rfl, grown_refl _ _⟩
  case round =>
    obtain ⟨i, j, hi, hj, hjl, rfl, rfl, hgr⟩ := hrel
    by_cases hlt : i < j
    · have t1 : (i : Int) < (j : Int) := by omega
      obtain ⟨h, hh⟩ : ∃ h : Nat, ((i : Int) + (j : Int)) / 2 = (h : Int) := ⟨(i + j) / 2, by omega⟩
      have b1 : i ≤ h := by omega
      have b2 : h < j := by omega
      have t2 : (h : Int) < (l.length : Int) := by omega
      obtain ⟨b, o, rfl, hat⟩ := hv.at h (by omega)
      obtain ⟨vk, vv, c1, c2, s1, s2⟩ := hat.grown hgr
      have hk1 := HK.out h (by omega)
      rw [← cmpF_neg] at hk1
      have CK : Hid (Calls Tryd.prog 23 #[.agg #[vk, vv], u] wr fun e w' => e = .returned (.int .i64 (cmpF (l.getD h ([], [])).1 k)) ∧ wr.grownBy w' none) := compareKey_any wr vk vv u _ k s1 (hu.grown hgr)
      generalize cmpF (l.getD h ([], [])).1 k = z at *
      generalize l.getD h ([], []) = P at *
      obtain ⟨ka, kc, rfl⟩ := s1.shape
      obtain ⟨va, vc, rfl⟩ := s2.shape
      clear s1 s2 hat
      go_wp2_with fail
      refine CK.out.mono ?_
      rintro e w1 ⟨rfl, hg1⟩
      have hgw := grown_trans hgr hg1
      by_cases hz : z < 0
      · have hn : h < n := by rw [decide_eq_true hz] at hk1; simpa using hk1.symm
        clear hk1 CK c1 c2
        go_wp2_with fail
        go_roundw
        case rel =>
          first
            | exact ⟨h + 1, j, by omega, by omega, by omega, by go_num, rfl, hgw⟩
            | ((repeat apply Exists.intro); refine ⟨⟨h + 1, j, by omega, by omega, by omega, ?_, rfl, hgw⟩, rfl⟩; go_num)
        case measure => simp [intOf]; omega
      · have hn : n ≤ h := by rw [decide_eq_false hz] at hk1; have := hk1.symm; simpa using this
        have hz' : 0 ≤ z := by omega
        clear hk1 CK c1 c2 hz
        go_wp2_with fail
        go_roundw
        case rel =>
          first
            | exact ⟨i, h, by omega, by omega, by omega, rfl, rfl, hgw⟩
            | ((repeat apply Exists.intro); refine ⟨⟨i, h, by omega, by omega, by omega, rfl, ?_, hgw⟩, rfl⟩; go_num)
        case measure => simp [intOf]; omega
    · obtain rfl : i = n := by omega
      obtain rfl : j = i := by omega
      by_cases hjn : j < l.length
      · have t2 : (j : Int) < (l.length : Int) := by omega
        obtain ⟨b, o, rfl, hat⟩ := hv.at j hjn
        obtain ⟨vk, vv, c1, c2, s1, s2⟩ := hat.grown hgr
        have CK : Hid (Calls Tryd.prog 23 #[.agg #[vk, vv], u] wr fun e w' => e = .returned (.int .i64 (cmpF (l.getD j ([], [])).1 k)) ∧ wr.grownBy w' none) := compareKey_any wr vk vv u _ k s1 (hu.grown hgr)
        have HB : Hid (B = (cmpF (l.getD j ([], [])).1 k == 0)) := by show _ = _; rw [HH.out, cmpF_zero]; simp [hjn]
        clear HH
        generalize cmpF (l.getD j ([], [])).1 k = z at *
        generalize l.getD j ([], []) = P at *
        obtain ⟨ka, kc, rfl⟩ := s1.shape
        obtain ⟨va, vc, rfl⟩ := s2.shape
        clear s1 s2 hat
        go_wp2_with fail
        refine CK.out.mono ?_
        rintro e w1 ⟨rfl, hg1⟩
        go_wp2
        go_ret2
        exact ⟨by rw [HB.out]; rfl, grown_trans hgr hg1⟩
      · have t2 : ¬ (j : Int) < (l.length : Int) := by omega
        have HB : Hid (B = false) := by show _ = _; rw [HH.out]; simp [hjn]
        clear HH
        go_wp2
        go_ret2
        exact ⟨by rw [HB.out]; rfl, hgr⟩
set_option maxRecDepth 100000 in
set_option maxHeartbeats 1000000 in
theorem place_any (w : World) (v u : Value) (l : PL) (k : List UInt8) (hv : PairsIs w v l) (hu : SliceIs w u k) (hr : Rises l) (hl : l.length ≤ 60) :
    Calls Tryd.prog 16 #[v, u] w fun e w' => e = .returned (.tuple #[.int .i64 (posF l k : Int), .int .i64 (nextF l k : Int)]) ∧ w.grownBy w' none := by
  have BS : Hid (Calls Tryd.prog 22 #[v, u, .func (.func 23) #[] #[]] w fun e w' => e = .returned (.tuple #[.int .i64 (posF l k : Int), .bool (hasF l k)]) ∧ w.grownBy w' none) := bsearch_any w v u l k hv hu hr hl
  have HN : Hid (nextF l k = if hasF l k = true then posF l k + 1 else posF l k) := rfl
  have hp := pos_le l k
  obtain ⟨a, cap, rfl⟩ := hv.shape
  obtain ⟨ka, kcap, rfl⟩ := hu.shape
  generalize posF l k = n at *
  generalize nextF l k = m at *
  generalize hasF l k = B at *
  clear hv hu
  go_enter Tryd.func16, Tryd.ntmps16
  go_wp2_with fail
  refine BS.out.mono ?_
  rintro e w1 ⟨rfl, hg1⟩
  cases B with
  | true =>
    have HM : Hid (m = n + 1) := by show _ = _; rw [HN.out, if_pos rfl]
    clear HN
    go_wp2
    go_ret2
    exact ⟨by rw [HM.out]; go_num, hg1⟩
  | false =>
    have HM : Hid (m = n) := by show _ = _; rw [HN.out, if_neg (by simp)]
    clear HN
    go_wp2
    go_ret2
    exact ⟨by rw [HM.out]; rfl, hg1⟩
end Go.Proofs.YtdpoickggdgddabDoor

/-
  The walk of bytes.Clone.
-/
namespace Go.Proofs.YtdpoickggdgddabDoor
open Go.RowKit
set_option maxRecDepth 100000 in
set_option maxHeartbeats 1000000 in
theorem clone_any (w : World) (v : Value) (bs : List UInt8) (hv : SliceIs w v bs) (hl : bs.length ≤ 140737488355328) :
    Calls Tryd.prog 24 #[v] w fun e w' => ∃ v', e = .returned v' ∧ Own w.heap.size w' v' bs ∧ w.grownBy w' none := by
  obtain ⟨a, cap, rfl⟩ : ∃ x c, v = .slice x bs.length c := by obtain ⟨x, c, e, _⟩ := hv; exact ⟨x, c, e⟩
  cases a with
  | none =>
    have hb : bs = [] := by
      obtain ⟨a', c', e, hc, h⟩ := hv
      simp only [Value.slice.injEq, true_and] at e
      obtain ⟨rfl, rfl⟩ := e
      rcases h with h | ⟨b, o, e, _⟩
      · exact h.1
      · cases e
    subst hb
    have kn := fun (w : World) => Lib.run_eql_slice_nil (P := Tryd.prog) w 24 5 none 0 cap 0 0 Tryd.underlying24
    go_enter Tryd.func24, Tryd.ntmps24
    go_wp2
    go_ret
    exact ⟨_, rfl, own_nil _ _, grown_refl _ _⟩
  | some ad =>
    have HV : Hid (SliceIs w (.slice (some ad) bs.length cap) bs) := hv
    clear hv
    have kn := fun (w : World) => Lib.run_eql_slice_nil (P := Tryd.prog) w 24 5 (some ad) bs.length cap 0 0 Tryd.underlying24
    go_enter Tryd.func24, Tryd.ntmps24
    have hown : Own w.heap.size (w.alloc (.cells #[] 5)) (.slice (some ⟨w.heap.size, 0, none⟩) 0 0) [] := own_new w.heap.size w [] (Nat.le_refl _) (by unfold maxLen; simp)
    go_wp2_with (at_builtin; refine wpList_append_bytes rfl (.tmp 5) (.tmp 6) rfl w.heap.size (.slice (some ⟨w.heap.size, 0, none⟩) 0 0) [] rfl hown (some ad) bs.length cap bs rfl (HV.out.alloc _) (by simp; omega) (by simp) ?_; intro v1 w1 ho1 hg1)
    rw [List.nil_append] at ho1
    go_ret
    exact ⟨_, rfl, ho1, grown_own (World.grownBy_alloc _ _ _) hown hg1⟩
end Go.Proofs.YtdpoickggdgddabDoor

/-
  append of one pair, at a step of a region that draws its order.
-/
namespace Go.Proofs.YtdpoickggdgddabDoor
open Go.RowKit
theorem wp_append_pair {w : World} {o : Oper} {a : Act} {K : Act → World → Prop} {Q : Exit → Act → World → Prop} (s x : Operand)
    (ho : o.op = .call { callee := .builtin .append, args := #[s, x], argTypes := #[25, 25] }) (base : Nat) (v : Value) (l : PL) (hs : a.eval s = v) (hown : OwnP base w v l)
    (vk vv : Value) (p : Pr) (hk : PartIs base w vk p.1) (hv : PartIs base w vv p.2) (nb : Nat) (hb : w.heap[nb]? = some (.cells #[vk, vv] 28))
    (hx : a.eval x = .slice (some ⟨nb, 0, none⟩) 1 1) (hl : (l.length + 1) * 48 ≤ 140737488355328) (hbase : base ≤ w.heap.size)
    (h : ∀ v' w', OwnP base w' v' (l ++ [p]) → w.grownBy w' v.ownBlock → K (a.put o.dst v') w') : o.wp Tryd.prog a w K Q := by
  obtain ⟨i0, hi, hz0, hz1, hz2⟩ := info_parts infoPair
  have hrow := hown.row
  obtain ⟨vs, hvl, hr, hp⟩ := hown
  refine wp_append_lies w s x 25 ho base 28 i0 (.agg #[.slice none 0 0, .slice none 0 0]) 2 48 Tryd.underlying25 hi hz0 hz1 hz2 rfl (by decide) v l.length (flat vs) hs hr ⟨nb, 0, none⟩ 1 1 (flat [(vk, vv)]) hx rfl (World.news_of_block (cs := #[vk, vv]) hb) ?_ (by omega) (by unfold maxLen; omega) hl hbase _ rfl ?_
  · intro u hu
    simp only [flat, List.flatMap_cons, List.flatMap_nil, List.append_nil, List.mem_cons, List.not_mem_nil, or_false] at hu
    rcases hu with rfl | rfl
    · exact part_oneCell hk
    · exact part_oneCell hv
  · intro g cap w' h1 h2 _ _
    refine h _ w' ⟨vs ++ [(vk, vv)], by simp [hvl], ?_, ?_⟩ h2
    · rw [flat_append, List.length_append]; exact h1
    · intro i hi
      rw [getD_append, getD_append, hvl]
      by_cases hil : i < l.length
      · rw [if_pos hil, if_pos hil]
        exact ⟨(hp i hil).1.kept h2 hrow, (hp i hil).2.kept h2 hrow⟩
      · rw [if_neg hil, if_neg hil]
        obtain rfl : i = l.length := by simp at hi; omega
        rw [Nat.sub_self]
        exact ⟨hk.kept h2 hrow, hv.kept h2 hrow⟩
theorem step_append_pair {w : World} {ops : Array Oper} {o : Oper} {a : Act} {K : Act → World → Prop} {Q : Exit → Act → World → Prop} {E : Prop} (hgd : o.guard = none) (s x : Operand)
    (ho : o.op = .call { callee := .builtin .append, args := #[s, x], argTypes := #[25, 25] }) (base : Nat) (v : Value) (l : PL) (hs : a.eval s = v) (hown : OwnP base w v l)
    (vk vv : Value) (p : Pr) (hk : PartIs base w vk p.1) (hv : PartIs base w vv p.2) (nb : Nat) (hb : w.heap[nb]? = some (.cells #[vk, vv] 28))
    (hx : a.eval x = .slice (some ⟨nb, 0, none⟩) 1 1) (hl : (l.length + 1) * 48 ≤ 140737488355328) (hbase : base ≤ w.heap.size)
    (h : ∀ v' w', OwnP base w' v' (l ++ [p]) → w.grownBy w' v.ownBlock → K (a.put o.dst v') w') : if Region.wanted o (yielded ops a.tmps) = true then Oper.wp Tryd.prog o a w K Q else E := by
  have hw : Region.wanted o (yielded ops a.tmps) = true := by simp [Region.wanted, hgd]
  rw [if_pos hw]
  exact wp_append_pair s x ho base v l hs hown vk vv p hk hv nb hb hx hl hbase h
end Go.Proofs.YtdpoickggdgddabDoor

/-
  The walk of tree.joined: pieces of pairs, put together in new memory.
-/
namespace Go.Proofs.YtdpoickggdgddabDoor
open Go.RowKit
/-- Pieces of pairs, as they are handed over. -/
def PiecesIs (w : World) (v : Value) (ls : List PL) : Prop :=
  ∃ b cap, v = .slice (some ⟨b, 0, none⟩) ls.length cap ∧ ∀ i, i < ls.length → ∃ vi, w.cell? ⟨b, i, none⟩ = some vi ∧ PairsIs w vi (ls.getD i [])
theorem flatten_take (ls : List PL) (i : Nat) (h : i < ls.length) : (ls.take (i + 1)).flatten = (ls.take i).flatten ++ ls.getD i [] := by
  rw [List.take_succ_eq_append_getElem h, List.flatten_append]
  simp [h]
theorem flatten_le (ls : List PL) (i : Nat) (h : i < ls.length) : (ls.take i).flatten.length + (ls.getD i []).length ≤ ls.flatten.length := by
  have e : ls.flatten = (ls.take (i + 1)).flatten ++ (ls.drop (i + 1)).flatten := by rw [← List.flatten_append, List.take_append_drop]
  rw [e, flatten_take ls i h]
  simp
theorem flatten_mem (ls : List PL) (i j : Nat) (h : i < ls.length) (hj : j < (ls.getD i []).length) : (ls.getD i []).getD j ([], []) ∈ ls.flatten := by
  rw [List.mem_flatten]
  refine ⟨ls.getD i [], ?_, ?_⟩
  · rw [show ls.getD i [] = ls[i] by simp [h]]; exact List.getElem_mem h
  · generalize ls.getD i [] = m at *
    rw [show m.getD j ([], []) = m[j] by simp [hj]]; exact List.getElem_mem hj
set_option maxRecDepth 100000 in
set_option maxHeartbeats 2000000 in
theorem joined_any (w : World) (v : Value) (ls : List PL) (hv : PiecesIs w v ls) (hn : ls.flatten.length ≤ 1000) (hl : ls.length ≤ 1000) (hls : ∀ q ∈ ls.flatten, q.1.length ≤ 1000000 ∧ q.2.length ≤ 1000000) :
    Calls Tryd.prog 17 #[v] w fun e w' => ∃ v', e = .returned v' ∧ OwnP w.heap.size w' v' ls.flatten ∧ w.grownBy w' none := by
  obtain ⟨b, cap, rfl, hcells⟩ := hv
  go_enter Tryd.func17, Tryd.ntmps17
  go_wp2_with fail
  go_loopw [3, 10] (fun cv i wr => ∃ m : Nat, m ≤ ls.length ∧ i = .int .i64 (m : Int) ∧ OwnP w.heap.size wr cv (ls.take m).flatten ∧ w.grownBy wr none) (fun _ i _ => ls.length - (intOf i).toNat)
  case atStart => exact ⟨0, by omega, rfl, ownP_nil _ _, grown_refl _ _⟩
  case round =>
    obtain ⟨m, hm, rfl, hown, hg⟩ := hrel
    obtain ⟨ca, ccap, rfl⟩ := hown.shape
    by_cases hlt : m < ls.length
    · have t1 : (m : Int) < (ls.length : Int) := by omega
      obtain ⟨vi, ci, hpi⟩ := hcells m hlt
      have HF : Hid ((ls.take (m + 1)).flatten = (ls.take m).flatten ++ ls.getD m []) := flatten_take ls m hlt
      have hle := flatten_le ls m hlt
      have HM : Hid (∀ j, j < (ls.getD m []).length → ((ls.getD m []).getD j ([], [])).1.length ≤ 1000000 ∧ ((ls.getD m []).getD j ([], [])).2.length ≤ 1000000) := fun j hj => hls _ (flatten_mem ls m j hlt hj)
      have ci2 := hg.cell ci (by simp)
      generalize ls.getD m [] = L at *
      obtain ⟨pa, pcap, rfl⟩ := hpi.shape
      have HPI : Hid (PairsIs w (.slice pa L.length pcap) L) := hpi
      have HOWN : Hid (OwnP w.heap.size wr (.slice ca (ls.take m).flatten.length ccap) (ls.take m).flatten) := hown
      generalize (ls.take m).flatten = D at *
      clear ci hpi hcells hls hown
      go_wp2_with fail
      go_loopw [3, 16] (fun cv i wr => ∃ k : Nat, k ≤ L.length ∧ i = .int .i64 (k : Int) ∧ OwnP w.heap.size wr cv (D ++ L.take k) ∧ w.grownBy wr none) (fun _ i _ => L.length - (intOf i).toNat)
      case atStart => exact ⟨0, by omega, rfl, by rw [List.take_zero, List.append_nil]; exact HOWN.out, hg⟩
      case round =>
        clear hg HOWN ci2
        obtain ⟨k, hk, rfl, hown, hg⟩ := hrel
        obtain ⟨oa, ocap, rfl⟩ := hown.shape
        by_cases hkl : k < L.length
        · have t2 : (k : Int) < (L.length : Int) := by omega
          obtain ⟨pb, po, rfl, hat⟩ := HPI.out.at k hkl
          obtain ⟨vk, vv, c1, c2, s1, s2⟩ := hat.grown hg
          obtain ⟨b1, b2⟩ := HM.out k hkl
          have HT : Hid (D ++ L.take (k + 1) = (D ++ L.take k) ++ [L.getD k ([], [])]) := by
            show _ = _
            rw [List.take_succ_eq_append_getElem hkl, List.append_assoc]; simp [hkl]
          have hdl : (D ++ L.take k).length ≤ 1000 := by simp; omega
          generalize L.getD k ([], []) = P at *
          generalize D ++ L.take k = X at *
          have CK : Hid (∀ w', wr.grownBy w' none → Calls Tryd.prog 24 #[vk] w' fun e w'' => ∃ v', e = .returned v' ∧ Own w'.heap.size w'' v' P.1 ∧ w'.grownBy w'' none) := fun w' hg' => clone_any w' vk P.1 (s1.grown hg') (by omega)
          have CV : Hid (∀ w', wr.grownBy w' none → Calls Tryd.prog 24 #[vv] w' fun e w'' => ∃ v', e = .returned v' ∧ Own w'.heap.size w'' v' P.2 ∧ w'.grownBy w'' none) := fun w' hg' => clone_any w' vv P.2 (s2.grown hg') (by omega)
          obtain ⟨ka, kc, rfl⟩ := s1.shape
          obtain ⟨va, vc, rfl⟩ := s2.shape
          obtain ⟨W1, hW1⟩ : ∃ W1 : World, W1 = wr.alloc (.cells #[.slice ka P.1.length kc, .slice va P.2.length vc] 28) := ⟨_, rfl⟩
          have hgW : wr.grownBy W1 none := by rw [hW1]; exact World.grownBy_alloc _ _ _
          have HW1 : Hid (W1 = wr.alloc (.cells #[.slice ka P.1.length kc, .slice va P.2.length vc] 28)) := hW1
          obtain ⟨d1, d2, _, _⟩ := pair_room (grown_refl W1 none) (by rw [hW1]; exact heap_alloc_new wr _ : W1.heap[wr.heap.size]? = some (.cells #[.slice ka P.1.length kc, .slice va P.2.length vc] 28))
          have hsz0 := hg.size
          have HOW : Hid (OwnP w.heap.size wr (.slice oa X.length ocap) X) := hown
          clear hat s1 s2 hW1 hown
          go_wp2_with fail
          rw [← HW1.out]
          have e1 : W1.drew.cell? ⟨wr.heap.size, 0, none⟩ = some (.slice ka P.1.length kc) := d1
          have e2 : W1.drew.cell? ⟨wr.heap.size, 1, none⟩ = some (.slice va P.2.length vc) := d2
          have hgd := grown_drew hgW
          go_region_held3 (fun w' => w'.cell? ⟨wr.heap.size, 0, none⟩ = some (.slice ka P.1.length kc) ∧ w'.cell? ⟨wr.heap.size, 1, none⟩ = some (.slice va P.2.length vc))
            (first | exact ⟨e1, e2⟩ | exact ⟨f1, f2⟩ | exact ⟨f3, f4⟩ | exact ⟨(World.grownBy_alloc _ _ none).cell f3 (by simp), (World.grownBy_alloc _ _ none).cell f4 (by simp)⟩ | exact ⟨f5, f6⟩)
            (first
              | (go_at_call_of 24 (Value.slice ka P.1.length kc); refine (CK.out _ hgd).mono ?_; rintro e w2 ⟨v2, rfl, ho2, hg2⟩; obtain ⟨ka2, kc2, rfl⟩ := ho2.shape; have f1 := hg2.cell e1 (by simp); have f2 := hg2.cell e2 (by simp); have hgd2 := grown_trans hgd hg2)
              | (go_at_call_of 24 (Value.slice va P.2.length vc); refine (CV.out _ hgd2).mono ?_; rintro e w3 ⟨v3, rfl, ho3, hg3⟩; obtain ⟨va2, vc2, rfl⟩ := ho3.shape; have f3 := hg3.cell f1 (by simp); have f4 := hg3.cell f2 (by simp); have hgd3 := grown_trans hgd2 hg3)
              | (refine step_append_pair (by rfl) _ _ (by rfl) w.heap.size (.slice oa X.length ocap) X (by rfl) ((HOW.out.grownNone hgd3).alloc _) (.slice ka2 P.1.length kc2) (.slice va2 P.2.length vc2) P ((ho2.grownNone hg3).alloc _).part (ho3.alloc _).part w3.heap.size (heap_alloc_new w3 _) (by rfl) (by omega) (by have := hgd3.size; simp; omega) ?_
                 intro v4 w4 ho4 hg4
                 have f5 := hg4.cell ((World.grownBy_alloc _ _ none).cell f3 (by simp)) (fun e => absurd (HOW.out.lt _ e.symm).2 (Nat.lt_irrefl _))
                 have f6 := hg4.cell ((World.grownBy_alloc _ _ none).cell f4 (by simp)) (fun e => absurd (HOW.out.lt _ e.symm).2 (Nat.lt_irrefl _))))
          have hgw : w.grownBy w4 none := grown_ownP (grown_alloc (grown_trans hg hgd3) _) ((HOW.out.grownNone hgd3).alloc _) hg4
          have HO4 : Hid (OwnP w.heap.size w4 v4 (X ++ [P])) := ho4
          clear e1 e2 f1 f2 f3 f4 f5 f6 ho2 ho3 ho4 hg4 hgd3 hgd2 hgd hg3 hg2 hgW hg CK CV d1 d2 c1 c2
          go_wp2_with fail
          go_roundw
          case rel =>
            first
              | exact ⟨k + 1, by omega, by go_num, by rw [HT.out]; exact HO4.out, hgw⟩
              | ((repeat apply Exists.intro); refine ⟨⟨k + 1, by omega, ?_, by rw [HT.out]; exact HO4.out, hgw⟩, rfl⟩; go_num)
          case measure => simp [intOf]; omega
        · obtain rfl : k = L.length := by omega
          rw [List.take_length] at hown
          rw [List.take_length]
          go_wp2_with fail
          go_roundw
          case rel => exact ⟨m + 1, by omega, by go_num, by rw [HF.out]; exact hown, hg⟩
          case measure => simp [intOf]; omega
    · obtain rfl : m = ls.length := by omega
      rw [List.take_length] at hown
      rw [List.take_length]
      go_wp2
      go_ret
      exact ⟨_, rfl, hown, hg⟩
end Go.Proofs.YtdpoickggdgddabDoor

/-
  Pieces of a list of pairs: l[:n], l[m:], l[i:j].
-/
namespace Go.Proofs.YtdpoickggdgddabDoor
open Go.RowKit
theorem sizePair (w : World) : (sizeOf (Tryd.prog.elem 25)).run Tryd.prog w = .ok 2 w := by kernel_rfl
theorem PairsIs.sliced {w : World} {a : Option Addr} {cap : Nat} {l : PL} (h : PairsIs w (.slice a l.length cap) l) (i j : Nat) (hij : i ≤ j) (hj : j ≤ l.length) : PairsIs w (Go.sliced a i j cap 2) ((l.take j).drop i) := by
  obtain ⟨a', cap', e, hc, h⟩ := h
  simp only [Value.slice.injEq, true_and] at e
  obtain ⟨rfl, rfl⟩ := e
  have hlen : ((l.take j).drop i).length = j - i := by simp; omega
  refine ⟨if cap = i then a else a.map (·.add (i * 2)), cap - i, by rw [hlen]; rfl, by rw [hlen]; omega, ?_⟩
  by_cases hci : cap = i
  · left
    exact ⟨List.eq_nil_of_length_eq_zero (by rw [hlen]; omega), fun _ => by omega⟩
  · rw [if_neg hci]
    rcases h with ⟨rfl, h⟩ | ⟨b, o, rfl, h⟩
    · left
      refine ⟨by simp, fun e => ?_⟩
      cases a with
      | none => have := h rfl; simp at hj; omega
      | some x => cases e
    · right
      refine ⟨b, o + i * 2, by simp [addr_add], fun k hk => ?_⟩
      rw [hlen] at hk
      have := h (i + k) (by omega)
      have e : ((l.take j).drop i).getD k ([], []) = l.getD (i + k) ([], []) := by simp [show i + k < j by omega]
      rw [e, show o + i * 2 + k * 2 = o + (i + k) * 2 by omega]
      exact this
theorem pslice_h (a : Option Addr) (cap : Nat) (l : PL) (n : Nat) (hn : n ≤ l.length) (hc : l.length ≤ cap) : ∃ a1 c1, (∀ W, (Instr.slice 25 (.slice a l.length cap) none (some (.int .i64 (n : Int))) none).run Tryd.prog W = .ok (.slice a1 n c1) W) ∧ ∀ W, PairsIs W (.slice a l.length cap) l → PairsIs W (.slice a1 n c1) (l.take n) := by
  refine ⟨if cap = 0 then a else a.map (·.add (0 * 2)), cap - 0, fun W => ?_, fun W h => ?_⟩
  · rw [run_slice_h _ _ _ _ _ (by kernel_rfl) _ _ (by omega) (by omega), sizePair]
    simp only [Result.andThen, Go.sliced, Int.toNat_natCast, Nat.sub_zero]
  · have := h.sliced 0 n (by omega) hn
    simpa only [Go.sliced, List.drop_zero, Nat.sub_zero] using this
theorem pslice_l (a : Option Addr) (cap : Nat) (l : PL) (n : Nat) (hn : n ≤ l.length) : ∃ a1 c1, (∀ W, (Instr.slice 25 (.slice a l.length cap) (some (.int .i64 (n : Int))) none none).run Tryd.prog W = .ok (.slice a1 (l.length - n) c1) W) ∧ ∀ W, PairsIs W (.slice a l.length cap) l → PairsIs W (.slice a1 (l.length - n) c1) (l.drop n) := by
  refine ⟨if cap = n then a else a.map (·.add (n * 2)), cap - n, fun W => ?_, fun W h => ?_⟩
  · rw [run_slice_l _ _ _ _ _ (by kernel_rfl) _ _ (by omega) (by omega), sizePair]
    simp only [Result.andThen, Go.sliced, Int.toNat_natCast]
  · have := h.sliced n l.length hn (Nat.le_refl _)
    simpa only [Go.sliced, List.take_length] using this
theorem pslice_lh (a : Option Addr) (cap : Nat) (l : PL) (i j : Nat) (hij : i ≤ j) (hj : j ≤ l.length) (hc : l.length ≤ cap) : ∃ a1 c1, (∀ W, (Instr.slice 25 (.slice a l.length cap) (some (.int .i64 (i : Int))) (some (.int .i64 (j : Int))) none).run Tryd.prog W = .ok (.slice a1 (j - i) c1) W) ∧ ∀ W, PairsIs W (.slice a l.length cap) l → PairsIs W (.slice a1 (j - i) c1) ((l.take j).drop i) := by
  refine ⟨if cap = i then a else a.map (·.add (i * 2)), cap - i, fun W => ?_, fun W h => ?_⟩
  · rw [run_slice_lh _ _ _ _ _ (by kernel_rfl) _ _ _ _ (by omega) (by omega) (by omega), sizePair]
    simp only [Result.andThen, Go.sliced, Int.toNat_natCast]
  · have := h.sliced i j hij hj
    simpa only [Go.sliced] using this
theorem PairsIs.cap {w : World} {a : Option Addr} {n cap : Nat} {l : PL} (h : PairsIs w (.slice a n cap) l) : l.length ≤ cap := by
  obtain ⟨a', cap', e, hc, _⟩ := h
  simp only [Value.slice.injEq] at e
  obtain ⟨_, _, rfl⟩ := e
  exact hc
end Go.Proofs.YtdpoickggdgddabDoor

/-
  What tree.Put must keep.
-/
namespace Go.Proofs.YtdpoickggdgddabDoor
open Go.RowKit
/-- tree.Put keeps P3.3. -/
def TPutOK : Prop := ∀ (w : World) (v u : Value) (l : PL) (p : Pr), PairsIs w v l → PairIs w u p → Fits l → p.1.length ≤ 140737488355328 → p.2.length ≤ 140737488355328 → Calls Tryd.prog 6 #[v, u] w fun e w' => ∃ x, e = .returned (.tuple #[x, .int .i64 (putE l p)]) ∧ PairsIs w' x (putF l p) ∧ w.grownBy w' none
end Go.Proofs.YtdpoickggdgddabDoor

/-
  tree.Put, as it landed, keeps P3.3.
-/
namespace Go.Proofs.YtdpoickggdgddabDoor
open Go.RowKit
set_option maxRecDepth 100000 in
set_option maxHeartbeats 1000000 in
theorem tput_ok : TPutOK := by
  intro w v u l p hv hu hl hp1 hp2
  obtain ⟨uk, uv, rfl, r1, r2⟩ := hu
  obtain ⟨W0, hW0⟩ : ∃ W0 : World, W0 = w.alloc (.cells #[uk, uv] 28) := ⟨_, rfl⟩
  have hgW : w.grownBy W0 none := by rw [hW0]; exact World.grownBy_alloc _ _ _
  have C0 : Hid (W0.heap[w.heap.size]? = some (.cells #[uk, uv] 28)) := by rw [hW0]; exact heap_alloc_new w _
  have HW0 : Hid (W0 = w.alloc (.cells #[uk, uv] 28)) := hW0
  have CL : Hid (Calls Tryd.prog 14 #[v] W0 fun e w' => e = .returned (.int .i64 (pairsFaultF l)) ∧ W0.grownBy w' none) := tcheck_ok W0 v l (hv.grown hgW) hl
  have R1 : Hid (SliceIs w uk p.1) := r1
  have R2 : Hid (SliceIs w uv p.2) := r2
  obtain ⟨ka, kc, rfl⟩ := r1.shape
  obtain ⟨va, vc, rfl⟩ := r2.shape
  obtain ⟨a, cap, rfl⟩ := hv.shape
  clear hW0 r1 r2
  by_cases hz : pairsFaultF l = 0
  · by_cases hf : pairFaultF p = 0
    · have hT := (tree_iff l).1 hz
      have hok := (pairFault_iff p).1 hf
      have hE0 : putE0 l p = 0 := by rw [putE0, if_pos hz]; exact hf
      have hE : putE l p = if 60 < (putL l p).length then 11 else 0 := by rw [putE, if_pos hE0]
      have hroom := hT.room
      have hput := put_room l p hroom
      have hnx := next_le l p.1
      have PL1 : Hid (∀ w', W0.grownBy w' none → Calls Tryd.prog 16 #[.slice a l.length cap, .slice ka p.1.length kc] w' fun e w'' => e = .returned (.tuple #[.int .i64 (posF l p.1 : Int), .int .i64 (nextF l p.1 : Int)]) ∧ w'.grownBy w'' none) := fun w' hg => place_any w' _ _ l p.1 (hv.grown (grown_trans hgW hg)) (R1.out.grown (grown_trans hgW hg)) hT.rises hroom
      have CP : Hid (∀ w', Calls Tryd.prog 15 #[.agg #[.slice ka p.1.length kc, .slice va p.2.length vc]] w' fun e w'' => e = .returned (.int .i64 0) ∧ w'.grownBy w'' none) := fun w' => by
        have := checkPair_any w' ka va p kc vc
        rw [hf] at this
        exact this
      rw [hz] at CL
      by_cases hfull : 60 < (putL l p).length
      · have hE1 : putE l p = 11 := by rw [hE, if_pos hfull]
        have hF : putF l p = [] := by rw [putF, if_neg (by rw [hE1]; decide)]
        obtain ⟨e1, e2⟩ := hput.1 hfull
        rw [hE1, hF]
        rw [e1] at PL1
        generalize nextF l p.1 = m at *
        have t1 : (l.length : Int) = 60 := by omega
        clear hE hE1 hF hput hfull e1 e2 hz hf hv
        go_enter Tryd.func6, Tryd.ntmps6
        go_wp2_with fail
        rw [← HW0.out]
        refine CL.out.mono ?_
        rintro e w1 ⟨rfl, hg1⟩
        obtain ⟨cA, cB, _, _⟩ := pair_room hg1 C0.out
        go_wp2_with fail
        refine (CP.out _).mono ?_
        rintro e w2 ⟨rfl, hg2⟩
        have hg12 := grown_trans hg1 hg2
        obtain ⟨cC, cD, _, _⟩ := pair_room hg12 C0.out
        go_wp2_with fail
        refine (PL1.out _ hg12).mono ?_
        rintro e w3 ⟨rfl, hg3⟩
        go_wp2
        go_ret2
        exact ⟨_, rfl, pairsIs_nil _, grown_trans hgW (grown_trans hg12 hg3)⟩
      · have hE1 : putE l p = 0 := by rw [hE, if_neg hfull]
        have hF : putF l p = l.take (posF l p.1) ++ ([p] ++ l.drop (nextF l p.1)) := by rw [putF, if_pos hE1, put_next]
        have hnf : posF l p.1 = nextF l p.1 → l.length ≠ 60 := fun e1 e2 => hfull (hput.2 ⟨e1, e2⟩)
        rw [hE1, hF]
        generalize posF l p.1 = n at *
        generalize nextF l p.1 = m at *
        obtain ⟨n1, n2, n3⟩ := hnx
        obtain ⟨R, hR⟩ : ∃ R, R = l.take n ++ ([p] ++ l.drop m) := ⟨_, rfl⟩
        rw [← hR]
        have HR : Hid (R = l.take n ++ ([p] ++ l.drop m)) := hR
        have HNF : Hid (n = m → l.length ≠ 60) := hnf
        have HT : Hid (Tree l) := hT
        clear hE hE1 hF hput hfull hR hnf hT
        go_enter Tryd.func6, Tryd.ntmps6
        go_wp2_with fail
        rw [← HW0.out]
        refine CL.out.mono ?_
        rintro e w1 ⟨rfl, hg1⟩
        obtain ⟨cA, cB, _, _⟩ := pair_room hg1 C0.out
        go_wp2_with fail
        refine (CP.out _).mono ?_
        rintro e w2 ⟨rfl, hg2⟩
        have hg12 := grown_trans hg1 hg2
        obtain ⟨cC, cD, _, _⟩ := pair_room hg12 C0.out
        go_wp2_with fail
        refine (PL1.out _ hg12).mono ?_
        rintro e w3 ⟨rfl, hg3⟩
        have hg13 := grown_trans hg12 hg3
        obtain ⟨cE, cF, _, _⟩ := pair_room hg13 C0.out
        obtain ⟨a1, c1, q1, g1⟩ := pslice_h a cap l n (by omega) hv.cap
        obtain ⟨a2, c2, q2, g2⟩ := pslice_l a cap l m (by omega)
        have hgw := grown_trans hgW hg13
        have JO : Hid (Calls Tryd.prog 17 #[.slice (some ⟨w3.heap.size + 1, 0, none⟩) 3 3] ((w3.alloc (.cells #[.slice ka p.1.length kc, .slice va p.2.length vc] 28)).alloc (.cells #[.slice a1 n c1, .slice (some ⟨w3.heap.size, 0, none⟩) 1 1, .slice a2 (l.length - m) c2] 25)).drew fun e w'' => ∃ v', e = .returned v' ∧ PairsIs w'' v' R ∧ w3.grownBy w'' none) := by
          rw [HR.out]
          have hg : w3.grownBy ((w3.alloc (.cells #[.slice ka p.1.length kc, .slice va p.2.length vc] 28)).alloc (.cells #[.slice a1 n c1, .slice (some ⟨w3.heap.size, 0, none⟩) 1 1, .slice a2 (l.length - m) c2] 25)).drew none := grown_drew (grown_alloc (World.grownBy_alloc _ _ _) _)
          have hb : ((w3.alloc (.cells #[.slice ka p.1.length kc, .slice va p.2.length vc] 28)).alloc (.cells #[.slice a1 n c1, .slice (some ⟨w3.heap.size, 0, none⟩) 1 1, .slice a2 (l.length - m) c2] 25)).drew.heap[w3.heap.size + 1]? = some (.cells #[.slice a1 n c1, .slice (some ⟨w3.heap.size, 0, none⟩) 1 1, .slice a2 (l.length - m) c2] 25) := by
            have := heap_alloc_new (w3.alloc (.cells #[.slice ka p.1.length kc, .slice va p.2.length vc] 28)) (.cells #[.slice a1 n c1, .slice (some ⟨w3.heap.size, 0, none⟩) 1 1, .slice a2 (l.length - m) c2] 25)
            rw [World.size_alloc] at this
            exact this
          have hbp : ((w3.alloc (.cells #[.slice ka p.1.length kc, .slice va p.2.length vc] 28)).alloc (.cells #[.slice a1 n c1, .slice (some ⟨w3.heap.size, 0, none⟩) 1 1, .slice a2 (l.length - m) c2] 25)).drew.heap[w3.heap.size]? = some (.cells #[.slice ka p.1.length kc, .slice va p.2.length vc] 28) := by
            have := (World.grownBy_alloc (w3.alloc (.cells #[.slice ka p.1.length kc, .slice va p.2.length vc] 28)) (.cells #[.slice a1 n c1, .slice (some ⟨w3.heap.size, 0, none⟩) 1 1, .slice a2 (l.length - m) c2] 25) none).block w3.heap.size (by simp) (by simp)
            rw [heap_alloc_new] at this
            exact this
          generalize ((w3.alloc (.cells #[.slice ka p.1.length kc, .slice va p.2.length vc] 28)).alloc (.cells #[.slice a1 n c1, .slice (some ⟨w3.heap.size, 0, none⟩) 1 1, .slice a2 (l.length - m) c2] 25)).drew = w' at *
          have h1 := g1 w' (hv.grown (grown_trans hgw hg))
          have h2 := g2 w' (hv.grown (grown_trans hgw hg))
          have h3 : PairsIs w' (.slice (some ⟨w3.heap.size, 0, none⟩) 1 1) [p] := by
            refine ⟨_, 1, rfl, by simp, .inr ⟨_, 0, rfl, fun i hi => ?_⟩⟩
            obtain rfl : i = 0 := by simpa using hi
            exact ⟨_, _, by simp [World.cell?, hbp], by simp [World.cell?, hbp], R1.out.grown (grown_trans hgw hg), R2.out.grown (grown_trans hgw hg)⟩
          have := joined_any w' (.slice (some ⟨w3.heap.size + 1, 0, none⟩) 3 3) [l.take n, [p], l.drop m] ⟨_, _, rfl, fun i hi => ?_⟩ (by simp; omega) (by simp) (fun q hq => ?_)
          · refine this.mono ?_
            rintro e w4 ⟨v4, rfl, h4, hg4⟩
            exact ⟨v4, rfl, by simpa using h4.list, grown_trans hg hg4⟩
          · match i, hi with
            | 0, _ => exact ⟨_, by simp [World.cell?, hb], h1⟩
            | 1, _ => exact ⟨_, by simp [World.cell?, hb], h3⟩
            | 2, _ => exact ⟨_, by simp [World.cell?, hb], h2⟩
          · simp only [List.flatten_cons, List.flatten_nil, List.append_nil, List.mem_append, List.mem_cons, List.not_mem_nil, or_false] at hq
            rcases hq with hq | rfl | hq
            · have := HT.out.pairs q (List.mem_of_mem_take hq); omega
            · omega
            · have := HT.out.pairs q (List.mem_of_mem_drop hq); omega
        have TT : (((n : Int) == (m : Int)) = true ∧ ((l.length : Int) == 60) = false) ∨ ((n : Int) == (m : Int)) = false := by
          by_cases hnm : n = m
          · exact .inl ⟨by simp [hnm], by have := HNF.out hnm; simp; omega⟩
          · exact .inr (by simp; omega)
        clear cA cB cC cD g1 g2 hv
        rcases TT with ⟨t2, t3⟩ | t3
        all_goals
          go_wp2_with fail
          go_region_with (go_at_call 17; refine JO.out.mono ?_; rintro e w5 ⟨v5, rfl, ho5, hg5⟩; obtain ⟨a5, c5, rfl⟩ := ho5.shape)
          go_wp2
          go_ret2
          exact ⟨_, rfl, ho5, grown_trans hgw hg5⟩
    · have hE0 : putE0 l p = pairFaultF p := by rw [putE0, if_pos hz]
      have hE : putE l p = pairFaultF p := by rw [putE, if_neg (by rw [hE0]; exact hf), hE0]
      have hF : putF l p = [] := by rw [putF, if_neg (by rw [hE]; exact hf)]
      have CP : Hid (∀ w', Calls Tryd.prog 15 #[.agg #[.slice ka p.1.length kc, .slice va p.2.length vc]] w' fun e w'' => e = .returned (.int .i64 (pairFaultF p)) ∧ w'.grownBy w'' none) := fun w' => checkPair_any w' ka va p kc vc
      rw [hE, hF]
      rw [hz] at CL
      generalize pairFaultF p = z at *
      have hz' : (z != 0) = true := by simpa using hf
      clear hE hE0 hF hz hv
      go_enter Tryd.func6, Tryd.ntmps6
      go_wp2_with fail
      rw [← HW0.out]
      refine CL.out.mono ?_
      rintro e w1 ⟨rfl, hg1⟩
      obtain ⟨cA, cB, _, _⟩ := pair_room hg1 C0.out
      go_wp2_with fail
      refine (CP.out _).mono ?_
      rintro e w2 ⟨rfl, hg2⟩
      go_wp2
      go_ret2
      exact ⟨_, rfl, pairsIs_nil _, grown_trans hgW (grown_trans hg1 hg2)⟩
  · have hE0 : putE0 l p = pairsFaultF l := by rw [putE0, if_neg hz]
    have hE : putE l p = pairsFaultF l := by rw [putE, if_neg (by rw [hE0]; exact hz), hE0]
    have hF : putF l p = [] := by rw [putF, if_neg (by rw [hE]; exact hz)]
    rw [hE, hF]
    generalize pairsFaultF l = z at *
    have hz' : (z != 0) = true := by simpa using hz
    clear hE hE0 hF hv
    go_enter Tryd.func6, Tryd.ntmps6
    go_wp2_with fail
    rw [← HW0.out]
    refine CL.out.mono ?_
    rintro e w1 ⟨rfl, hg1⟩
    go_wp2
    go_ret2
    exact ⟨_, rfl, pairsIs_nil _, grown_trans hgW hg1⟩
end Go.Proofs.YtdpoickggdgddabDoor

/-
  What tree.Delete must keep.
-/
namespace Go.Proofs.YtdpoickggdgddabDoor
open Go.RowKit
/-- tree.Delete keeps P3.4. -/
def TDelOK : Prop := ∀ (w : World) (v u : Value) (l : PL) (k : List UInt8), PairsIs w v l → SliceIs w u k → Fits l → k.length ≤ 140737488355328 → Calls Tryd.prog 10 #[v, u] w fun e w' => ∃ x, e = .returned (.tuple #[x, .int .i64 (getE l k)]) ∧ PairsIs w' x (delF l k) ∧ w.grownBy w' none
end Go.Proofs.YtdpoickggdgddabDoor

/-
  tree.Delete, as it landed, keeps P3.4.
-/
namespace Go.Proofs.YtdpoickggdgddabDoor
open Go.RowKit
set_option maxRecDepth 100000 in
set_option maxHeartbeats 1000000 in
theorem tdel_ok : TDelOK := by
  intro w v u l k hv hu hl hkl
  have CW : Hid (Calls Tryd.prog 18 #[v, u] w fun e w' => e = .returned (.int .i64 (getE l k)) ∧ w.grownBy w' none) := checkWith_any w v u l k hv hu hl
  obtain ⟨a, cap, rfl⟩ := hv.shape
  obtain ⟨ka, kcap, rfl⟩ := hu.shape
  by_cases hE : getE l k = 0
  · have hT := getE_tree hE
    have hD : delF l k = delL l k := by unfold delF; rw [if_pos hE]
    have hG := del_next l k hT.rises
    have PL1 : Hid (∀ w', w.grownBy w' none → Calls Tryd.prog 16 #[.slice a l.length cap, .slice ka k.length kcap] w' fun e w'' => e = .returned (.tuple #[.int .i64 (posF l k : Int), .int .i64 (nextF l k : Int)]) ∧ w'.grownBy w'' none) := fun w' hg => place_any w' _ _ l k (hv.grown hg) (hu.grown hg) hT.rises hT.room
    have hroom := hT.room
    have hnx := next_le l k
    rw [hE] at CW ⊢
    rw [hD, hG]
    clear hD hG hE
    generalize posF l k = n at *
    generalize nextF l k = m at *
    obtain ⟨n1, n2, n3⟩ := hnx
    have i1 : (n : Int) ≤ (l.length : Int) := by omega
    have i2 : (m : Int) ≤ (l.length : Int) := by omega
    obtain ⟨R, hR⟩ : ∃ R, R = l.take n ++ l.drop m := ⟨_, rfl⟩
    rw [← hR]
    have HR : Hid (R = l.take n ++ l.drop m) := hR
    clear hR
    go_enter Tryd.func10, Tryd.ntmps10
    go_wp2_with fail
    refine CW.out.mono ?_
    rintro e w1 ⟨rfl, hg1⟩
    go_wp2_with fail
    refine (PL1.out _ hg1).mono ?_
    rintro e w2 ⟨rfl, hg2⟩
    obtain ⟨a1, c1, r1, q1⟩ := pslice_h a cap l n (by omega) hv.cap
    obtain ⟨a2, c2, r2, q2⟩ := pslice_l a cap l m (by omega)
    have hgw := grown_trans hg1 hg2
    have JO : Hid (Calls Tryd.prog 17 #[.slice (some ⟨w2.heap.size, 0, none⟩) 2 2] (w2.alloc (.cells #[.slice a1 n c1, .slice a2 (l.length - m) c2] 25)).drew fun e w'' => ∃ v', e = .returned v' ∧ PairsIs w'' v' R ∧ w2.grownBy w'' none) := by
      rw [HR.out]
      have hg : w2.grownBy (w2.alloc (.cells #[.slice a1 n c1, .slice a2 (l.length - m) c2] 25)).drew none := grown_drew (World.grownBy_alloc _ _ _)
      have hb : (w2.alloc (.cells #[.slice a1 n c1, .slice a2 (l.length - m) c2] 25)).drew.heap[w2.heap.size]? = some (.cells #[.slice a1 n c1, .slice a2 (l.length - m) c2] 25) := heap_alloc_new w2 _
      generalize (w2.alloc (.cells #[.slice a1 n c1, .slice a2 (l.length - m) c2] 25)).drew = w' at *
      have h1 := q1 w' (hv.grown (grown_trans hgw hg))
      have h2 := q2 w' (hv.grown (grown_trans hgw hg))
      have := joined_any w' (.slice (some ⟨w2.heap.size, 0, none⟩) 2 2) [l.take n, l.drop m] ⟨_, _, rfl, fun i hi => ?_⟩ (by simp; omega) (by simp) (fun q hq => ?_)
      · refine this.mono ?_
        rintro e w4 ⟨v4, rfl, h4, hg4⟩
        exact ⟨v4, rfl, by simpa using h4.list, grown_trans hg hg4⟩
      · match i, hi with
        | 0, _ => exact ⟨_, by simp [World.cell?, hb], h1⟩
        | 1, _ => exact ⟨_, by simp [World.cell?, hb], h2⟩
      · have hq' : q ∈ l := by
          simp only [List.flatten_cons, List.flatten_nil, List.append_nil, List.mem_append] at hq
          rcases hq with hq | hq
          · exact List.mem_of_mem_take hq
          · exact List.mem_of_mem_drop hq
        have := hT.pairs q hq'
        omega
    clear q1 q2
    go_wp2_with fail
    go_region_with (go_at_call 17; refine JO.out.mono ?_; rintro e w3 ⟨v3, rfl, ho3, hg3⟩; obtain ⟨a3, c3, rfl⟩ := ho3.shape)
    go_wp2
    go_ret2
    exact ⟨_, rfl, ho3, grown_trans hgw hg3⟩
  · have hD : delF l k = [] := by unfold delF; rw [if_neg hE]
    rw [hD]
    generalize getE l k = z at *
    have hz : (z != 0) = true := by simpa using hE
    clear hD hv hu
    go_enter Tryd.func10, Tryd.ntmps10
    go_wp2_with fail
    refine CW.out.mono ?_
    rintro e w1 ⟨rfl, hg1⟩
    go_wp2
    go_ret2
    exact ⟨_, rfl, pairsIs_nil _, hg1⟩
end Go.Proofs.YtdpoickggdgddabDoor

/-
  The bit at which pairs part, and their two sides. No program is named.
-/
namespace Go.Proofs.YtdpoickggdgddabDoor
/-- The least bit at which the first one differs from those ahead of a place. -/
def minTo (l : PL) : Nat → Int
  | 0 => 999
  | 1 => 999
  | m + 2 => if partK (l.getD 0 ([], [])).1 (l.getD (m + 1) ([], [])).1 < minTo l (m + 1) then partK (l.getD 0 ([], [])).1 (l.getD (m + 1) ([], [])).1 else minTo l (m + 1)
def forkBit (l : PL) : Int := minTo l l.length
/-- Those of a side. -/
def sideL (l : PL) (b : Nat) (x : Bool) : PL := l.filter fun q => kbit q.1 b == x
theorem side_take (l : PL) (b : Nat) (x : Bool) (m : Nat) (h : m < l.length) : sideL (l.take (m + 1)) b x = if kbit (l.getD m ([], [])).1 b = x then sideL (l.take m) b x ++ [l.getD m ([], [])] else sideL (l.take m) b x := by
  rw [List.take_succ_eq_append_getElem h, show l[m] = l.getD m ([], []) by simp [h], sideL, List.filter_append]
  generalize l.getD m ([], []) = P
  by_cases e : kbit P.1 b = x
  · rw [if_pos e, List.filter_cons_of_pos (by simp [e])]; simp [sideL]
  · rw [if_neg e, List.filter_cons_of_neg (by simp [e])]; simp [sideL]
theorem side_len (l : PL) (b : Nat) (x : Bool) : (sideL l b x).length ≤ l.length := List.length_filter_le _ _
theorem side_tree {l : PL} (h : Tree l) (b : Nat) (x : Bool) : Tree (sideL l b x) :=
  ⟨Nat.le_trans (side_len l b x) h.room, fun p hp => h.pairs p (List.mem_filter.1 hp).1, List.Pairwise.filter _ h.rises⟩
theorem part_pos {l : PL} (h : Tree l) (i j : Nat) (hij : i < j) (hj : j < l.length) : 0 ≤ partK (l.getD i ([], [])).1 (l.getD j ([], [])).1 := by
  have hk := rises_step l h.rises i j hij hj
  have h1 := (h.pairs l[i] (List.getElem_mem (by omega))).1
  have h2 := (h.pairs l[j] (List.getElem_mem hj)).1
  rw [show l[i] = l.getD i ([], []) by simp [show i < l.length by omega]] at h1
  rw [show l[j] = l.getD j ([], []) by simp [hj]] at h2
  have := partK_same (l.getD i ([], [])).1 (l.getD j ([], [])).1 h1.2 h2.2
  have hne := klt_ne hk
  by_cases hp : partK (l.getD i ([], [])).1 (l.getD j ([], [])).1 < 0
  · exact absurd (this.1 hp) hne
  · omega
theorem minTo_range {l : PL} (h : Tree l) : ∀ m, m ≤ l.length → 0 ≤ minTo l m ∧ (2 ≤ m → minTo l m ≤ 144) ∧ minTo l m ≤ 999
  | 0, _ => ⟨by simp [minTo], by omega, by simp [minTo]⟩
  | 1, _ => ⟨by simp [minTo], by omega, by simp [minTo]⟩
  | m + 2, hm => by
    have ih := minTo_range h (m + 1) (by omega)
    have hp := part_pos h 0 (m + 1) (by omega) (by omega)
    have hr := partK_range (l.getD 0 ([], [])).1 (l.getD (m + 1) ([], [])).1
    rw [minTo]
    by_cases hlt : partK (l.getD 0 ([], [])).1 (l.getD (m + 1) ([], [])).1 < minTo l (m + 1)
    · rw [if_pos hlt]; omega
    · rw [if_neg hlt]; omega
theorem forkBit_range {l : PL} (h : Tree l) (h2 : 2 ≤ l.length) : 0 ≤ forkBit l ∧ forkBit l ≤ 144 := by
  have := minTo_range h l.length (Nat.le_refl _)
  exact ⟨this.1, this.2.1 h2⟩
/-- It is the bit at which one of them differs from the first one, and it is met first. -/
theorem minTo_at {l : PL} (_h : Tree l) : ∀ m, 2 ≤ m → m ≤ l.length → ∃ j, 0 < j ∧ j < m ∧ minTo l m = partK (l.getD 0 ([], [])).1 (l.getD j ([], [])).1
  | 0, h, _ => by omega
  | 1, h, _ => by omega
  | m + 2, _, hm => by
    rw [minTo]
    by_cases hlt : partK (l.getD 0 ([], [])).1 (l.getD (m + 1) ([], [])).1 < minTo l (m + 1)
    · rw [if_pos hlt]; exact ⟨m + 1, by omega, by omega, rfl⟩
    · rw [if_neg hlt]
      by_cases h0 : m = 0
      · subst h0
        have hr := partK_range (l.getD 0 ([], [])).1 (l.getD (0 + 1) ([], [])).1
        simp only [minTo] at hlt
        omega
      · obtain ⟨j, h1, h2, h3⟩ := minTo_at _h (m + 1) (by omega) (by omega)
        exact ⟨j, h1, by omega, h3⟩
/-- Both sides have some. -/
theorem sides_less {l : PL} (h : Tree l) (h2 : 2 ≤ l.length) : ∀ x, (sideL l (forkBit l).toNat x).length < l.length := by
  obtain ⟨j, hj1, hj2, hj3⟩ := minTo_at h l.length h2 (Nat.le_refl _)
  have hr := forkBit_range h h2
  have hd : kbit (l.getD 0 ([], [])).1 (forkBit l).toNat ≠ kbit (l.getD j ([], [])).1 (forkBit l).toNat := by
    rcases partK_spec (l.getD 0 ([], [])).1 (l.getD j ([], [])).1 with ⟨e, _⟩ | ⟨m, e, _, _, hd⟩
    · rw [← hj3] at e; unfold forkBit at hr; omega
    · have : (forkBit l).toNat = m := by unfold forkBit; omega
      rw [this]; exact hd
  intro x
  by_cases hlt : (sideL l (forkBit l).toNat x).length < l.length
  · exact hlt
  · have he : (sideL l (forkBit l).toNat x).length = l.length := by have := side_len l (forkBit l).toNat x; omega
    have hall := List.length_filter_eq_length_iff.1 he
    have h0 := hall l[0] (List.getElem_mem (by omega))
    have hj := hall l[j] (List.getElem_mem hj2)
    rw [show l[0] = l.getD 0 ([], []) by simp [show 0 < l.length by omega]] at h0
    rw [show l[j] = l.getD j ([], []) by simp [hj2]] at hj
    simp only [beq_iff_eq] at h0 hj
    exact absurd (h0.trans hj.symm) hd
end Go.Proofs.YtdpoickggdgddabDoor

/-
  The bit at which pairs part is that of the first and the last one; its sides are a beginning and an end. No program is named.
-/
namespace Go.Proofs.YtdpoickggdgddabDoor
/-- How many stand on the left. -/
def sideN (l : PL) (b : Nat) : Nat := (l.takeWhile fun q => !kbit q.1 b).length
theorem minTo_least (l : PL) : ∀ m j, 0 < j → j < m → m ≤ l.length → minTo l m ≤ partK (l.getD 0 ([], [])).1 (l.getD j ([], [])).1
  | 0, j, _, h, _ => by omega
  | 1, j, h0, h, _ => by omega
  | m + 2, j, h0, h, hm => by
    rw [minTo]
    by_cases hlt : partK (l.getD 0 ([], [])).1 (l.getD (m + 1) ([], [])).1 < minTo l (m + 1)
    · rw [if_pos hlt]
      by_cases e : j = m + 1
      · subst e; exact Int.le_refl _
      · have := minTo_least l (m + 1) j h0 (by omega) (by omega); omega
    · rw [if_neg hlt]
      by_cases e : j = m + 1
      · subst e; omega
      · exact minTo_least l (m + 1) j h0 (by omega) (by omega)
/-- Ahead of it all are the same. -/
theorem fork_same {l : PL} (h : Tree l) (h2 : 2 ≤ l.length) (j : Nat) (hj : j < l.length) (b : Nat) (hb : b < (forkBit l).toNat) : kbit (l.getD 0 ([], [])).1 b = kbit (l.getD j ([], [])).1 b := by
  by_cases h0 : j = 0
  · subst h0; rfl
  · have hm := minTo_least l l.length j (by omega) hj (Nat.le_refl _)
    have hr := forkBit_range h h2
    rcases partK_spec (l.getD 0 ([], [])).1 (l.getD j ([], [])).1 with ⟨e, hs⟩ | ⟨m, e, hm1, hs, _⟩
    · exact hs b (by omega)
    · exact hs b (by unfold forkBit at hb; omega)
theorem fork_mono {l : PL} (h : Tree l) (h2 : 2 ≤ l.length) (i j : Nat) (hij : i < j) (hj : j < l.length) (hi : kbit (l.getD i ([], [])).1 (forkBit l).toNat = true) : kbit (l.getD j ([], [])).1 (forkBit l).toNat = true := by
  have hk := rises_step l h.rises i j hij hj
  have hp := part_pos h i j hij hj
  rcases partK_spec (l.getD i ([], [])).1 (l.getD j ([], [])).1 with ⟨e, _⟩ | ⟨m, e, hm, hs, hd⟩
  · omega
  · have hge : (forkBit l).toNat ≤ m := by
      by_cases hlt : m < (forkBit l).toNat
      · exact absurd ((fork_same h h2 i (by omega) m hlt).symm.trans (fork_same h h2 j hj m hlt)) hd
      · omega
    by_cases he : (forkBit l).toNat = m
    · rw [he]
      have := part_order _ _ m hs hd
      rw [this]; exact hk
    · rw [← hs _ (by omega)]; exact hi
/-- The first one has 0 there, the last one 1. -/
theorem fork_ends {l : PL} (h : Tree l) (h2 : 2 ≤ l.length) : kbit (l.getD 0 ([], [])).1 (forkBit l).toNat = false ∧ kbit (l.getD (l.length - 1) ([], [])).1 (forkBit l).toNat = true := by
  obtain ⟨j, hj1, hj2, hj3⟩ := minTo_at h l.length h2 (Nat.le_refl _)
  have hr := forkBit_range h h2
  have hk := rises_step l h.rises 0 j hj1 hj2
  rcases partK_spec (l.getD 0 ([], [])).1 (l.getD j ([], [])).1 with ⟨e, _⟩ | ⟨m, e, hm, hs, hd⟩
  · rw [← hj3] at e; unfold forkBit at hr; omega
  · have em : (forkBit l).toNat = m := by unfold forkBit; omega
    have ho := part_order _ _ m hs hd
    have hjt : kbit (l.getD j ([], [])).1 m = true := by rw [ho]; exact hk
    refine ⟨?_, ?_⟩
    · rw [em]
      cases hx : kbit (l.getD 0 ([], [])).1 m with
      | false => rfl
      | true => exact absurd (hx.trans hjt.symm) hd
    · by_cases hl : j = l.length - 1
      · rw [← hl, em]; exact hjt
      · exact fork_mono h h2 j (l.length - 1) (by omega) (by omega) (by rw [em]; exact hjt)
theorem fork_part {l : PL} (h : Tree l) (h2 : 2 ≤ l.length) : partK (l.getD 0 ([], [])).1 (l.getD (l.length - 1) ([], [])).1 = forkBit l := by
  have hr := forkBit_range h h2
  obtain ⟨e1, e2⟩ := fork_ends h h2
  rw [partK_of _ _ (forkBit l).toNat (by omega) (fun b hb => fork_same h h2 _ (by omega) b hb) (by rw [e1, e2]; simp)]
  omega
theorem side_le (l : PL) (b : Nat) : sideN l b ≤ l.length := by
  induction l with
  | nil => simp [sideN]
  | cons p r ih =>
    unfold sideN at ih ⊢
    rw [List.takeWhile_cons]
    cases h : kbit p.1 b with
    | false => simpa using ih
    | true => simp
theorem side_lt : ∀ (l : PL) (b j : Nat), j < sideN l b → kbit (l.getD j ([], [])).1 b = false
  | [], b, j, h => by simp [sideN] at h
  | p :: r, b, j, h => by
    cases hk : kbit p.1 b with
    | true => simp [sideN, hk] at h
    | false =>
      cases j with
      | zero => simpa using hk
      | succ j =>
        have := side_lt r b j (by unfold sideN at h ⊢; rw [List.takeWhile_cons_of_pos (p := fun q : Pr => !kbit q.1 b) (by simp [hk])] at h; simpa using h)
        simpa using this
theorem side_not : ∀ (l : PL) (b : Nat), sideN l b < l.length → kbit (l.getD (sideN l b) ([], [])).1 b = true
  | [], b, h => by simp at h
  | p :: r, b, h => by
    cases hk : kbit p.1 b with
    | true => simp [sideN, hk]
    | false =>
      have e : sideN (p :: r) b = sideN r b + 1 := by unfold sideN; rw [List.takeWhile_cons_of_pos (p := fun q : Pr => !kbit q.1 b) (by simp [hk])]; simp
      rw [e] at h ⊢
      have := side_not r b (by simpa using h)
      simpa using this
theorem bit_side {l : PL} (h : Tree l) (h2 : 2 ≤ l.length) (j : Nat) (hj : j < l.length) : kbit (l.getD j ([], [])).1 (forkBit l).toNat = decide (sideN l (forkBit l).toNat ≤ j) := by
  by_cases hlt : j < sideN l (forkBit l).toNat
  · rw [decide_eq_false (by omega)]; exact side_lt l _ j hlt
  · rw [decide_eq_true (by omega)]
    have h0 := side_not l (forkBit l).toNat (by omega)
    by_cases e : j = sideN l (forkBit l).toNat
    · rw [e]; exact h0
    · exact fork_mono h h2 _ j (by omega) hj h0
theorem side_range {l : PL} (h : Tree l) (h2 : 2 ≤ l.length) : 0 < sideN l (forkBit l).toNat ∧ sideN l (forkBit l).toNat < l.length := by
  obtain ⟨e1, e2⟩ := fork_ends h h2
  rw [bit_side h h2 0 (by omega)] at e1
  rw [bit_side h h2 _ (by omega)] at e2
  simp at e1 e2
  omega
theorem side_false {l : PL} (h : Tree l) (h2 : 2 ≤ l.length) : sideL l (forkBit l).toNat false = l.take (sideN l (forkBit l).toNat) := by
  have hs := side_range h h2
  have hb := fun j hj => bit_side h h2 j hj
  generalize (forkBit l).toNat = b at *
  generalize sideN l b = n at *
  have e : l = l.take n ++ l.drop n := (List.take_append_drop n l).symm
  rw [sideL]
  conv => lhs; rw [e]
  rw [List.filter_append, List.filter_eq_self.2, List.filter_eq_nil_iff.2, List.append_nil]
  · intro q hq
    obtain ⟨j, hj, rfl⟩ := List.mem_iff_getElem.1 hq
    have hjn : n + j < l.length := by simp at hj; omega
    rw [List.getElem_drop, show l[n + j] = l.getD (n + j) ([], []) by simp [hjn], hb _ hjn]
    simp
  · intro q hq
    obtain ⟨j, hj, rfl⟩ := List.mem_iff_getElem.1 hq
    have hjn : j < n := by simp at hj; omega
    rw [List.getElem_take, show l[j]'(by omega) = l.getD j ([], []) by simp [show j < l.length by omega], hb _ (by omega)]
    simp [hjn]
theorem side_true {l : PL} (h : Tree l) (h2 : 2 ≤ l.length) : sideL l (forkBit l).toNat true = l.drop (sideN l (forkBit l).toNat) := by
  have hs := side_range h h2
  have hb := fun j hj => bit_side h h2 j hj
  generalize (forkBit l).toNat = b at *
  generalize sideN l b = n at *
  have e : l = l.take n ++ l.drop n := (List.take_append_drop n l).symm
  rw [sideL]
  conv => lhs; rw [e]
  rw [List.filter_append, List.filter_eq_nil_iff.2, List.filter_eq_self.2, List.nil_append]
  · intro q hq
    obtain ⟨j, hj, rfl⟩ := List.mem_iff_getElem.1 hq
    have hjn : n + j < l.length := by simp at hj; omega
    rw [List.getElem_drop, show l[n + j] = l.getD (n + j) ([], []) by simp [hjn], hb _ hjn]
    simp
  · intro q hq
    obtain ⟨j, hj, rfl⟩ := List.mem_iff_getElem.1 hq
    have hjn : j < n := by simp at hj; omega
    rw [List.getElem_take, show l[j]'(by omega) = l.getD j ([], []) by simp [show j < l.length by omega], hb _ (by omega)]
    simp [hjn]
end Go.Proofs.YtdpoickggdgddabDoor

/-
  What path.Bit must keep.
-/
namespace Go.Proofs.YtdpoickggdgddabDoor
open Go.RowKit
/-- path.Bit keeps P2.2. -/
def BitOK : Prop := ∀ (w : World) (v : Value) (bs : List UInt8) (i : Int), SliceIs w v bs → Calls Tryd.prog 32 #[v, .int .i64 i] w fun e w' => e = .returned (.tuple #[.bool (bitF bs i).1, .int .i64 (bitF bs i).2]) ∧ w.grownBy w' none
/-- path.Bit of a key. -/
theorem BitOK.of (hB : BitOK) (w : World) (v : Value) (k : List UInt8) (i : Nat) (hv : SliceIs w v k) (hk : 1 ≤ k.length ∧ k.length ≤ 16) (hi : i < 145) :
    Calls Tryd.prog 32 #[v, .int .i64 (i : Int)] w fun e w' => e = .returned (.tuple #[.bool (kbit k i), .int .i64 0]) ∧ w.grownBy w' none := by
  have := hB w v k i hv
  rw [bitF_ok k i hk hi] at this
  exact this
end Go.Proofs.YtdpoickggdgddabDoor

/-
  path.group, as it landed: the nine bits of a byte, as a number.
-/
namespace Go.Proofs.YtdpoickggdgddabDoor
open Go.RowKit
/-- The nine bits at a place. -/
def groupN (k : List UInt8) (p : Nat) : Nat := if p < k.length then 256 ||| (k.getD p 0).toNat else 0
theorem or_256 : ∀ c : Fin 256, 256 ||| c.val = 256 + c.val := by decide +kernel
theorem groupN_lt (k : List UInt8) (p : Nat) : groupN k p < 512 := by
  unfold groupN
  by_cases h : p < k.length
  · rw [if_pos h]
    have := or_256 ⟨(k.getD p 0).toNat, (k.getD p 0).toNat_lt⟩
    have := (k.getD p 0).toNat_lt
    simp only at *
    omega
  · rw [if_neg h]; decide
theorem kbit_group (k : List UInt8) (i : Nat) : kbit k i = (groupN k (i / 9)).testBit (8 - i % 9) := by
  unfold kbit groupN
  by_cases h : i / 9 < k.length
  · rw [if_pos h, if_pos h]
    by_cases h0 : i % 9 = 0
    · rw [if_pos h0, h0, Nat.testBit_or]
      simp
      left; decide
    · rw [if_neg h0, Nat.testBit_or, show Nat.testBit 256 (8 - i % 9) = false from ?_, Bool.false_or]
      have hj : 8 - i % 9 < 8 := by omega
      generalize 8 - i % 9 = j at hj
      revert hj; revert j; decide
  · rw [if_neg h, if_neg h]; simp
theorem wrap_u16 (x : Nat) (h : x < 65536) : IntKind.u16.wrap (x : Int) = (x : Int) := by
  rw [IntKind.wrap_u16]; omega
theorem or_u16 (x y : Nat) (hx : x < 65536) (hy : y < 65536) : bits .or .u16 (x : Int) (y : Int) = ((x ||| y : Nat) : Int) := by
  show IntKind.u16.wrap ((BitVec.ofInt 16 (x : Int) ||| BitVec.ofInt 16 (y : Int)).toNat : Int) = _
  rw [BitVec.ofInt_natCast, BitVec.ofInt_natCast, BitVec.toNat_or, BitVec.toNat_ofNat, BitVec.toNat_ofNat, Nat.mod_eq_of_lt (by omega), Nat.mod_eq_of_lt (by omega), wrap_u16]
  exact Nat.or_lt_two_pow (n := 16) hx hy
theorem xor_u16 (x y : Nat) (hx : x < 65536) (hy : y < 65536) : bits .xor .u16 (x : Int) (y : Int) = ((x ^^^ y : Nat) : Int) := by
  show IntKind.u16.wrap ((BitVec.ofInt 16 (x : Int) ^^^ BitVec.ofInt 16 (y : Int)).toNat : Int) = _
  rw [BitVec.ofInt_natCast, BitVec.ofInt_natCast, BitVec.toNat_xor, BitVec.toNat_ofNat, BitVec.toNat_ofNat, Nat.mod_eq_of_lt (by omega), Nat.mod_eq_of_lt (by omega), wrap_u16]
  exact Nat.xor_lt_two_pow (n := 16) hx hy
theorem and1_u16 (x : Nat) (hx : x < 65536) : bits .and .u16 (x : Int) 1 = ((x % 2 : Nat) : Int) := by
  show IntKind.u16.wrap ((BitVec.ofInt 16 (x : Int) &&& BitVec.ofInt 16 ((1 : Nat) : Int)).toNat : Int) = _
  rw [BitVec.ofInt_natCast, BitVec.ofInt_natCast, BitVec.toNat_and, BitVec.toNat_ofNat, BitVec.toNat_ofNat, Nat.mod_eq_of_lt (by omega), Nat.mod_eq_of_lt (by omega), Nat.and_one_is_mod, wrap_u16]
  omega
theorem group_any (w : World) (v : Value) (bs : List UInt8) (p : Nat) (hv : SliceIs w v bs) :
    Calls Tryd.prog 36 #[v, .int .i64 (p : Int)] w fun e w' => e = .returned (.int .u16 (groupN bs p)) ∧ w.grownBy w' none := by
  obtain ⟨a, cap, rfl, hc, hrest⟩ := hv
  by_cases hp : p < bs.length
  · rw [groupN, if_pos hp]
    rcases hrest with ⟨h0, _⟩ | ⟨b, o, rfl, hcell⟩
    · rw [h0] at hp; cases hp
    have t1 : ¬ (p : Int) ≥ (bs.length : Int) := by omega
    have c0 := hcell p hp
    go_enter Tryd.func36, Tryd.ntmps36
    go_wp2
    go_ret
    refine ⟨congrArg Ending.returned (congrArg (Value.int IntKind.u16) ?_), grown_refl _ _⟩
    have hb := (bs[p]).toNat_lt
    generalize (bs[p]).toNat = c at hb ⊢
    rw [wrap_u16 c (by omega), show (256 : Int) = ((256 : Nat) : Int) from rfl, or_u16 256 c (by omega) (by omega)]
  · rw [groupN, if_neg hp]
    have t1 : (p : Int) ≥ (bs.length : Int) := by omega
    go_enter Tryd.func36, Tryd.ntmps36
    go_wp2
    go_ret
    exact ⟨rfl, grown_refl _ _⟩
end Go.Proofs.YtdpoickggdgddabDoor
