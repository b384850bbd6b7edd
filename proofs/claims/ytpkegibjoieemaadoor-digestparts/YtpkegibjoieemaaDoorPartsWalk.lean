/-
  The walk of canopylaw.DigestParts.
-/
import Derived.Test.YtpkegibjoieemaaDoorRParts
import Derived.Test.YtpkegibjoieemaaDoorSumsWalk
namespace Go.Proofs.YtpkegibjoieemaaDoor
open Go.RowKit
theorem ListIs.grown {w w' : World} {v : Value} {ps : List (List UInt8)} (h : ListIs w v ps) (hg : w.grownBy w' none) : ListIs w' v ps := by
  obtain ⟨a, cap, rfl, hc, h⟩ := h
  refine ⟨a, cap, rfl, hc, ?_⟩
  rcases h with h | ⟨b, o, rfl, h⟩
  · exact .inl h
  · refine .inr ⟨b, o, rfl, fun i hi => ?_⟩
    obtain ⟨vi, h1, h2⟩ := h i hi
    exact ⟨vi, hg.cell h1 (by simp), h2.grown hg⟩
/-- A list of slices of the call's own. -/
def OwnL (base : Nat) (w : World) (v : Value) (vs : List Value) : Prop := w.ownsRow base 22 1 v vs.length vs
theorem ownL_nil (base : Nat) (w : World) : OwnL base w (.slice none 0 0) [] := World.ownsRow_nil _ _ _ _
theorem OwnL.shape {base : Nat} {w : World} {v : Value} {vs : List Value} (h : OwnL base w v vs) : ∃ a cap, v = .slice a vs.length cap := by
  rcases h.2 with ⟨rfl, h0⟩ | ⟨g, cap, cur, rfl, _⟩
  · exact ⟨none, 0, by rw [h0]⟩
  · exact ⟨_, cap, rfl⟩
theorem OwnL.grownNone {base : Nat} {w w' : World} {v : Value} {vs : List Value} (h : OwnL base w v vs) (hg : w.grownBy w' none) : OwnL base w' v vs := by
  refine World.ownsRow.kept h hg ?_
  cases hv : v.ownBlock with
  | none => exact .inl rfl
  | some k => exact .inr (by simp)
theorem grown_ownL {w W w1 : World} {v : Value} {vs : List Value} (h : w.grownBy W none) (ho : OwnL w.heap.size W v vs) (hg : W.grownBy w1 v.ownBlock) : w.grownBy w1 none :=
  ⟨hg.os.trans h.os, hg.tape.trans h.tape, hg.output.trans h.output, Nat.le_trans h.size hg.size, fun i hi hn => (hg.block i (Nat.lt_of_lt_of_le hi h.size) (fun e => by have := (World.ownsRow.lt ho i e.symm).1; omega)).trans (h.block i hi hn)⟩
/-- A list's block is none of its parts'. -/
theorem Own.keptL {base base' : Nat} {w w' : World} {v c : Value} {bs : List UInt8} {vs : List Value} (h : Own base w v bs) (hc : OwnL base' w c vs) (hg : w.grownBy w' c.ownBlock) : Own base w' v bs := by
  refine h.grown hg ?_
  rcases h.2 with ⟨rfl, _⟩ | ⟨g, cap, cur, rfl, _, hh, _⟩
  · exact .inl rfl
  · right
    rcases hc.2 with ⟨rfl, _⟩ | ⟨g2, cap2, cur2, rfl, _, hh2, _⟩
    · simp [Value.ownBlock]
    · simp only [Value.ownBlock, ne_eq, Option.some.injEq]
      intro e
      subst e
      rw [hh] at hh2
      simp at hh2
theorem info22 : (Tryd.prog.info? 22).map (fun i => (i.zero, i.size, i.bytes)) = some (some (.slice none 0 0), 1, 24) := by kernel_rfl
/-- append(v, x) of one slice. -/
theorem wpList_append_part {w0 w : World} {ops : Array Oper} {rest : List Oper} {o : Oper} {a : Act} {Q : Exit → Act → World → Prop} (hgd : o.guard = none) (s x : Operand)
    (ho : o.op = .call { callee := .builtin .append, args := #[s, x], argTypes := #[29, 29] }) (base : Nat) (v : Value) (vs : List Value) (hs : a.eval s = v) (y : Value) (hy : y.oneCell' = true) (hw : w = w0.alloc (.cells #[y] 22)) (hown : OwnL base w0 v vs)
    (hx : a.eval x = .slice (some ⟨w0.heap.size, 0, none⟩) 1 1) (hl : (vs.length + 1) * 24 ≤ 140737488355328) (hbase : base ≤ w0.heap.size)
    (h : ∀ v' w', OwnL base w' v' (vs ++ [y]) → w.grownBy w' v.ownBlock → wpList Tryd.prog ops Q rest (a.put o.dst v') w') : wpList Tryd.prog ops Q (o :: rest) a w := by
  subst hw
  obtain ⟨i0, hi, hz0, hz1, hz2⟩ := info_parts info22
  refine wpList_append_own _ hgd s x 29 ho base 22 i0 (.slice none 0 0) 1 24 Tryd.underlying29 hi hz0 hz1 hz2 rfl (by decide) v vs.length vs hs (World.ownsRow.alloc hown _) ⟨w0.heap.size, 0, none⟩ 1 1 [y] hx rfl ?_ ?_ ?_ ?_ ?_ ?_
  · intro j u hj
    match j, hj with
    | 0, hj => simp at hj; subst hj; simp [Addr.add]
  · intro u hu; simp at hu; subst hu; exact hy
  · unfold maxLen; omega
  · omega
  · simp; omega
  · intro v' w' h1 h2 _
    refine h v' w' ?_ h2
    unfold OwnL
    rw [List.length_append]
    exact h1
theorem OwnL.list {base : Nat} {w : World} {v : Value} {vs : List Value} {ps : List (List UInt8)} (h : OwnL base w v vs) (hl : vs.length = ps.length) (hp : ∀ i, i < ps.length → Own base w (vs.getD i undef) (ps.getD i [])) : ListIs w v ps := by
  obtain ⟨h1, h2⟩ := h
  rcases h2 with ⟨rfl, h0⟩ | ⟨g, cap, cur, rfl, hb, hg, hn, hm, hs, ht⟩
  · have : ps = [] := List.eq_nil_of_length_eq_zero (by omega)
    subst this
    exact ⟨none, 0, rfl, Nat.le_refl _, .inl rfl⟩
  · refine ⟨_, cap, by rw [hl], by omega, .inr ⟨g, 0, rfl, fun i hi => ⟨vs.getD i undef, ?_, (hp i hi).slice⟩⟩⟩
    have hc : cur.toList[i]? = some (vs.getD i undef) := by
      have e : (cur.toList.take (vs.length * 1))[i]? = vs[i]? := by rw [ht]
      rw [List.getElem?_take, if_pos (by omega)] at e
      rw [e, List.getElem?_eq_getElem (by omega)]
      simp [show i < vs.length by omega]
    simp [World.cell?, hg]
    simpa using hc
theorem Own.oneCell {base : Nat} {w : World} {v : Value} {bs : List UInt8} (h : Own base w v bs) : v.oneCell' = true := by
  obtain ⟨a, cap, rfl⟩ := h.shape
  rfl
set_option maxRecDepth 100000 in
set_option maxHeartbeats 1000000 in
theorem digestParts_walk (w : World) (k : UInt8) (v : Value) (ps : List (List UInt8)) (hv : ListIs w v ps) (hm : ps.length * 24 ≤ 140737488351232) (hms : ∀ i, i < ps.length → (ps.getD i []).length ≤ 140737488351232) (ht : Tabs w) :
    Calls Tryd.prog 4 #[.int .u8 (k.toNat : Int), v] w fun e w' => e = .returned (.bool true) ∧ w.grownBy w' none := by
  have hv0 := hv
  obtain ⟨a, cap, rfl, hc, hps⟩ := hv
  have HV0 : Hid (ListIs w (.slice a ps.length cap) ps) := hv0
  clear hv0
  go_enter Tryd.func4, Tryd.ntmps4
  go_wp2_with fail
  go_loopw [5, 6] (fun cv i wr => ∃ m : Nat, m ≤ ps.length ∧ i = .int .i64 (m : Int) ∧ ∃ vs, vs.length = m ∧ OwnL w.heap.size wr cv vs ∧ (∀ i, i < m → Own w.heap.size wr (vs.getD i undef) (ps.getD i [])) ∧ w.grownBy wr none) (fun _ i _ => ps.length - (intOf i).toNat)
  case atStart => exact ⟨0, by omega, rfl, [], rfl, ownL_nil _ _, by intro i hi; omega, grown_refl _ _⟩
  case round =>
    obtain ⟨m, hmn, rfl, vs, hvl, hown, hparts, hg⟩ := hrel
    obtain ⟨ca, ccap, rfl⟩ := hown.shape
    by_cases hlt : m < ps.length
    · obtain ⟨b, o, rfl, hcells⟩ : ∃ b o, a = some ⟨b, o, none⟩ ∧ ∀ i, i < ps.length → ∃ vi, w.cell? ⟨b, o + i, none⟩ = some vi ∧ SliceIs w vi (ps.getD i []) := by
        rcases hps with rfl | h
        · simp at hlt
        · exact h
      obtain ⟨vi, hvi, hsi⟩ := hcells m hlt
      have hci := hg.cell hvi (by simp)
      have hpm := hms m hlt
      have hoc := octets_any wr vi _ (hsi.grown hg) (by omega)
      have HOC : Hid (Calls Tryd.prog 9 #[vi] wr fun e w' => ∃ v', e = .returned v' ∧ Own wr.heap.size w' v' (ps.getD m []) ∧ wr.grownBy w' none) := hoc
      clear hcells hvi hsi hoc hps hms ht hpm
      have HPT : Hid (∀ i, i < m → Own w.heap.size wr (vs.getD i undef) (ps.getD i [])) := hparts
      generalize hPm : ps.getD m [] = P at *
      have HPM : Hid (ps.getD m [] = P) := hPm
      clear hPm
      have HVL : Hid (vs.length = m) := hvl
      clear hparts
      have i1 : (m : Int) < (ps.length : Int) := by omega
      have hvl2 : vs.length < ps.length := by omega
      clear hvl
      go_wp2_with fail
      refine HOC.out.mono ?_
      rintro e w1 ⟨v1, rfl, ho1, hg1⟩
      have hown1 := hown.grownNone hg1
      have hz1 := (grown_trans hg hg1).size
      have hc1 := ho1.oneCell
      obtain ⟨a1, cap1, rfl⟩ := ho1.shape
      clear HOC hci
      go_wp2_with (at_builtin; refine wpList_append_part (w0 := w1) rfl (.tmp 17) (.tmp 23) rfl w.heap.size (.slice ca vs.length ccap) vs rfl (.slice a1 P.length cap1) hc1 rfl hown1 rfl (by omega) hz1 ?_; intro v2 w2 ho2 hg2)
      have hgw := grown_ownL (grown_alloc (grown_trans hg hg1) _) (World.ownsRow.alloc hown1 _) hg2
      go_roundw
      case rel =>
        have hvl := HVL.out
        generalize (Value.slice a1 P.length cap1) = v1 at *
        refine ⟨m + 1, by omega, by go_num, vs ++ [v1], by simp [hvl], ho2, ?_, hgw⟩
        intro i hi
        by_cases him : i < m
        · have e : (vs ++ [v1]).getD i undef = vs.getD i undef := by simp [List.getElem?_append, show i < vs.length by omega]
          rw [e]
          exact (((HPT.out i him).grownNone hg1).alloc _).keptL (World.ownsRow.alloc hown1 _) hg2
        · obtain rfl : i = m := by omega
          have e : (vs ++ [v1]).getD i undef = v1 := by simp [← hvl]
          rw [e, HPM.out]
          exact own_mono ((ho1.alloc _).keptL (World.ownsRow.alloc hown1 _) hg2) hg.size
      case measure => simp [intOf]; omega
    · obtain rfl : m = ps.length := by omega
      have hL := hown.list hvl hparts
      have hT := ht.grownNone hg
      have hP := parts_any wr k _ ps hL (by unfold maxLen; omega) (fun i hi => by have := hms i hi; unfold maxLen; omega) hT
      clear hown hparts hL hT
      rw [hvl] at hP ⊢
      clear hvl
      have HP : Hid (Calls Tryd.prog 13 #[.int .u8 (k.toNat : Int), .slice ca ps.length ccap] wr fun e w' => wr.grownBy w' none ∧ (((joinF k ps).length ≤ 4000 ∧ ∃ nb, wr.heap.size ≤ nb ∧ e = .returned (.tuple #[.slice (some ⟨nb, 0, none⟩) 32 32, .int .i64 0]) ∧ Bytes w' nb (sumF (joinF k ps))) ∨ (4000 < (joinF k ps).length ∧ e = .returned (.tuple #[.slice none 0 0, .int .i64 1])))) := hP
      clear hP
      have HQ : Hid (∀ W, w.grownBy W none → Calls Tryd.prog 14 #[.int .u8 (k.toNat : Int), .slice a ps.length cap] W fun e w' => W.grownBy w' none ∧ (((joinF k ps).length ≤ 4000 ∧ ∃ v', e = .returned (.tuple #[v', .int .i64 0]) ∧ SliceIs w' v' (sumF (joinF k ps))) ∨ (4000 < (joinF k ps).length ∧ e = .returned (.tuple #[.slice none 0 0, .int .i64 1])))) := fun W hW => partsOf_any W k _ ps (HV0.out.grown hW) (by unfold maxLen; omega) hms
      have q32 := sumF_len (joinF k ps)
      generalize sumF (joinF k ps) = D at *
      generalize (joinF k ps).length = n at *
      clear HV0 hms ht hps hc
      go_wp2_with fail
      refine HP.out.mono ?_
      rintro e w1 ⟨hg1, h1⟩
      have g1 := grown_trans hg hg1
      rcases h1 with ⟨hn, nb, _, rfl, hb1⟩ | ⟨hn, rfl⟩
      · go_wp2_with fail
        refine (HQ.out w1 g1).mono ?_
        rintro e w2 ⟨hg2, h2⟩
        rcases h2 with ⟨_, v2, rfl, hs2⟩ | ⟨hn2, _⟩
        · have ha := (hb1.grown hg2 (by simp)).slice32 q32
          go_wp2_with fail
          refine (sameBytes_any _ _ _ D D ha hs2).mono ?_
          rintro e w4 ⟨rfl, rfl⟩
          rw [decide_eq_true (rfl : D = D)]
          go_wp2
          go_ret
          exact ⟨rfl, grown_trans g1 hg2⟩
        · omega
      · go_wp2_with fail
        refine (HQ.out w1 g1).mono ?_
        rintro e w2 ⟨hg2, h2⟩
        rcases h2 with ⟨hn2, _⟩ | ⟨_, rfl⟩
        · omega
        · go_wp2_with fail
          refine (sameBytes_any _ _ _ [] [] (sliceIs_nil _) (sliceIs_nil _)).mono ?_
          rintro e w4 ⟨rfl, rfl⟩
          rw [decide_eq_true (rfl : ([] : List UInt8) = [])]
          go_wp2
          go_ret
          exact ⟨rfl, grown_trans g1 hg2⟩
end Go.Proofs.YtpkegibjoieemaaDoor
