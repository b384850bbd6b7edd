/-
  lines.Read, as it landed, keeps P10.4.
-/
import Derived.Test.YtpefggkhjocanaaDoorLnLo
import Derived.Test.YtpefggkhjocanaaDoorLnAo
import Derived.Test.YtpefggkhjocanaaDoorLnRd
namespace Go.Proofs.YtpefggkhjocanaaDoor
open Go.RowKit Go.Shelf
attribute [local go_sem] Oper.semAt_some
theorem PartIs.keptN {X Y : World} {v : Value} {bs : List UInt8} {row : Option Nat} (h : PartIs 0 X v bs) (hg : X.grownBy Y row) (hr : ∀ r, row = some r → ∃ o : Obj, X.heap[r]? = some o ∧ o.isCells = false) : PartIs 0 Y v bs := by
  obtain ⟨⟨a, cap, rfl, hc, h1⟩, h2⟩ := h
  refine ⟨⟨a, cap, rfl, hc, ?_⟩, ?_⟩
  · rcases h1 with h1 | ⟨b, o, rfl, h1⟩
    · exact .inl h1
    · exact .inr ⟨b, o, rfl, fun i hi => cell_kept (h1 i hi) hg hr⟩
  · rcases h2 with h2 | ⟨b, e, hl, h2⟩
    · exact .inl h2
    · rcases h2 with h2 | ⟨cur, fz, h2⟩
      · omega
      · refine .inr ⟨b, e, Nat.lt_of_lt_of_le hl hg.size, .inr ⟨cur, fz, ?_⟩⟩
        rw [hg.block b hl ?_]
        · exact h2
        · intro e'
          obtain ⟨o, ho, hc⟩ := hr b e'.symm
          rw [h2] at ho
          cases ho
          cases hc
theorem OwnA.keptN {rb : Nat} {X Y : World} {v : Value} {l : List Ac} {row : Option Nat} (h : OwnA rb X v l) (hg : X.grownBy Y row) (hr : ∀ r, row = some r → ∃ o : Obj, X.heap[r]? = some o ∧ o.isCells = false) : OwnA rb Y v l := by
  have hrow := h.row
  obtain ⟨us, h1, h2, h3⟩ := h
  refine ⟨us, h1, World.ownsRow.kept h2 hg ?_, fun x hx => (h3 x hx).keptN hg hr⟩
  rcases hrow with h | ⟨g, cur, fz, e, _, hgg⟩
  · exact .inl h
  · right
    rw [e]
    intro e'
    obtain ⟨o, ho, hc⟩ := hr g e'.symm
    rw [hgg] at ho
    cases ho
    cases hc
theorem wpListIn_append_ac {F : Fence} {n : Nat} {w : World} {ops : Array Oper} {rest : List Oper} {o : Oper} {a : Act} {Q : Exit → Act → World → Prop} (hgd : o.guard = none) (s x : Operand)
    (ho : o.op = .call { callee := .builtin .append, args := #[s, x], argTypes := #[22, 22] }) (rb : Nat) (v : Value) (l : List Ac) (hs : a.eval s = v) (hown : OwnA rb w v l)
    (vd : Value) (r : Ac) (h1 : PartIs 0 w vd r.data) (nb : Nat) (hb : w.heap[nb]? = some (.cells #[.int .i64 r.kind, .int .i64 r.sess, .int .i64 r.keep, vd] 36))
    (hx : a.eval x = .slice (some ⟨nb, 0, none⟩) 1 1) (hl : (l.length + 1) * 48 ≤ 140737488355328) (hbase : rb ≤ w.heap.size)
    (h : ∀ v' w', OwnA rb w' v' (l ++ [r]) → w.grownBy w' v.ownBlock → wpListIn F n Tryd.prog ops Q rest (a.put o.dst v') w') : wpListIn F n Tryd.prog ops Q (o :: rest) a w := by
  obtain ⟨i0, hi, hz0, hz1, hz2⟩ := info_parts infoAc
  have hrow : v.ownBlock = none ∨ ∃ g cur t fz, v.ownBlock = some g ∧ 0 ≤ g ∧ w.heap[g]? = some (.cells cur t fz) ∧ t ≠ 5 := by
    rcases hown.row with h | ⟨g, cur, fz, e, _, h⟩
    · exact .inl h
    · exact .inr ⟨g, cur, _, fz, e, Nat.zero_le _, h, acT5⟩
  obtain ⟨us, hul, hr, hp⟩ := hown
  refine wpListIn_append_own w hgd s x 22 ho rb 36 i0 (.agg #[.int .i64 0, .int .i64 0, .int .i64 0, .slice none 0 0]) 4 48 Tryd.underlying22 hi hz0 hz1 hz2 rfl (by decide) v l.length (flatA us) hs hr ⟨nb, 0, none⟩ 1 1 (flatA [(r, vd)]) hx rfl (World.news_of_block (cs := #[.int .i64 r.kind, .int .i64 r.sess, .int .i64 r.keep, vd]) hb) ?_ (by unfold maxLen; omega) hl hbase ?_
  · intro u hu
    simp only [flatA, List.flatMap_cons, List.flatMap_nil, List.append_nil, List.mem_cons, List.not_mem_nil, or_false] at hu
    rcases hu with rfl | rfl | rfl | rfl
    · rfl
    · rfl
    · rfl
    · exact part_oneCell h1
  · intro v' w' q1 q2 _
    refine h _ w' ⟨us ++ [(r, vd)], by simp [hul], ?_, ?_⟩ q2
    · rw [flatA_append, List.length_append]; exact q1
    · intro y hy
      rcases List.mem_append.1 hy with hy | hy
      · exact (hp y hy).keptT q2 hrow
      · simp only [List.mem_cons, List.not_mem_nil, or_false] at hy
        subst hy
        exact h1.keptT q2 hrow
/-- Between two lines. -/
def RdI (w : World) (pre : List Ln) (W : World) : Prop := ((Boxed W w.heap.size 22 (.slice none 0 0) ∧ Boxed W (w.heap.size + 1) 3 (.int .i64 0) ∧ Boxed W (w.heap.size + 1 + 1) 24 (.int .i64 0)) ∧ ∃ v ks, Boxed W (w.heap.size + 1 + 1 + 1) 22 v ∧ OwnA (w.heap.size + 1 + 1 + 1 + 1 + 1) W v ks ∧ Tell (pre.map (fun x : Ln => x.1)) ks ∧ ks.length ≤ 100000) ∧ Below w.heap.size w W
/-- Behind a line at which it ends. -/
def RdX (w : World) (c : Code) (pre : List Ln) (W : World) : Prop := (c = Code.ret ∧ Boxed W w.heap.size 22 (.slice none 0 0) ∧ ∃ (ks : List Ac) (pl : List (List UInt8)) (L : List UInt8) (e : Int), pre.map (fun x : Ln => x.1) = pl ++ [L] ∧ Tell pl ks ∧ Boxed W (w.heap.size + 1) 3 (.int .i64 (pl.length : Int)) ∧ Boxed W (w.heap.size + 1 + 1) 24 (.int .i64 e) ∧ ((pl.length = 100000 ∧ e = 11) ∨ (pl.length < 100000 ∧ e = 4 ∧ ∀ a, ActOK a → L ≠ lineF a ++ [10]))) ∧ Below w.heap.size w W
set_option maxRecDepth 100000 in
set_option maxHeartbeats 4000000 in
theorem lnread_ok : LnReadOK := by
  intro w S hT
  have eS : S = textOf (tl S) := (text_tl S).symm
  rw [eS, tl_text]
  generalize tl S = t at *
  clear eS
  by_cases hL : 2000000 < t.length
  · obtain ⟨e1, e2, e3⟩ := read_long hL
    rw [e1, e2, e3]
    have t1 : ((textOf t).size : Int) > 2000000 := by rw [tl_size, tl_text]; omega
    have bE := Boxed.new ((w.alloc (.cells #[.slice none 0 0] 22)).alloc (.cells #[.int .i64 0] 3)) 24 (.int .i64 0)
    have bP := (Boxed.new (w.alloc (.cells #[.slice none 0 0] 22)) 3 (.int .i64 0)).alloc (.cells #[.int .i64 0] 24)
    have bR := ((Boxed.new w 22 (.slice none 0 0)).alloc (.cells #[.int .i64 0] 3)).alloc (.cells #[.int .i64 0] 24)
    simp only [World.size_alloc] at bE bP
    have hgF : w.grownBy (((w.alloc (.cells #[.slice none 0 0] 22)).alloc (.cells #[.int .i64 0] 3)).alloc (.cells #[.int .i64 0] 24)) none := grown_alloc (grown_alloc (World.grownBy_alloc _ _ _) _) _
    obtain ⟨W0, hW0⟩ : ∃ W0, W0 = ((w.alloc (.cells #[.slice none 0 0] 22)).alloc (.cells #[.int .i64 0] 3)).alloc (.cells #[.int .i64 0] 24) := ⟨_, rfl⟩
    have HW0 : Hid (W0 = ((w.alloc (.cells #[.slice none 0 0] 22)).alloc (.cells #[.int .i64 0] 3)).alloc (.cells #[.int .i64 0] 24)) := hW0
    rw [← hW0] at bE bP bR hgF
    clear hW0 e1 e2 e3 hL hT
    have c0 := bR.cell
    have c1 := bP.cell
    have c2 := bE.cell
    have f0 := bR.frozen
    have f1 := bP.frozen
    have f2 := bE.frozen
    go_enter Tryd.func12, Tryd.ntmps12
    go_upto_region 1 with fail
    rw [← HW0.out]
    clear HW0
    go_wp2
    have k0 := (((bR.set (.slice none 0 0)).other (B' := w.heap.size + 1) (by omega) (.int .i64 0)).other (B' := w.heap.size + 1 + 1) (by omega) (.int .i64 1)).cell
    have k1 := (((bP.other (B' := w.heap.size) (by omega) (.slice none 0 0)).set (.int .i64 0)).other (B' := w.heap.size + 1 + 1) (by omega) (.int .i64 1)).cell
    have k2 := (((bE.other (B' := w.heap.size) (by omega) (.slice none 0 0)).other (B' := w.heap.size + 1) (by omega) (.int .i64 0)).set (.int .i64 1)).cell
    refine bodyPost_ret (v := .tuple #[.slice none 0 0, .int .i64 0, .int .i64 1]) (by simp [results, Tryd.results12, go_sem, k0, k1, k2]) rfl ?_
    exact ⟨_, rfl, actsIs_nil _, grown_setNew (grown_setNew (grown_setNew hgF _ (Nat.le_refl _) _ _) _ (by omega) _ _) _ (by omega) _ _⟩
  · have hL' : t.length ≤ 2000000 := by omega
    have t1 : ¬ ((textOf t).size : Int) > 2000000 := by rw [tl_size, tl_text]; omega
    refine (callsIn_wide (n := 6)).1 ?_
    refine callsIn_of_wp_marks Tryd.func12 rfl trivial ?_ rfl
    simp only [Tryd.ntmps12, List.size_toArray, List.length_cons, List.length_nil, Nat.reduceAdd, Nat.reduceSub, Array.replicate_succ, Array.replicate_zero, List.push_toArray, List.append_toArray, List.nil_append, List.cons_append]
    gi_wp2_with (refine ⟨trivial, ?_⟩; gi_at_call 26; refine (linesOf_in _ _ _).mono ?_; rintro e w3 ⟨rfl, rfl⟩)
    have bC := Boxed.new ((((w.alloc (.cells #[.slice none 0 0] 22)).alloc (.cells #[.int .i64 0] 3)).alloc (.cells #[.int .i64 0] 24)).alloc (.cells #[.slice none 0 0] 22)) 9 (.string (textOf t))
    have bO := (Boxed.new (((w.alloc (.cells #[.slice none 0 0] 22)).alloc (.cells #[.int .i64 0] 3)).alloc (.cells #[.int .i64 0] 24)) 22 (.slice none 0 0)).alloc (.cells #[.string (textOf t)] 9)
    have bE := ((Boxed.new ((w.alloc (.cells #[.slice none 0 0] 22)).alloc (.cells #[.int .i64 0] 3)) 24 (.int .i64 0)).alloc (.cells #[.slice none 0 0] 22)).alloc (.cells #[.string (textOf t)] 9)
    have bP := (((Boxed.new (w.alloc (.cells #[.slice none 0 0] 22)) 3 (.int .i64 0)).alloc (.cells #[.int .i64 0] 24)).alloc (.cells #[.slice none 0 0] 22)).alloc (.cells #[.string (textOf t)] 9)
    have bR := ((((Boxed.new w 22 (.slice none 0 0)).alloc (.cells #[.int .i64 0] 3)).alloc (.cells #[.int .i64 0] 24)).alloc (.cells #[.slice none 0 0] 22)).alloc (.cells #[.string (textOf t)] 9)
    simp only [World.size_alloc] at bC bO bE bP
    have hgF : w.grownBy (((((w.alloc (.cells #[.slice none 0 0] 22)).alloc (.cells #[.int .i64 0] 3)).alloc (.cells #[.int .i64 0] 24)).alloc (.cells #[.slice none 0 0] 22)).alloc (.cells #[.string (textOf t)] 9)) none := grown_alloc (grown_alloc (grown_alloc (grown_alloc (World.grownBy_alloc _ _ _) _) _) _) _
    have hB0 := grown_belowB hgF (Nat.le_refl _)
    have hszF : (((((w.alloc (.cells #[.slice none 0 0] 22)).alloc (.cells #[.int .i64 0] 3)).alloc (.cells #[.int .i64 0] 24)).alloc (.cells #[.slice none 0 0] 22)).alloc (.cells #[.string (textOf t)] 9)).heap.size = w.heap.size + 1 + 1 + 1 + 1 + 1 := by simp
    obtain ⟨W0, hW0⟩ : ∃ W0, (((((w.alloc (.cells #[.slice none 0 0] 22)).alloc (.cells #[.int .i64 0] 3)).alloc (.cells #[.int .i64 0] 24)).alloc (.cells #[.slice none 0 0] 22)).alloc (.cells #[.string (textOf t)] 9)) = W0 := ⟨_, rfl⟩
    rw [hW0] at hgF hB0 hszF bC bO bE bP bR ⊢
    clear hW0
    have HI : OwnFrom W0.heap.size (RdI w) := by
      intro pre X Y row hs hg hr
      obtain ⟨⟨⟨h1, h2, h3⟩, v, ks, h4, h5, h6, h7⟩, h8⟩ := hs
      have hr' : ∀ r, row = some r → ∃ o : Obj, X.heap[r]? = some o ∧ o.isCells = false := fun r e => (hr r e).2
      have bo : ∀ {B : Nat} {t : TypeId} {v : Value}, Boxed X B t v → Boxed Y B t v := fun {B t v} h => boxed_own B t (fun (_ : Unit) => v) () X Y row h hg hr'
      exact ⟨⟨⟨bo h1, bo h2, bo h3⟩, v, ks, bo h4, h5.keptN hg hr', h6, h7⟩, ownFrom_below (β := Unit) (Nat.le_refl _) (by rw [hszF]; omega) () X Y row h8 hg hr⟩
    have HIx : ∀ c, OwnFrom W0.heap.size (RdX w c) := by
      intro c pre X Y row hs hg hr
      obtain ⟨⟨h0, h1, ks, pl, L, e, h2, h3, h4, h5, h6⟩, h8⟩ := hs
      have hr' : ∀ r, row = some r → ∃ o : Obj, X.heap[r]? = some o ∧ o.isCells = false := fun r e => (hr r e).2
      have bo : ∀ {B : Nat} {t : TypeId} {v : Value}, Boxed X B t v → Boxed Y B t v := fun {B t v} h => boxed_own B t (fun (_ : Unit) => v) () X Y row h hg hr'
      exact ⟨⟨h0, bo h1, ks, pl, L, e, h2, h3, bo h4, bo h5, h6⟩, ownFrom_below (β := Unit) (Nat.le_refl _) (by rw [hszF]; omega) () X Y row h8 hg hr⟩
    have HT : Hid (∀ W, Below w.heap.size w W → LnT W) := fun W h => hT.grown (belowB_grown h)
    refine wpIn_rangeFunc_ownF rfl (by omega) (gf := 38) (lb := #[.pointer (some ⟨w.heap.size + 1 + 1 + 1 + 1, 0, none⟩)]) rfl trivial (enters_of Tryd.func38 (by kernel_rfl) rfl)
      (lines_stops 5 (by omega) (w.heap.size + 1 + 1 + 1 + 1) w.heap.size t hL' W0 (by omega) bC.cell)
      belowK_t (belowK_b (by rw [hszF]; omega)) (Below.refl _ _) (fun _ => rfl)
      (RdI w) (RdX w) HI HIx
      ⟨⟨⟨bR, bP, bE⟩, _, [], bO, ownA_nil _ _, trivial, by simp⟩, hB0⟩
      (fun x => { tmps := #[.string (textOf t), undef, .pointer (some ⟨w.heap.size, 0, none⟩), .pointer (some ⟨w.heap.size + 1, 0, none⟩), .pointer (some ⟨w.heap.size + 1 + 1, 0, none⟩), .pointer (some ⟨w.heap.size + 1 + 1 + 1, 0, none⟩), .string (textOf x.1), undef, undef, undef, .string (textOf t), .int .i64 ((textOf t).size : Int), .bool false, .string (textOf t), .func (.func 38) #[] #[.pointer (some ⟨w.heap.size + 1 + 1 + 1 + 1, 0, none⟩)], .string (textOf x.1), undef, undef, undef, undef, undef, undef, undef, undef, undef, undef, undef, undef, undef, undef, undef, undef, undef, undef], defers := [] }) ?assign ?body ?done ?stop
    case assign =>
      intro l x W K hK
      gi_wp2
      exact hK
    case body =>
      rintro l pre x W ⟨⟨⟨b0, b1, b2⟩, v, ks, b3, hown, hT1, hle⟩, hB⟩ hlt
      obtain ⟨va, vc, rfl⟩ := hown.shape
      have HOW : Hid (OwnA (w.heap.size + 1 + 1 + 1 + 1 + 1) W (.slice va ks.length vc) ks) := hown
      have HTE : Hid (Tell (pre.map (fun x : Ln => x.1)) ks) := hT1
      have HPX : Hid ((pre ++ [x]).map (fun x : Ln => x.1) = pre.map (fun x : Ln => x.1) ++ [x.1]) := by show _ = _; simp
      have hpl : Hid ((pre.map (fun x : Ln => x.1)).length = ks.length) := hT1.len.symm
      have c3 := b3.cell
      clear hown hT1
      by_cases hfull : ks.length = 100000
      · have c0 := b0.cell
        have c1 := b1.cell
        have c2 := b2.cell
        have f0 := b0.frozen
        have f1 := b1.frozen
        have f2 := b2.frozen
        gi_wp2
        refine ⟨((KeepsOthers.setCell _ _ _).trans (KeepsOthers.setCell _ _ _)).trans (KeepsOthers.setCell _ _ _), ⟨rfl, ((b0.set _).other (by omega) _).other (by omega) _, ks, _, x.1, 11, HPX.out, HTE.out, ?_, (((b2.other (by omega) _).other (by omega) _).set _), .inl ⟨by rw [hpl.out, hfull], rfl⟩⟩, ?_⟩
        · rw [hpl.out, hfull]
          exact ((b1.other (by omega) _).set _).other (by omega) _
        · exact ((hB.setCell (p := ⟨w.heap.size, 0, none⟩) (Nat.le_refl _) _).setCell (p := ⟨w.heap.size + 1, 0, none⟩) (by show w.heap.size ≤ w.heap.size + 1; omega) _).setCell (p := ⟨w.heap.size + 1 + 1, 0, none⟩) (by show w.heap.size ≤ w.heap.size + 1 + 1; omega) _
      · have hne : ((ks.length : Int) == 100000) = false := by simp; omega
        have hne2 : ¬ (ks.length : Int) = 100000 := by omega
        have hkl : ks.length < 100000 := by omega
        have AO : Hid (Calls Tryd.prog 27 #[.string (textOf x.1)] W fun e w' => ∃ a vd z, e = .returned (.tuple #[.agg #[.int .i64 a.kind, .int .i64 a.sess, .int .i64 a.keep, vd], .bool z]) ∧ PartIs 0 w' vd a.data ∧ LineIs x.1 a z ∧ W.grownBy w' none) := actOf_any W x.1 x.2 (HT.out W hB)
        clear hT HI HIx
        gi_wp2_with (refine ⟨trivial, ?_⟩; gi_at_call 27; refine (CallsIn.inRound l (callsIn_wide.2 AO.out)).mono ?_)
        rintro e w1 ⟨a, vd, z, rfl, hp1, hli, hg1⟩
        obtain ⟨da, dc, rfl⟩ := hp1.1.shape
        have hs1 := hg1.size
        have hl3 := b3.lt
        obtain ⟨W2, HW2, hg2, BX⟩ := alloc_namedR w1 (.cells #[.int .i64 a.kind, .int .i64 a.sess, .int .i64 a.keep, .slice da a.data.length dc] 36)
        have hg02 := grown_trans hg1 hg2
        have hB2 := hB.trans (grown_belowB hg02 hB.size)
        have b02 := b0.kept hg02 (by simp)
        have b12 := b1.kept hg02 (by simp)
        have b22 := b2.kept hg02 (by simp)
        have b32 := b3.kept hg02 (by simp)
        have HP2 : Hid (PartIs 0 W2 (.slice da a.data.length dc) a.data) := hp1.keptT hg2 (.inl rfl)
        have HLI : Hid (LineIs x.1 a z) := hli
        clear hp1 hli c3 b0 b1 b2 b3
        cases z with
        | false =>
          have c0 := b02.cell
          have c1 := b12.cell
          have c2 := b22.cell
          have f0 := b02.frozen
          have f1 := b12.frozen
          have f2 := b22.frozen
          have HND : Hid (∀ a, ActOK a → x.1 ≠ lineF a ++ [10]) := by
            rcases HLI.out with ⟨e, _⟩ | ⟨_, h⟩
            · cases e
            · exact h
          have hW2 := HW2.out
          rw [hW2] at c0 c1 c2 f0 f1 f2
          gi_wp2
          rw [← hW2]
          refine ⟨(((KeepsOthers.of_grownBy hg02 (fun j o e => by cases e)).trans (KeepsOthers.setCell _ _ _)).trans (KeepsOthers.setCell _ _ _)).trans (KeepsOthers.setCell _ _ _), ⟨rfl, ((b02.set _).other (by omega) _).other (by omega) _, ks, _, x.1, 4, HPX.out, HTE.out, ?_, (((b22.other (by omega) _).other (by omega) _).set _), .inr ⟨by rw [hpl.out]; exact hkl, rfl, HND.out⟩⟩, ?_⟩
          · rw [hpl.out]
            exact ((b12.other (by omega) _).set _).other (by omega) _
          · exact ((hB2.setCell (p := ⟨w.heap.size, 0, none⟩) (Nat.le_refl _) _).setCell (p := ⟨w.heap.size + 1, 0, none⟩) (by show w.heap.size ≤ w.heap.size + 1; omega) _).setCell (p := ⟨w.heap.size + 1 + 1, 0, none⟩) (by show w.heap.size ≤ w.heap.size + 1 + 1; omega) _
        | true =>
          obtain ⟨hok, hln⟩ : ActOK a ∧ x.1 = lineF a ++ [10] := by
            rcases HLI.out with ⟨_, h⟩ | ⟨e, _⟩
            · exact h
            · cases e
          have HTN : Hid (Tell ((pre ++ [x]).map (fun x : Ln => x.1)) (ks ++ [a])) := by
            show Tell _ _
            rw [HPX.out]
            exact HTE.out.snoc hok hln
          have hW2 := HW2.out
          obtain ⟨⟨x0, x1, x2, x3⟩, _⟩ := quad_room (grown_refl W2 none) BX.out
          obtain ⟨W3, HW3, hg3, BN⟩ := alloc_namedR W2 (.cells #[.int .i64 a.kind, .int .i64 a.sess, .int .i64 a.keep, .slice da a.data.length dc] 36)
          have hg03 := grown_trans hg02 hg3
          have hW3 := HW3.out
          have c3 := b32.cell
          have O3 : OwnA (w.heap.size + 1 + 1 + 1 + 1 + 1) W3 (.slice va ks.length vc) ks := HOW.out.grownNone hg03
          have P3 : PartIs 0 W3 (.slice da a.data.length dc) a.data := HP2.out.keptT hg3 (.inl rfl)
          have hz2 : W2.heap.size = w1.heap.size + 1 := by rw [hW2]; simp
          have hs3 : w.heap.size + 1 + 1 + 1 + 1 + 1 ≤ W3.heap.size := by have h2 := hg3.size; have h3 := hg1.size; omega
          have hB3 := hB2.trans (grown_belowB hg3 hB2.size)
          have b03 := b02.kept hg3 (by simp)
          have b13 := b12.kept hg3 (by simp)
          have b23 := b22.kept hg3 (by simp)
          have b33 := b32.kept hg3 (by simp)
          have HNN : Hid (W3.heap[W2.heap.size]? = some (.cells #[.int .i64 a.kind, .int .i64 a.sess, .int .i64 a.keep, .slice da a.data.length dc] 36)) := BN.out
          have HB3 : Hid (Below w.heap.size w W3) := hB3
          have H3 : Hid (Boxed W3 w.heap.size 22 (.slice none 0 0) ∧ Boxed W3 (w.heap.size + 1) 3 (.int .i64 0) ∧ Boxed W3 (w.heap.size + 1 + 1) 24 (.int .i64 0) ∧ Boxed W3 (w.heap.size + 1 + 1 + 1) 22 (.slice va ks.length vc)) := ⟨b03, b13, b23, b33⟩
          have HO3 : Hid (OwnA (w.heap.size + 1 + 1 + 1 + 1 + 1) W3 (.slice va ks.length vc) ks) := O3
          have HP3 : Hid (PartIs 0 W3 (.slice da a.data.length dc) a.data) := P3
          have HK : Hid (KeepsOthers W W3) := KeepsOthers.of_grownBy hg03 (fun j o e => by cases e)
          have HBW : Hid (Below w.heap.size W W3) := grown_belowB hg03 hB.size
          rw [hW2] at c3 x0 x1 x2 x3
          have e3 : W3 = (w1.alloc (.cells #[.int .i64 a.kind, .int .i64 a.sess, .int .i64 a.keep, .slice da a.data.length dc] 36)).alloc (.cells #[.int .i64 a.kind, .int .i64 a.sess, .int .i64 a.keep, .slice da a.data.length dc] 36) := by rw [hW3, hW2]
          have HE3 : Hid (W3 = (w1.alloc (.cells #[.int .i64 a.kind, .int .i64 a.sess, .int .i64 a.keep, .slice da a.data.length dc] 36)).alloc (.cells #[.int .i64 a.kind, .int .i64 a.sess, .int .i64 a.keep, .slice da a.data.length dc] 36)) := e3
          have HZ2 : Hid (W2.heap.size = w1.heap.size + 1) := hz2
          clear hW3 hW2 e3 HW2 HW3 BX BN hg3 hg2 hg02 hg03 b02 b12 b22 b32 b03 b13 b23 b33 HP2 HOW O3 P3 hz2 hB2 hB3 hg1 hs1 HLI
          gi_wp2_with (gi_at_builtin; rw [← HE3.out]; refine wpListIn_append_ac rfl _ _ rfl (w.heap.size + 1 + 1 + 1 + 1 + 1) (.slice va ks.length vc) ks rfl HO3.out (.slice da a.data.length dc) a HP3.out (w1.heap.size + 1) (by rw [← HZ2.out]; exact HNN.out) rfl (by omega) hs3 ?_; intro v4 w4 ho4 hg4; obtain ⟨va4, vc4, rfl⟩ := ho4.shape; have r3 := H3.out.2.2.2.kept hg4 (fun e => by have := (HO3.out.lt _ e.symm).1; omega); have cc := r3.cell; have ff := r3.frozen; have HO4 : Hid (OwnA (w.heap.size + 1 + 1 + 1 + 1 + 1) w4 (.slice va4 (ks ++ [a]).length vc4) (ks ++ [a])) := ho4; clear ho4)
          obtain ⟨q0, q1, q2, q3⟩ := H3.out
          have n4 : ∀ B, B < w.heap.size + 1 + 1 + 1 + 1 + 1 → some B ≠ (Value.slice va ks.length vc).ownBlock := fun B hb e => by have := (HO3.out.lt _ e.symm).1; omega
          have hw4 := hg4.size
          have hK4 : KeepsOthers W3 w4 := KeepsOthers.of_grownBy hg4 (fun j o e ho => by
            rcases HO3.out.row with h | ⟨g, cur, fz, h1, _, h2⟩
            · rw [h] at e; cases e
            · rw [h1] at e; cases e; rw [h2] at ho; cases ho; rfl)
          have hB4 : Below w.heap.size W3 w4 := ⟨hg4.os, hg4.tape, hg4.output, hg4.size, fun k hk => hg4.block k (by omega) (fun e => by have := (HO3.out.lt _ e.symm).1; omega)⟩
          have hset : (Below w.heap.size w4 (w4.setCell ⟨w.heap.size + 1 + 1 + 1, 0, none⟩ (.slice va4 (ks ++ [a]).length vc4))) := (Below.refl _ _).setCell (p := ⟨w.heap.size + 1 + 1 + 1, 0, none⟩) (by show w.heap.size ≤ w.heap.size + 1 + 1 + 1; omega) _
          have hlen : (ks ++ [a]).length = ks.length + 1 := by simp
          have hF : RdI w (pre ++ [x]) (w4.setCell ⟨w.heap.size + 1 + 1 + 1, 0, none⟩ (.slice va4 (ks ++ [a]).length vc4)) := ⟨⟨⟨(q0.kept hg4 (n4 _ (by omega))).other (by omega) _, (q1.kept hg4 (n4 _ (by omega))).other (by omega) _, (q2.kept hg4 (n4 _ (by omega))).other (by omega) _⟩, _, ks ++ [a], r3.set _, HO4.out.later r3 (by decide) (grown_set (grown_refl w4 (some (w.heap.size + 1 + 1 + 1))) 0 _) (by omega), HTN.out, by omega⟩, (HB3.out.trans hB4).trans hset⟩
          rw [hlen] at hF hset
          first
            | exact ⟨(HK.out.trans hK4).trans (KeepsOthers.setCell _ _ _), (HBW.out.trans hB4).trans hset, hF⟩
            | (go_show; sorry)
    case done =>
      rintro D ys W hD hys ⟨⟨⟨b0, b1, b2⟩, v, ks, b3, hown, hT1, hle⟩, hB⟩ hK
      obtain ⟨va, vc, rfl⟩ := hown.shape
      have hkl := hT1.len
      have hrd := rd_all ks (splitL [] t) t [] rfl (by rw [← hys]; exact hT1) (by rw [← hys]; simp only [List.length_nil, Nat.zero_add]; omega)
      rw [List.nil_append] at hrd
      obtain ⟨e1, e2, e3⟩ := read_short hL' hrd
      have HRE : Hid (readE t = 0 ∧ readI t = 0 ∧ readL t = ks) := ⟨e1, e2, e3⟩
      have HOW : Hid (OwnA (w.heap.size + 1 + 1 + 1 + 1 + 1) W (.slice va ks.length vc) ks) := hown
      have c3 := b3.cell
      have c0 := b0.cell
      have c1 := b1.cell
      have c2 := b2.cell
      have f0 := b0.frozen
      have f1 := b1.frozen
      have f2 := b2.frozen
      clear e1 e2 e3 hrd hown hT1 hys HI HIx hkl
      gi_wp2
      have hK' := (((KeepsOthers.setCell W ⟨w.heap.size, 0, none⟩ (.slice va ks.length vc)).trans (KeepsOthers.setCell _ ⟨w.heap.size + 1, 0, none⟩ (.int .i64 0))).trans (KeepsOthers.setCell _ ⟨w.heap.size + 1 + 1, 0, none⟩ (.int .i64 0))).same D _ hK rfl
      refine ⟨by simp, .inl ⟨_, _, rfl, run_takeDeferred hK', ?_⟩⟩
      have hp := grownBy_putObj' (((W.setCell ⟨w.heap.size, 0, none⟩ (.slice va ks.length vc)).setCell ⟨w.heap.size + 1, 0, none⟩ (.int .i64 0)).setCell ⟨w.heap.size + 1 + 1, 0, none⟩ (.int .i64 0)) D (.deferred none)
      have hpr : ∀ r, some D = some r → ∃ o : Obj, (((W.setCell ⟨w.heap.size, 0, none⟩ (.slice va ks.length vc)).setCell ⟨w.heap.size + 1, 0, none⟩ (.int .i64 0)).setCell ⟨w.heap.size + 1 + 1, 0, none⟩ (.int .i64 0)).heap[r]? = some o ∧ o.isCells = false := fun r e => by cases e; exact ⟨_, hK', rfl⟩
      have k0 := cell_kept (((b0.set (.slice va ks.length vc)).other (by omega) (.int .i64 0)).other (B' := w.heap.size + 1 + 1) (by omega) (.int .i64 0)).cell hp hpr
      have k1 := cell_kept (((b1.other (B' := w.heap.size) (by omega) (.slice va ks.length vc)).set (.int .i64 0)).other (B' := w.heap.size + 1 + 1) (by omega) (.int .i64 0)).cell hp hpr
      have k2 := cell_kept (((b2.other (B' := w.heap.size) (by omega) (.slice va ks.length vc)).other (B' := w.heap.size + 1) (by omega) (.int .i64 0)).set (.int .i64 0)).cell hp hpr
      obtain ⟨e1, e2, e3⟩ := HRE.out
      refine ⟨.tuple #[.slice va ks.length vc, .int .i64 0, .int .i64 0], ?_, .slice va ks.length vc, ?_, ?_, ?_⟩
      · simp [results, Tryd.results12, go_sem, k0, k1, k2]
      · rw [e1, e2]; rfl
      · rw [e3]
        have o1 := HOW.out.later b0 (by decide) (grown_set (grown_refl W (some w.heap.size)) 0 (.slice va ks.length vc)) (by omega)
        have o2 := o1.later (b1.other (B' := w.heap.size) (by omega) _) (by decide) (grown_set (grown_refl _ (some (w.heap.size + 1))) 0 (.int .i64 0)) (by omega)
        have o3 := o2.later ((b2.other (B' := w.heap.size) (by omega) _).other (B' := w.heap.size + 1) (by omega) _) (by decide) (grown_set (grown_refl _ (some (w.heap.size + 1 + 1))) 0 (.int .i64 0)) (by omega)
        exact (o3.keptN hp hpr).list
      · exact belowB_grown ((((hB.setCell (p := ⟨w.heap.size, 0, none⟩) (Nat.le_refl _) _).setCell (p := ⟨w.heap.size + 1, 0, none⟩) (by show w.heap.size ≤ w.heap.size + 1; omega) _).setCell (p := ⟨w.heap.size + 1 + 1, 0, none⟩) (by show w.heap.size ≤ w.heap.size + 1 + 1; omega) _).trans (belowK_b (w := w) (Nat.le_refl _) _ D _ _ (by omega) hK' rfl rfl))
    case stop =>
      rintro D c pre W hD ⟨rest, hrest⟩ ⟨⟨rfl, b0, ks, pl, L, e, h2, h3, b1, b2, h6⟩, hB⟩ hK
      have hst := rd_stop ks pl t [] L rest (by rw [hrest, h2, List.append_assoc]; rfl) h3
      simp only [List.length_nil, Nat.zero_add] at hst
      have hRE : readE t = e ∧ readI t = pl.length ∧ readL t = [] := by
        rcases h6 with ⟨h7, rfl⟩ | ⟨h7, rfl, h8⟩
        · have := read_short hL' ((hst (by omega)).1 h7)
          rw [h7]; exact this
        · exact read_short hL' ((hst (by omega)).2 (by omega) h8)
      have HRE : Hid (readE t = e ∧ readI t = pl.length ∧ readL t = []) := hRE
      clear hst hRE h6 h2 h3 hrest HI HIx
      generalize pl.length = PL at *
      gi_wp2
      refine ⟨by simp, .inl ⟨_, _, rfl, run_takeDeferred hK, ?_⟩⟩
      have hp := grownBy_putObj' W D (.deferred none)
      have hpr : ∀ r, some D = some r → ∃ o : Obj, W.heap[r]? = some o ∧ o.isCells = false := fun r e => by cases e; exact ⟨_, hK, rfl⟩
      have k0 := cell_kept b0.cell hp hpr
      have k1 := cell_kept b1.cell hp hpr
      have k2 := cell_kept b2.cell hp hpr
      obtain ⟨e1, e2, e3⟩ := HRE.out
      refine ⟨.tuple #[.slice none 0 0, .int .i64 (PL : Int), .int .i64 e], ?_, .slice none 0 0, ?_, ?_, ?_⟩
      · simp [results, Tryd.results12, go_sem, k0, k1, k2]
      · rw [e1, e2]
      · rw [e3]; exact actsIs_nil _
      · exact belowB_grown (hB.trans (belowK_b (w := w) (Nat.le_refl _) W D _ _ (by omega) hK rfl rfl))
end Go.Proofs.YtpefggkhjocanaaDoor
