/-
  The document's answer: inserted.
-/
import Derived.Test.YtljdconhplgipaaGreatRChg1
import Derived.Test.YtljdconhplgipaaGreatPart4
import Derived.BigQuiet
import Derived.Deep.RegionWith
namespace Go.Proofs.YtljdconhplgipaaGreat
open Go.RowKit
def anyB (w : Plc) (l : List Plc) : Bool := l.any fun x => plt w x
theorem anyB_snoc (w x : Plc) (l : List Plc) : anyB w (l ++ [x]) = (anyB w l || plt w x) := by
  unfold anyB
  rw [List.any_append]
  simp
theorem ins_has : ∀ (l : List Plc) (w x : Plc), anyB w l = true → insW (l ++ [x]) w = insW l w ++ [x]
  | [], w, x, h => by cases h
  | y :: l, w, x, h => by
    show insW (y :: (l ++ [x])) w = _
    rw [insW, insW]
    by_cases hy : plt w y = true
    · rw [if_pos hy, if_pos hy]; rfl
    · rw [if_neg hy, if_neg hy, ins_has l w x (by
        unfold anyB at h ⊢
        rw [List.any_cons] at h
        simpa [hy] using h)]
      rfl
theorem ins_not : ∀ (l : List Plc) (w : Plc), anyB w l = false → insW l w = l ++ [w]
  | [], w, _ => rfl
  | y :: l, w, h => by
    unfold anyB at h
    rw [List.any_cons, Bool.or_eq_false_iff] at h
    rw [insW, if_neg (by rw [h.1]; simp), ins_not l w h.2]
    rfl
theorem ins_here : ∀ (l : List Plc) (w x : Plc), anyB w l = false → plt w x = true → insW (l ++ [x]) w = l ++ [w] ++ [x]
  | [], w, x, _, hx => by show insW [x] w = _; rw [insW, if_pos hx]; rfl
  | y :: l, w, x, h, hx => by
    unfold anyB at h
    rw [List.any_cons, Bool.or_eq_false_iff] at h
    show insW (y :: (l ++ [x])) w = _
    rw [insW, if_neg (by rw [h.1]; simp), ins_here l w x h.2 hx]
    rfl
/-- What is made behind the first so many. -/
def insTo (l : List Plc) (w : Plc) : List Plc := if anyB w l = true then insW l w else l
theorem insTo_nil (w : Plc) : insTo [] w = [] := rfl
theorem insTo_end (l : List Plc) (w : Plc) : insW l w = if anyB w l = true then insTo l w else insTo l w ++ [w] := by
  unfold insTo
  by_cases h : anyB w l = true
  · rw [if_pos h, if_pos h]
  · rw [if_neg h, if_neg h, ins_not l w (by simpa using h)]
theorem insTo_snoc (l : List Plc) (w x : Plc) : insTo (l ++ [x]) w = if anyB w l = true then insTo l w ++ [x] else (if plt w x = true then insTo l w ++ [w] ++ [x] else insTo l w ++ [x]) := by
  unfold insTo
  rw [anyB_snoc]
  by_cases h : anyB w l = true
  · rw [if_pos h, if_pos h, if_pos (by rw [h]; rfl), ins_has l w x h]
  · have h0 : anyB w l = false := by simpa using h
    rw [if_neg h, if_neg h, h0, Bool.false_or]
    by_cases hx : plt w x = true
    · rw [if_pos hx, if_pos hx, ins_here l w x h0 hx]
    · rw [if_neg hx, if_neg hx]
theorem insTo_len (l : List Plc) (w : Plc) : (insTo l w).length ≤ l.length + 1 := by
  unfold insTo
  split
  · rw [ins_len]; exact Nat.le_refl _
  · omega
theorem WritesB.atB {base : Nat} {w : World} {a : Option Addr} {n cap : Nat} {l : List Plc} (h : WritesB base w (.slice a n cap) l) (i : Nat) (hi : i < l.length) : ∃ b o, a = some ⟨b, o, none⟩ ∧ WrPartAt base w b (o + i * 4) (l.getD i noPlc) := by
  obtain ⟨a', cap', e, hc, h⟩ := h
  simp only [Value.slice.injEq] at e
  obtain ⟨rfl, rfl, rfl⟩ := e
  rcases h with ⟨rfl, _⟩ | ⟨b, o, rfl, _, h⟩
  · simp at hi
  · exact ⟨b, o, rfl, h i hi⟩
theorem OwnV.rowP {rb pb : Nat} {w : World} {v : Value} {l : List Plc} (h : OwnV rb pb w v l) : v.ownBlock = none ∨ ∃ g cur t fz, v.ownBlock = some g ∧ 0 ≤ g ∧ w.heap[g]? = some (.cells cur t fz) ∧ t ≠ 5 := by
  rcases h.row with h | ⟨g, cur, fz, e, _, h⟩
  · exact .inl h
  · exact .inr ⟨g, cur, _, fz, e, Nat.zero_le _, h, wrT5⟩
set_option maxRecDepth 100000 in
set_option maxHeartbeats 2000000 in
theorem inserted_any (w : World) (v vn vk vv : Value) (l : List Plc) (p : Plc) (hv : WritesB 0 w v l) (h1 : PartIs 0 w vn p.name) (h2 : PartIs 0 w vk p.key) (h3 : PartIs 0 w vv p.value) (hl : (l.length + 2) * 80 ≤ 140737488355328) :
    Calls Tryz.prog 16 #[v, .agg #[vn, vk, .bool p.gone, vv]] w fun e w' => ∃ v', e = .returned v' ∧ OwnV w.heap.size 0 w' v' (insW l p) ∧ w.grownBy w' none := by
  obtain ⟨a, cap, rfl⟩ := hv.shape
  obtain ⟨bna, bnc, rfl⟩ := h1.1.shape
  obtain ⟨bka, bkc, rfl⟩ := h2.1.shape
  obtain ⟨bva, bvc, rfl⟩ := h3.1.shape
  obtain ⟨W0, HW0, hg0, B0⟩ := alloc_named4 w (.cells #[.slice bna p.name.length bnc, .slice bka p.key.length bkc, .bool p.gone, .slice bva p.value.length bvc] 40)
  obtain ⟨⟨x0, x1, x2, x3⟩, _⟩ := quad_room (grown_refl W0 none) B0.out
  have HV : Hid (WritesB 0 W0 (.slice a l.length cap) l) := hv.grown hg0
  have Q1 : Hid (PartIs 0 W0 (.slice bna p.name.length bnc) p.name) := h1.keptT hg0 (.inl rfl)
  have Q2 : Hid (PartIs 0 W0 (.slice bka p.key.length bkc) p.key) := h2.keptT hg0 (.inl rfl)
  have Q3 : Hid (PartIs 0 W0 (.slice bva p.value.length bvc) p.value) := h3.keptT hg0 (.inl rfl)
  have PB : Hid (∀ W u b, W0.grownBy W none → WriteIs W u b → Calls Tryz.prog 37 #[.agg #[.slice bna p.name.length bnc, .slice bka p.key.length bkc, .bool p.gone, .slice bva p.value.length bvc], u] W fun e w' => e = .returned (.bool (plt p b)) ∧ W.grownBy w' none) := fun W u b h hu => placedBefore_any W _ u p b ⟨_, _, _, rfl, Q1.out.1.grown h, Q2.out.1.grown h, Q3.out.1.grown h⟩ hu
  have hsz0 := hg0.size
  clear hv h1 h2 h3
  go_enter Tryz.func16, Tryz.ntmps16
  go_upto_region 1 with fail
  rw [← HW0.out]
  go_wp2_with fail
  go_loopw [5, 6, 7] (fun ov dv iv wr => ∃ m : Nat, m ≤ l.length ∧ iv = .int .i64 (m : Int) ∧ dv = .bool (anyB p (l.take m)) ∧ OwnV W0.heap.size 0 wr ov (insTo (l.take m) p) ∧ W0.grownBy wr none) (fun _ _ i _ => l.length - (intOf i).toNat)
  case atStart => exact ⟨0, by omega, rfl, rfl, ownV_nil _ _ _, grown_refl _ _⟩
  case round =>
    obtain ⟨m, hm, rfl, rfl, hov, hgr⟩ := hrel
    have hlenT := insTo_len (l.take m) p
    rw [List.length_take, Nat.min_eq_left hm] at hlenT
    obtain ⟨oa, oc, rfl⟩ := hov.shape
    obtain ⟨X, hX⟩ : ∃ X, X = insTo (l.take m) p := ⟨_, rfl⟩
    rw [← hX] at hov hlenT ⊢
    have y0 := hgr.cell x0 (by simp)
    have y1 := hgr.cell x1 (by simp)
    have y2 := hgr.cell x2 (by simp)
    have y3 := hgr.cell x3 (by simp)
    by_cases hlt : m < l.length
    · have i1 : (m : Int) < (l.length : Int) := by omega
      have hT : l.take (m + 1) = l.take m ++ [l.getD m noPlc] := by rw [List.take_succ_eq_append_getElem hlt]; simp [hlt]
      have HIT0 : insTo (l.take (m + 1)) p = if anyB p (l.take m) = true then X ++ [l.getD m noPlc] else (if plt p (l.getD m noPlc) = true then X ++ [p] ++ [l.getD m noPlc] else X ++ [l.getD m noPlc]) := by rw [hT, insTo_snoc, hX]
      have HAB0 : anyB p (l.take (m + 1)) = (anyB p (l.take m) || plt p (l.getD m noPlc)) := by rw [hT, anyB_snoc]
      obtain ⟨b, o, rfl, hat⟩ := HV.out.atB m hlt
      obtain ⟨en, ek, ev, c1, c2, c3, c4, pn, pk, pv⟩ := hat
      have HBL : Hid (b < W0.heap.size) := cell_lt c1
      have c1 := hgr.cell c1 (by simp)
      have c2 := hgr.cell c2 (by simp)
      have c3 := hgr.cell c3 (by simp)
      have c4 := hgr.cell c4 (by simp)
      generalize l.getD m noPlc = P at *
      obtain ⟨na, nc, rfl⟩ := pn.1.shape
      obtain ⟨ka, kc, rfl⟩ := pk.1.shape
      obtain ⟨ya, yc, rfl⟩ := pv.1.shape
      have NP : Hid (PartIs 0 wr (.slice na P.name.length nc) P.name) := pn.keptT hgr (.inl rfl)
      have KP : Hid (PartIs 0 wr (.slice ka P.key.length kc) P.key) := pk.keptT hgr (.inl rfl)
      have VP : Hid (PartIs 0 wr (.slice ya P.value.length yc) P.value) := pv.keptT hgr (.inl rfl)
      have HOV : Hid (OwnV W0.heap.size 0 wr (.slice oa X.length oc) X) := hov
      have hl80 : (X.length + 1) * 80 ≤ 140737488355328 := by omega
      clear pn pk pv hov hX hT
      obtain ⟨AB, hAB⟩ : ∃ AB, AB = anyB p (l.take m) := ⟨_, rfl⟩
      rw [← hAB] at HIT0 HAB0 ⊢
      obtain ⟨ZB, hZB⟩ : ∃ ZB, ZB = (!AB && plt p P) := ⟨_, rfl⟩
      have HZB : Hid (ZB = (!AB && plt p P)) := hZB
      have HI1 : Hid (insTo (l.take (m + 1)) p = if ZB = true then X ++ [p] ++ [P] else X ++ [P]) := by
        show _ = _
        rw [HIT0, hZB]
        cases AB with
        | true => rfl
        | false => cases plt p P <;> rfl
      have HA1 : Hid (anyB p (l.take (m + 1)) = if ZB = true then true else AB) := by
        show _ = _
        rw [HAB0, hZB]
        cases AB with
        | true => rfl
        | false => cases plt p P <;> rfl
      have PBm : Hid (∀ W, wr.grownBy W none → Calls Tryz.prog 37 #[.agg #[.slice bna p.name.length bnc, .slice bka p.key.length bkc, .bool p.gone, .slice bva p.value.length bvc], .agg #[.slice na P.name.length nc, .slice ka P.key.length kc, .bool P.gone, .slice ya P.value.length yc]] W fun e w' => e = .returned (.bool (plt p P)) ∧ W.grownBy w' none) := fun W h => PB.out W _ P (grown_trans hgr h) ⟨_, _, _, rfl, NP.out.1.grown h, KP.out.1.grown h, VP.out.1.grown h⟩
      clear hZB HIT0 HAB0 PB hAB
      go_upto_region 6 with fail
      go_cut [23] (fun s23 wx => s23 = .bool ZB ∧ wr.grownBy wx none)
      case first =>
        cases AB with
        | true =>
          have HZ2 : Hid (ZB = false) := HZB.out
          go_quiet (fail)
          all_goals (go_wp2_with fail; go_meet; case rel => exact ⟨by rw [HZ2.out], grown_drewN (grown_refl _ _) _⟩)
        | false =>
          have HZ2 : Hid (ZB = plt p P) := by show _ = _; rw [HZB.out]; rfl
          go_region_with (go_at_call 37; refine (PBm.out _ (grown_drew (grown_refl _ _))).mono ?_; rintro e w5 ⟨rfl, hg5⟩)
          all_goals (go_wp2_with fail; go_meet; case rel => exact ⟨by rw [HZ2.out], grown_trans (grown_drew (grown_refl _ _)) hg5⟩)
      case rest =>
        obtain ⟨rfl, hgc⟩ := hcut
        have e0 := hgc.cell y0 (by simp)
        have e1 := hgc.cell y1 (by simp)
        have e2 := hgc.cell y2 (by simp)
        have e3 := hgc.cell y3 (by simp)
        have d1 := hgc.cell c1 (by simp)
        have d2 := hgc.cell c2 (by simp)
        have d3 := hgc.cell c3 (by simp)
        have d4 := hgc.cell c4 (by simp)
        have hgWc := grown_trans hgr hgc
        clear y0 y1 y2 y3 c1 c2 c3 c4
        cases hzz : ZB with
        | true =>
          have HI2 : Hid (insTo (l.take (m + 1)) p = X ++ [p] ++ [P]) := by show _ = _; rw [HI1.out, if_pos hzz]
          have HA2 : Hid (anyB p (l.take (m + 1)) = true) := by show _ = _; rw [HA1.out, if_pos hzz]
          obtain ⟨WM, HWM, hgM, BM⟩ := alloc_named4 wc (.cells #[.slice bna p.name.length bnc, .slice bka p.key.length bkc, .bool p.gone, .slice bva p.value.length bvc] 40)
          have hgWM := grown_trans hgWc hgM
          have OM : Hid (OwnV W0.heap.size 0 WM (.slice oa X.length oc) X) := (HOV.out.grownNone hgc).grownNone hgM
          have R1 : Hid (PartIs 0 WM (.slice bna p.name.length bnc) p.name) := Q1.out.keptT hgWM (.inl rfl)
          have R2 : Hid (PartIs 0 WM (.slice bka p.key.length bkc) p.key) := Q2.out.keptT hgWM (.inl rfl)
          have R3 : Hid (PartIs 0 WM (.slice bva p.value.length bvc) p.value) := Q3.out.keptT hgWM (.inl rfl)
          have hszM := hgWM.size
          have EM : Hid (WM.cell? ⟨b, o + m * 4, none⟩ = some (.slice na P.name.length nc) ∧ WM.cell? ⟨b, o + m * 4 + 1, none⟩ = some (.slice ka P.key.length kc) ∧ WM.cell? ⟨b, o + m * 4 + 2, none⟩ = some (.bool P.gone) ∧ WM.cell? ⟨b, o + m * 4 + 3, none⟩ = some (.slice ya P.value.length yc)) := ⟨hgM.cell d1 (by simp), hgM.cell d2 (by simp), hgM.cell d3 (by simp), hgM.cell d4 (by simp)⟩
          have NM : Hid (PartIs 0 WM (.slice na P.name.length nc) P.name) := NP.out.keptT (grown_trans hgc hgM) (.inl rfl)
          have KM : Hid (PartIs 0 WM (.slice ka P.key.length kc) P.key) := KP.out.keptT (grown_trans hgc hgM) (.inl rfl)
          have VM : Hid (PartIs 0 WM (.slice ya P.value.length yc) P.value) := VP.out.keptT (grown_trans hgc hgM) (.inl rfl)
          clear d1 d2 d3 d4 hzz
          have HBX : Hid (some b ≠ (Value.slice oa X.length oc).ownBlock) := fun e => by have := (OM.out.lt b e.symm).1; have h9 := HBL.out; omega
          have HROW : Hid ((Value.slice oa X.length oc).ownBlock = none ∨ ∃ g cur t fz, (Value.slice oa X.length oc).ownBlock = some g ∧ 0 ≤ g ∧ WM.heap[g]? = some (.cells cur t fz) ∧ t ≠ 5) := OM.out.rowP
          have hXp : (X ++ [p]).length = X.length + 1 := by simp
          have hl80b : ((X ++ [p]).length + 1) * 80 ≤ 140737488355328 := by omega
          clear hXp
          go_wp2_with (first
            | (at_builtin; rw [← HWM.out]; refine wpList_append_wrV rfl (.tmp 24) (.tmp 26) rfl W0.heap.size (.slice oa X.length oc) X rfl OM.out (.slice bna p.name.length bnc) (.slice bka p.key.length bkc) (.slice bva p.value.length bvc) p R1.out R2.out R3.out wc.heap.size BM.out rfl hl80 hszM ?_; intro v8 w8 ho8 hg8; obtain ⟨a8, n8, c8, rfl⟩ := ho8.any; have hgw8 : W0.grownBy w8 none := grown_ownV hgWM OM.out (Nat.le_refl _) hg8; have f1 := hg8.cell EM.out.1 HBX.out; have f2 := hg8.cell EM.out.2.1 HBX.out; have f3 := hg8.cell EM.out.2.2.1 HBX.out; have f4 := hg8.cell EM.out.2.2.2 HBX.out; obtain ⟨WN, HWN, hgN, BN⟩ := alloc_named4 w8 (.cells #[.slice na P.name.length nc, .slice ka P.key.length kc, .bool P.gone, .slice ya P.value.length yc] 40); have ON : Hid (OwnV W0.heap.size 0 WN (.slice a8 n8 c8) (X ++ [p])) := ho8.grownNone hgN; have NN : Hid (PartIs 0 WN (.slice na P.name.length nc) P.name) := (NM.out.keptT hg8 HROW.out).keptT hgN (.inl rfl); have KN : Hid (PartIs 0 WN (.slice ka P.key.length kc) P.key) := (KM.out.keptT hg8 HROW.out).keptT hgN (.inl rfl); have VN : Hid (PartIs 0 WN (.slice ya P.value.length yc) P.value) := (VM.out.keptT hg8 HROW.out).keptT hgN (.inl rfl); have hgWN := grown_trans hgw8 hgN; have hszN := hgWN.size; clear ho8 hg8)
            | (at_builtin; rw [← HWN.out]; refine wpList_append_wrV rfl (.tmp 28) (.tmp 33) rfl W0.heap.size (.slice a8 n8 c8) (X ++ [p]) rfl ON.out (.slice na P.name.length nc) (.slice ka P.key.length kc) (.slice ya P.value.length yc) P NN.out KN.out VN.out w8.heap.size BN.out rfl hl80b hszN ?_; intro v9 w9 ho9 hg9; have hgw9 : W0.grownBy w9 none := grown_ownV hgWN ON.out (Nat.le_refl _) hg9; have H9 : Hid (OwnV W0.heap.size 0 w9 v9 (X ++ [p] ++ [P])) := ho9))
          go_roundw
          case rel => exact ⟨m + 1, by omega, by go_num, by rw [HA2.out], by rw [HI2.out]; exact H9.out, hgw9⟩
          case measure => simp [intOf]; omega
        | false =>
          have HI2 : Hid (insTo (l.take (m + 1)) p = X ++ [P]) := by show _ = _; rw [HI1.out, if_neg (by rw [hzz]; simp)]
          have HA2 : Hid (anyB p (l.take (m + 1)) = AB) := by show _ = _; rw [HA1.out, if_neg (by rw [hzz]; simp)]
          obtain ⟨WN, HWN, hgN, BN⟩ := alloc_named4 wc (.cells #[.slice na P.name.length nc, .slice ka P.key.length kc, .bool P.gone, .slice ya P.value.length yc] 40)
          have hgWN := grown_trans hgWc hgN
          have hszN := hgWN.size
          have ON : Hid (OwnV W0.heap.size 0 WN (.slice oa X.length oc) X) := (HOV.out.grownNone hgc).grownNone hgN
          have NN : Hid (PartIs 0 WN (.slice na P.name.length nc) P.name) := NP.out.keptT (grown_trans hgc hgN) (.inl rfl)
          have KN : Hid (PartIs 0 WN (.slice ka P.key.length kc) P.key) := KP.out.keptT (grown_trans hgc hgN) (.inl rfl)
          have VN : Hid (PartIs 0 WN (.slice ya P.value.length yc) P.value) := VP.out.keptT (grown_trans hgc hgN) (.inl rfl)
          clear e0 e1 e2 e3 hzz
          go_wp2_with (at_builtin; rw [← HWN.out]; refine wpList_append_wrV rfl (.tmp 28) (.tmp 33) rfl W0.heap.size (.slice oa X.length oc) X rfl ON.out (.slice na P.name.length nc) (.slice ka P.key.length kc) (.slice ya P.value.length yc) P NN.out KN.out VN.out wc.heap.size BN.out rfl hl80 hszN ?_; intro v9 w9 ho9 hg9; have hgw9 : W0.grownBy w9 none := grown_ownV hgWN ON.out (Nat.le_refl _) hg9; have H9 : Hid (OwnV W0.heap.size 0 w9 v9 (X ++ [P])) := ho9)
          go_roundw
          case rel => exact ⟨m + 1, by omega, by go_num, by rw [HA2.out], by rw [HI2.out]; exact H9.out, hgw9⟩
          case measure => simp [intOf]; omega
    · obtain rfl : m = l.length := by omega
      have i1 : ¬ (l.length : Int) < (l.length : Int) := by omega
      have HE : Hid (insW l p = if anyB p l = true then X else X ++ [p]) := by show _ = _; rw [hX, List.take_length]; exact insTo_end l p
      rw [List.take_length]
      have HOV : Hid (OwnV W0.heap.size 0 wr (.slice oa X.length oc) X) := hov
      have hl80 : (X.length + 1) * 80 ≤ 140737488355328 := by omega
      clear hov hX
      cases hab : anyB p l with
      | true =>
        have HE2 : Hid (insW l p = X) := by show _ = _; rw [HE.out, if_pos hab]
        clear hab
        go_wp2
        go_ret
        exact ⟨_, rfl, by rw [HE2.out]; exact HOV.out.down _ hsz0, grown_trans hg0 hgr⟩
      | false =>
        have HE2 : Hid (insW l p = X ++ [p]) := by show _ = _; rw [HE.out, if_neg (by rw [hab]; simp)]
        obtain ⟨WM, HWM, hgM, BM⟩ := alloc_named4 wr (.cells #[.slice bna p.name.length bnc, .slice bka p.key.length bkc, .bool p.gone, .slice bva p.value.length bvc] 40)
        have hgWM := grown_trans hgr hgM
        have OM : Hid (OwnV W0.heap.size 0 WM (.slice oa X.length oc) X) := HOV.out.grownNone hgM
        have R1 : Hid (PartIs 0 WM (.slice bna p.name.length bnc) p.name) := Q1.out.keptT hgWM (.inl rfl)
        have R2 : Hid (PartIs 0 WM (.slice bka p.key.length bkc) p.key) := Q2.out.keptT hgWM (.inl rfl)
        have R3 : Hid (PartIs 0 WM (.slice bva p.value.length bvc) p.value) := Q3.out.keptT hgWM (.inl rfl)
        have hszM := hgWM.size
        clear hab
        go_wp2_with (at_builtin; rw [← HWM.out]; refine wpList_append_wrV rfl (.tmp 37) (.tmp 39) rfl W0.heap.size (.slice oa X.length oc) X rfl OM.out (.slice bna p.name.length bnc) (.slice bka p.key.length bkc) (.slice bva p.value.length bvc) p R1.out R2.out R3.out wr.heap.size BM.out rfl hl80 hszM ?_; intro v8 w8 ho8 hg8; have hgw8 : W0.grownBy w8 none := grown_ownV hgWM OM.out (Nat.le_refl _) hg8; have H8 : Hid (OwnV W0.heap.size 0 w8 v8 (X ++ [p])) := ho8)
        go_ret
        exact ⟨_, rfl, by rw [HE2.out]; exact H8.out.down _ hsz0, grown_trans hg0 hgw8⟩
end Go.Proofs.YtljdconhplgipaaGreat
