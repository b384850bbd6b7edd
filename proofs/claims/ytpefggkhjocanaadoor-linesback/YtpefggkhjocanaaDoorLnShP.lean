/-
  lines.Show, as it landed, keeps P10.3.
-/
import Derived.Test.YtpefggkhjocanaaDoorLnSh
import Derived.Test.YtpefggkhjocanaaDoorLnCkP
import Derived.Test.YtpefggkhjocanaaDoorLnPu
import Derived.Test.YtpefggkhjocanaaDoorLnBg
namespace Go.Proofs.YtpefggkhjocanaaDoor
open Go.RowKit
theorem hid_of {p : Prop} (h : p) : Hid p := h
theorem showB_ne {l : List Ac} (h : l ≠ []) : showB l ≠ [] := by
  match l, h with
  | a :: l, _ =>
    rw [showB_cons]
    simp
set_option maxRecDepth 100000 in
set_option maxHeartbeats 4000000 in
theorem lnshow_ok : LnShowOK := by
  intro w v l hT hv hf
  obtain ⟨a, cap, rfl⟩ := hv.shape
  have hmany := hf.many
  by_cases hL : 100000 < l.length
  · obtain ⟨e1, e2, e3⟩ := show_long hL
    rw [e1, e2, e3]
    have t1 : (l.length : Int) > 100000 := by omega
    clear e1 e2 e3 hv hf hL hT
    go_enter Tryd.func9, Tryd.ntmps9
    go_wp2
    refine bodyPost_ret (v := .tuple #[.string (textOf []), .int .i64 0, .int .i64 1]) (by simp [results, Tryd.results9, go_sem, textOf]) rfl ?_
    exact ⟨rfl, grown_refl _ _⟩
  · have t1 : ¬ (l.length : Int) > 100000 := by omega
    have hL' : l.length ≤ 100000 := by omega
    have HB : Hid (∀ {i : Nat} {e : Int}, badA 0 l = some (i, e) → e ≠ 0 → showE l = e ∧ showI l = i ∧ showT l = []) := fun h he => show_bad hL' h he
    have HE : Hid (badA 0 l = none → showE l = 0 ∧ showI l = 0 ∧ showT l = showB l) := fun h => show_end hL' h
    have HV : Hid (ActsIs w (.slice a l.length cap) l) := hv
    have HF : Hid (FitsA l) := hf
    have HWT : Hid (WrdT w) := hT
    generalize showE l = SE at *
    generalize showI l = SI at *
    generalize showT l = ST at *
    clear hv hf hL hT
    go_enter Tryd.func9, Tryd.ntmps9
    go_wp2_with fail
    go_loopw [5, 18] (fun rv iv wr => ∃ m R : Nat, m ≤ l.length ∧ iv = .int .i64 (m : Int) ∧ rv = .int .i64 (R : Int) ∧ R ≤ m * 8013 ∧ badA 0 l = badA m (l.drop m) ∧ w.grownBy wr none) (fun _ iv _ => l.length - (intOf iv).toNat)
    case atStart => exact ⟨0, 0, by omega, rfl, rfl, by omega, by rw [List.drop_zero], grown_refl _ _⟩
    case round =>
      obtain ⟨m, R, hm, rfl, rfl, hR, hbad, hg⟩ := hrel
      have hsz := hg.size
      by_cases hlt : m < l.length
      · have i1 : (m : Int) < (l.length : Int) := by omega
        obtain ⟨b, o, rfl, hat⟩ := HV.out.at m hlt
        obtain ⟨vd, c1, c2, c3, c4, s1⟩ := hat.grown hg
        obtain ⟨da, dc, rfl⟩ := s1.shape
        obtain ⟨g1, g2⟩ := show_go hlt hbad
        have hfm := HF.out.each m hlt
        generalize l.getD m noAc = A at *
        obtain ⟨W1, HW1, hg1, B1⟩ := alloc_namedR wr (.cells #[.int .i64 A.kind, .int .i64 A.sess, .int .i64 A.keep, .slice da A.data.length dc] 36)
        obtain ⟨⟨d0, d1, d2, d3⟩, _⟩ := quad_room (grown_refl W1 none) B1.out
        have CK : Hid (Calls Tryd.prog 18 #[.agg #[.int .i64 A.kind, .int .i64 A.sess, .int .i64 A.keep, .slice da A.data.length dc]] W1 fun e w' => e = .returned (.int .i64 (actE A)) ∧ W1.grownBy w' none) := lncheck_ok W1 _ A ⟨_, rfl, s1.grown hg1⟩ hfm
        by_cases hA : actE A = 0
        · have hok := (act_iff A).1 hA
          have hdd := hok.data
          have G1 : Hid (badA 0 l = badA (m + 1) (l.drop (m + 1))) := g1 hA
          rw [hA] at CK
          generalize A.kind = K at *
          generalize A.sess = s at *
          generalize A.keep = q at *
          generalize A.data.length = n at *
          have w1 : IntKind.i64.wrap (2 * (n : Int)) = 2 * (n : Int) := by rw [IntKind.wrap_i64]; omega
          have w2 : IntKind.i64.wrap (13 + 2 * (n : Int)) = 13 + 2 * (n : Int) := by rw [IntKind.wrap_i64]; omega
          have w3 : IntKind.i64.wrap ((R : Int) + (13 + 2 * (n : Int))) = (R : Int) + (13 + 2 * (n : Int)) := by rw [IntKind.wrap_i64]; omega
          clear g1 g2 hbad hat s1 hfm hok hA
          go_upto_region 7 with fail
          rw [← HW1.out]
          obtain ⟨IB, hIB⟩ : ∃ IB, IB = wr.heap.size := ⟨_, rfl⟩
          rw [← hIB] at B1 d0 d1 d2 d3 ⊢
          clear hIB HW1 c1 c2 c3 c4
          go_wp2_with fail
          refine CK.out.mono ?_
          rintro e w2 ⟨rfl, hg2⟩
          clear d0 d1 d2 d3
          obtain ⟨⟨d0, d1, d2, d3⟩, _⟩ := quad_room hg2 B1.out
          go_wp2_with fail
          go_roundw
          case rel => exact ⟨m + 1, R + (13 + 2 * n), by omega, by go_num, by go_num, by omega, G1.out, grown_trans hg (grown_trans hg1 hg2)⟩
          case measure => simp [intOf]; omega
        · have G2 : Hid (SE = actE A ∧ SI = m ∧ ST = []) := HB.out (g2 hA) hA
          have HA : (actE A != 0) = true := by simp [hA]
          generalize actE A = z at *
          clear g1 g2 hbad hat s1 hfm hA
          go_upto_region 7 with fail
          rw [← HW1.out]
          obtain ⟨IB, hIB⟩ : ∃ IB, IB = wr.heap.size := ⟨_, rfl⟩
          rw [← hIB] at B1 d0 d1 d2 d3 ⊢
          clear hIB HW1 c1 c2 c3 c4
          go_wp2_with fail
          refine CK.out.mono ?_
          rintro e w2 ⟨rfl, hg2⟩
          go_wp2
          obtain ⟨q1, q2, q3⟩ := G2.out
          refine bodyPost_ret (v := .tuple #[.string (textOf []), .int .i64 (m : Int), .int .i64 z]) (by simp [results, Tryd.results9, go_sem, textOf]) rfl ?_
          exact ⟨by rw [q1, q2, q3], grown_trans hg (grown_trans hg1 hg2)⟩
      · obtain rfl : m = l.length := by omega
        have hall : badA 0 l = none := by rw [hbad, List.drop_length]; rfl
        obtain ⟨q1, q2, q3⟩ := HE.out hall
        have HOK : Hid (∀ a ∈ l, ActOK a) := (badA_none l 0).1 hall
        have HWr : Hid (WrdT wr) := HWT.out.grown hg
        have HVr : Hid (ActsIs wr (.slice a l.length cap) l) := HV.out.grown hg
        obtain ⟨W1, HW1, hg1, B1⟩ := alloc_namedR wr (.cells #[.pointer none, .slice none 0 0] 48)
        have hs1 : wr.heap.size ≤ W1.heap.size := hg1.size
        have GR : Hid (Calls Tryd.prog 19 #[.pointer (some ⟨wr.heap.size, 0, none⟩), .int .i64 (R : Int)] W1 fun e w' => e = .returned (.tuple #[]) ∧ PageIs wr.heap.size wr.heap.size [] w' ∧ (R = 0 → PageNil wr.heap.size wr.heap.size w') ∧ Below wr.heap.size W1 w') := grow_any wr.heap.size wr.heap.size R W1 (Nat.le_refl _) B1.out hs1 (by omega)
        have hb1 : Below wr.heap.size wr W1 := grown_belowB hg1 (Nat.le_refl _)
        have hR0 : l = [] → R = 0 := fun h => by rw [h] at hR; simpa using hR
        have HR0 : Hid (l = [] → R = 0) := hR0
        have PUT : Hid (∀ (W : World) (m : Nat) (v : Value), PageIs wr.heap.size wr.heap.size (showB (l.take m)) W → Below wr.heap.size wr W → m < l.length → AcIs wr v (l.getD m noAc) → (showB (l.take m)).length ≤ m * 9000 → Calls Tryd.prog 21 #[.func (.func 20) #[.pointer (some ⟨wr.heap.size, 0, none⟩)] #[], v] W fun e w' => e = .returned (.tuple #[]) ∧ PageIs wr.heap.size wr.heap.size (showB (l.take (m + 1))) w' ∧ (showB (l.take (m + 1))).length ≤ (m + 1) * 9000 ∧ Below wr.heap.size wr w') := by
          intro W m v h1 h2 h3 h4 h5
          have hok : ActOK (l.getD m noAc) := HOK.out _ (by rw [show l.getD m noAc = l[m] by simp [h3]]; exact List.getElem_mem h3)
          refine (putLine_any wr W wr.heap.size v _ _ HWr.out h4 hok h1 h2 (by omega)).mono ?_
          rintro e w' ⟨k1, k2, k3⟩
          have hll := lineF_len hok
          have hdd := hok.data
          rw [← showB_step l m h3] at k2
          refine ⟨k1, k2, ?_, k3⟩
          rw [showB_step l m h3, List.length_append, List.length_append, List.length_singleton]
          omega
        have HST : Hid (SE = 0 ∧ SI = 0 ∧ ST = showB l) := ⟨q1, q2, q3⟩
        have HTA : Hid (l.take l.length = l) := List.take_length
        clear hall q1 q2 q3 hbad hlt hm hR hR0 HB HE HF HV HWT
        go_upto_region 13 with fail
        rw [← HW1.out]
        clear HW1
        go_wp2_with fail
        refine GR.out.mono ?_
        rintro e w2 ⟨rfl, hp2, hn2, hb2⟩
        have HP2 : Hid (PageIs wr.heap.size wr.heap.size [] w2) := hp2
        have HN2 : Hid (l = [] → PageNil wr.heap.size wr.heap.size w2) := fun h => hn2 (HR0.out h)
        have hb02 := hb1.trans hb2
        clear hp2 hn2 GR HR0
        go_wp2_with fail
        obtain ⟨wp, rfl⟩ : ∃ wp, wp = wr := ⟨wr, rfl⟩
        go_loopw [43] (fun iv W => ∃ m : Nat, m ≤ l.length ∧ iv = .int .i64 (m : Int) ∧ PageIs wp.heap.size wp.heap.size (showB (l.take m)) W ∧ (showB (l.take m)).length ≤ m * 9000 ∧ (l = [] → PageNil wp.heap.size wp.heap.size W) ∧ Below wp.heap.size wp W) (fun iv _ => l.length - (intOf iv).toNat)
        case atStart => exact ⟨0, by omega, rfl, by rw [List.take_zero]; exact HP2.out, by rw [List.take_zero]; simp [showB], HN2.out, hb02⟩
        case round =>
          obtain ⟨m, hm, rfl, hpg, hlen, hnil, hbl⟩ := hrel
          have hgw := belowB_grown hbl
          by_cases hlt : m < l.length
          · have i1 : (m : Int) < (l.length : Int) := by omega
            obtain ⟨b, o, rfl, hat⟩ := HVr.out.at m hlt
            have hAT := hat
            obtain ⟨vd, c1, c2, c3, c4, s1⟩ := hat.grown hgw
            obtain ⟨vd', k1, k2, k3, k4, s0⟩ := hAT
            obtain rfl : vd = vd' := by have := hgw.cell k4 (by simp); rw [c4] at this; exact Option.some.inj this
            obtain ⟨da, dc, rfl⟩ := s1.shape
            have PT := fun W => PUT.out W m (.agg #[.int .i64 (l.getD m noAc).kind, .int .i64 (l.getD m noAc).sess, .int .i64 (l.getD m noAc).keep, .slice da (l.getD m noAc).data.length dc])
            have hA0 : AcIs wp (.agg #[.int .i64 (l.getD m noAc).kind, .int .i64 (l.getD m noAc).sess, .int .i64 (l.getD m noAc).keep, .slice da (l.getD m noAc).data.length dc]) (l.getD m noAc) := ⟨_, rfl, s0⟩
            obtain ⟨W3, HW3, hg3, B3⟩ := alloc_namedR wr (.cells #[.int .i64 (l.getD m noAc).kind, .int .i64 (l.getD m noAc).sess, .int .i64 (l.getD m noAc).keep, .slice da (l.getD m noAc).data.length dc] 36)
            obtain ⟨⟨d0, d1, d2, d3⟩, _⟩ := quad_room (grown_refl W3 none) B3.out
            have P3 := PT W3 (hpg.grownNone hg3) (hbl.trans (grown_belowB hg3 hbl.size)) hlt hA0 hlen
            have HP3 := hid_of P3
            have hln : l ≠ [] := by intro e; rw [e] at hlt; simp at hlt
            generalize l.getD m noAc = A at *
            generalize A.kind = K at *
            generalize A.sess = s at *
            generalize A.keep = q at *
            generalize A.data.length = n at *
            clear PT hA0 P3 hat s0 s1 k1 k2 k3 k4 hpg hnil
            go_upto_region 18 with fail
            rw [← HW3.out]
            clear HW3 c1 c2 c3 c4
            go_wp2_with fail
            refine HP3.out.mono ?_
            rintro e w4 ⟨rfl, hp4, hl4, hb4⟩
            go_wp2_with fail
            go_roundw
            case rel => exact ⟨m + 1, by omega, by go_num, hp4, hl4, fun e => absurd e hln, hb4⟩
            case measure => simp [intOf]; omega
          · obtain rfl : m = l.length := by omega
            rw [HTA.out] at hpg
            obtain ⟨q1, q2, q3⟩ := HST.out
            have SG : Hid (Calls Tryd.prog 22 #[.pointer (some ⟨wp.heap.size, 0, none⟩)] wr fun e w' => e = .returned (.string (textOf (showB l))) ∧ Below wp.heap.size wr w') := by
              by_cases hn : l = []
              · have := stringNil_any _ _ _ (hnil hn)
                rw [hn]
                exact this
              · exact string_any _ _ _ _ hpg (showB_ne hn)
            clear hpg hlen hnil hlt
            have HQ : Hid (SE = 0 ∧ SI = 0 ∧ ST = showB l) := ⟨q1, q2, q3⟩
            clear q1 q2 q3 HST
            go_wp2_with fail
            refine SG.out.mono ?_
            rintro e w5 ⟨rfl, hb5⟩
            go_wp2
            obtain ⟨q1, q2, q3⟩ := HQ.out
            refine bodyPost_ret (v := .tuple #[.string (textOf (showB l)), .int .i64 0, .int .i64 0]) (by simp [results, Tryd.results9, go_sem]) rfl ?_
            exact ⟨by rw [q1, q2, q3]; rfl, grown_trans hg (belowB_grown (hbl.trans hb5))⟩
end Go.Proofs.YtpefggkhjocanaaDoor
