/-
  The walk of canopykeep.ChangesMake, over what the code must keep.
-/
import Derived.Test.YtljdconhplgipabKCommits
import Derived.Test.YtljdconhplgipabKWrites
import Derived.Test.YtljdconhplgipabKSame
import Derived.Test.YtljdconhplgipabKSameF
import Derived.Test.YtljdconhplgipabPicked
import Derived.Test.YtljdconhplgipabPart9
import Derived.Test.YtljdconhplgipabPart2
import Derived.BigQuiet
import Derived.Deep.RegionWith
namespace Go.Proofs.Ytljdconhplgipab
open Go.RowKit
theorem cmts_histM {ws : List Plc} {cs : List Cmt} {f : FL} {i : Nat} (h : CmtsOf ws i cs f) (hl : cs.length ≤ 300) : histE cs = 0 ∧ FitsCs cs := by
  have h1 := (foldC_goes cs [] f 0 h.turn h.fold).1
  exact ⟨(hist_iff cs).2 ⟨hl, h1⟩, ⟨by omega, fun i hi => commit_fits (h1.at i hi).1⟩⟩
theorem chg_okM {cs : List Cmt} (h : histE cs = 0) (i j : Nat) (hi : i ≤ cs.length) (hj : j ≤ cs.length) : chgE cs (i : Int) (j : Int) = 0 ∧ chgW cs (i : Int) (j : Int) = changesL (foldT cs (i : Int)) (foldT cs (j : Int)) := by
  have e1 := (fold_ok h i hi).1
  have e2 := (fold_ok h j hj).1
  have e : chgE cs (i : Int) (j : Int) = 0 := by rw [chgE, if_pos e1, e2]
  exact ⟨e, by rw [chgW, if_pos e]⟩
theorem alloc_namedM (w : World) (o : Obj) : ∃ W : World, Hid (W = w.alloc o) ∧ w.grownBy W none ∧ Hid (W.heap[w.heap.size]? = some o) := ⟨w.alloc o, rfl, World.grownBy_alloc _ _ _, heap_alloc_new w o⟩
theorem WritesIs.capM {w : World} {a : Option Addr} {n cap : Nat} {l : List Plc} (h : WritesIs w (.slice a n cap) l) : l.length ≤ cap := by
  obtain ⟨a', cap', e, hc, _⟩ := h
  simp only [Value.slice.injEq] at e
  omega
theorem writes_fitsM {p : Plc} (h : writeE p = 0) : FitsW [p] := by
  obtain ⟨h1, h2, h3⟩ := (writeE_iff p).1 h
  refine ⟨by simp, fun i hi => ?_⟩
  match i, hi with
  | 0, _ =>
    refine ⟨by show p.name.length ≤ _; omega, by show p.key.length ≤ _; omega, ?_⟩
    show p.value.length ≤ _
    split at h3
    · rw [h3]; simp
    · omega
set_option maxRecDepth 100000 in
set_option maxHeartbeats 4000000 in
theorem changesMake_walk (hF : FApplyNewOK) (hC : HsChgOK) (hFo : HsFoldOK) (hK : HsKeptOK) (hG : FGetOK) (w : World) (v : Value) (l : List Plc) (x y : Int) (hv : PlacesIs w v l) (hl : FitsQ l) (hx0 : -9223372036854775808 ≤ x) (hx1 : x ≤ 9223372036854775807) (hy0 : -9223372036854775808 ≤ y) (hy1 : y ≤ 9223372036854775807) :
    Calls Try.prog 3 #[v, .int .i64 x, .int .i64 y] w fun e w' => e = .returned (.bool true) ∧ w.grownBy w' none := by
  obtain ⟨a, cap, rfl⟩ := hv.shape
  have KC : Hid (Calls Try.prog 6 #[.slice a l.length cap, .int .i64 16] w fun e w' => ∃ v', e = .returned v' ∧ ∃ cs, CommitsIs w' v' cs ∧ (∃ f, CmtsOf ((l.take 16).map writeF) ((l.take 16).map writeF).length cs f) ∧ w.grownBy w' none) := kcommits_any hF w _ l 16 hv hl (by omega)
  have hlen : ((l.take 16).map writeF).length ≤ 16 := by simp; omega
  have HA : Hid FApplyOK := hF.ok
  have HC : Hid HsChgOK := hC
  have HFO : Hid HsFoldOK := hFo
  have HGT : Hid FGetOK := hG
  have KP : Hid (∀ w', Calls Try.prog 14 #[.int .i64 1, .int .i64 0] w' fun e w'' => e = .returned (.bool true) ∧ w'.grownBy w'' none) := fun w' => hK w' 1 0 (by omega) (by omega) (by omega) (by omega)
  generalize (l.take 16).map writeF = ws at *
  clear hv hl hF hC hFo hK hG
  go_enter Try.func3, Try.ntmps3
  go_wp2_with fail
  refine KC.out.mono ?_
  rintro e w1 ⟨v1, rfl, cs, h1, ⟨f, hco⟩, hg1⟩
  have hcl : cs.length ≤ 16 := by have := hco.few; omega
  obtain ⟨hhi, hfit⟩ := cmts_histM hco (by omega)
  obtain ⟨ca, cc, rfl⟩ := h1.shape
  have H1 : Hid (CommitsIs w1 (.slice ca cs.length cc) cs) := h1
  have PX : Hid (∀ w', Calls Try.prog 7 #[.int .i64 x, .int .i64 ((cs.length : Int) + 1)] w' fun e w'' => ∃ k : Nat, e = .returned (.int .i64 (k : Int)) ∧ (k : Int) < (cs.length : Int) + 1 ∧ w'' = w') := fun w' => picked_any x _ w' hx0 hx1 (by omega) (by omega)
  have PY : Hid (∀ w', Calls Try.prog 7 #[.int .i64 y, .int .i64 ((cs.length : Int) + 1)] w' fun e w'' => ∃ k : Nat, e = .returned (.int .i64 (k : Int)) ∧ (k : Int) < (cs.length : Int) + 1 ∧ w'' = w') := fun w' => picked_any y _ w' hy0 hy1 (by omega) (by omega)
  have HHI : Hid (histE cs = 0) := hhi
  have HFIT : Hid (FitsCs cs) := hfit
  clear h1 hco hhi hfit
  go_wp2_with fail
  refine (PX.out _).mono ?_
  rintro e w2 ⟨i, rfl, hi, rfl⟩
  go_wp2_with fail
  refine (PY.out _).mono ?_
  rintro e w3 ⟨j, rfl, hj, rfl⟩
  have hic : i ≤ cs.length := by omega
  have hjc : j ≤ cs.length := by omega
  obtain ⟨z1, z2⟩ := chg_okM HHI.out i j hic hjc
  obtain ⟨z3, z4⟩ := fold_ok HHI.out i hic
  obtain ⟨z5, z6⟩ := fold_ok HHI.out j hjc
  have FI : Hid (Forest (foldT cs (i : Int))) := foldT_forest cs (i : Int)
  have FJ : Hid (Forest (foldT cs (j : Int))) := foldT_forest cs (j : Int)
  have C1 : Hid (∀ w', w3.grownBy w' none → Calls Try.prog 8 #[.slice ca cs.length cc, .int .i64 (i : Int), .int .i64 (j : Int)] w' fun e w'' => ∃ z, e = .returned (.tuple #[z, .int .i64 0]) ∧ WritesIs w'' z (changesL (foldT cs (i : Int)) (foldT cs (j : Int))) ∧ w'.grownBy w'' none) := fun w' h => by
    have := HC.out w' _ cs (i : Int) (j : Int) (H1.out.grown h) HFIT.out (by omega) (by omega) (by omega) (by omega)
    rw [z1, z2] at this
    exact this
  have F1 : Hid (∀ w', w3.grownBy w' none → Calls Try.prog 9 #[.slice ca cs.length cc, .int .i64 (i : Int)] w' fun e w'' => ∃ z, e = .returned (.tuple #[z, .int .i64 0]) ∧ TensIs w'' z (foldT cs (i : Int)) ∧ w'.grownBy w'' none) := fun w' h => by
    have := HFO.out w' _ cs (i : Int) (H1.out.grown h) HFIT.out (by omega) (by omega)
    rw [z3] at this
    exact this
  have F2 : Hid (∀ w', w3.grownBy w' none → Calls Try.prog 9 #[.slice ca cs.length cc, .int .i64 (j : Int)] w' fun e w'' => ∃ z, e = .returned (.tuple #[z, .int .i64 0]) ∧ TensIs w'' z (foldT cs (j : Int)) ∧ w'.grownBy w'' none) := fun w' h => by
    have := HFO.out w' _ cs (j : Int) (H1.out.grown h) HFIT.out (by omega) (by omega)
    rw [z5] at this
    exact this
  have HNN : Hid (i = j → (changesL (foldT cs (i : Int)) (foldT cs (j : Int))).length = 0) := fun h => by
    rw [h, changes_none FJ.out]; rfl
  have hxl := changes_len FI.out FJ.out
  have MST : Hid (Mid (foldT cs (i : Int)) (foldT cs (j : Int)) (goneTo (changesL (foldT cs (i : Int)) (foldT cs (j : Int))) 0) (foldT cs (i : Int))) := mid_start FI.out _
  generalize foldT cs (i : Int) = A at *
  generalize foldT cs (j : Int) = B at *
  have HPR : Hid (PRises (changesL A B)) := changes_rises FI.out FJ.out
  have HGG : Hid (∀ m, m < (changesL A B).length → ∀ cur, Mid A B (goneTo (changesL A B) m) cur → fgetE cur ((changesL A B).getD m noPlc).name ((changesL A B).getD m noPlc).key = 0 ∧ (((changesL A B).getD m noPlc).gone = true → fgetB cur ((changesL A B).getD m noPlc).name ((changesL A B).getD m noPlc).key = true) ∧ (((changesL A B).getD m noPlc).gone = false → fgetB cur ((changesL A B).getD m noPlc).name ((changesL A B).getD m noPlc).key = true → fgetV cur ((changesL A B).getD m noPlc).name ((changesL A B).getD m noPlc).key ≠ ((changesL A B).getD m noPlc).value)) := fun m hm cur h => gone_get FI.out FJ.out hm h
  have HGS : Hid (∀ m, m < (changesL A B).length → ∀ cur, Mid A B (goneTo (changesL A B) m) cur → ((changesL A B).getD m noPlc).gone = true → appliedE cur [(changesL A B).getD m noPlc] = 0 ∧ Mid A B (goneTo (changesL A B) (m + 1)) (appliedF cur [(changesL A B).getD m noPlc])) := fun m hm cur h hg => gone_step FI.out FJ.out hm h hg
  have HPS : Hid (∀ m, m < (changesL A B).length → ∀ cur, Mid A B (putTo (changesL A B) m) cur → ((changesL A B).getD m noPlc).gone = false → appliedE cur [(changesL A B).getD m noPlc] = 0 ∧ Mid A B (putTo (changesL A B) (m + 1)) (appliedF cur [(changesL A B).getD m noPlc])) := fun m hm cur h hg => put_step FI.out FJ.out hm h hg
  have HEN : Hid (∀ cur, Mid A B (putTo (changesL A B) (changesL A B).length) cur → cur = B) := fun cur h => put_end FI.out FJ.out h
  have HWE : Hid (∀ m, m < (changesL A B).length → writeE ((changesL A B).getD m noPlc) = 0) := fun m hm => change_ok FI.out FJ.out (getD_in hm)
  generalize changesL A B = L at *
  clear z1 z2 z3 z4 z5 z6 HC HFO
  go_wp2_with fail
  refine (C1.out _ (grown_refl _ _)).mono ?_
  rintro e w4 ⟨y4, rfl, h4, hg4⟩
  obtain ⟨ya, yc, rfl⟩ := h4.shape
  have X4 : Hid (WritesIs w4 (.slice ya L.length yc) L) := h4
  have hycap := h4.capM
  clear h4
  go_wp2_with fail
  refine (F1.out _ hg4).mono ?_
  rintro e w5 ⟨y5, rfl, h5, hg5⟩
  obtain ⟨xa, xc, rfl⟩ := h5.shape
  have X5 : Hid (TensIs w5 (.slice xa A.length xc) A) := h5
  have hg35 := grown_trans hg4 hg5
  clear h5
  go_wp2_with fail
  refine (F2.out _ hg35).mono ?_
  rintro e w6 ⟨y6, rfl, h6, hg6⟩
  obtain ⟨ta, tc, rfl⟩ := h6.shape
  have X6 : Hid (TensIs w6 (.slice ta B.length tc) B) := h6
  have hg36 := grown_trans hg35 hg6
  have X64 : Hid (WritesIs w6 (.slice ya L.length yc) L) := X4.out.grown (grown_trans hg5 hg6)
  have X65 : Hid (TensIs w6 (.slice xa A.length xc) A) := X5.out.grown hg6
  clear h6
  obtain ⟨al, hal⟩ : ∃ al, al = A.length := ⟨_, rfl⟩
  rw [← hal] at X65 ⊢
  clear hal
  go_upto_region 7 with fail
  go_cut [75] (fun s75 wx => s75 = .bool false ∧ wx = w6)
  case first =>
    by_cases hij : i = j
    · have hL0 := HNN.out hij
      have j1 : ((i : Int) == (j : Int)) = true := by simp [hij]
      have j2 : ¬ (L.length : Int) > 0 := by omega
      have HL0 : Hid (L.length = 0) := hL0
      clear hij hL0
      go_wp2_with fail
      go_meet
      case rel => exact ⟨by rw [HL0.out]; rfl, rfl⟩
    · have j1 : ((i : Int) == (j : Int)) = false := by simp; omega
      clear hij
      go_wp2_with fail
      go_meet
      case rel => exact ⟨rfl, rfl⟩
  case rest =>
    obtain ⟨rfl, hwc⟩ := hcut
    rw [hwc]
    clear hwc C1 F1 F2 KC
    go_wp2_with fail
    go_loopw [12, 16] (fun sx si wr => ∃ m : Nat, si = .int .i64 (m : Int) ∧ m ≤ L.length ∧ (∃ cur, TensIs wr sx cur ∧ Mid A B (goneTo L m) cur) ∧ w6.grownBy wr none) (fun _ si _ => L.length - (intOf si).toNat)
    case atStart => exact ⟨0, rfl, by omega, ⟨A, X65.out, MST.out⟩, grown_refl _ _⟩
    case round =>
      obtain ⟨m, rfl, hm, ⟨cur, hcur, hmid⟩, hgr⟩ := hrel
      obtain ⟨ua, uc, rfl⟩ := hcur.shape
      by_cases hlt : m < L.length
      · have i1 : (m : Int) < (L.length : Int) := by omega
        obtain ⟨b, o, rfl, hat⟩ := X64.out.at m hlt
        obtain ⟨vn, vk, vv, c1w, c2w, c3w, c4w, s1, s2, s3⟩ := hat
        have c1 := hgr.cell c1w (by simp)
        have c2 := hgr.cell c2w (by simp)
        have c3 := hgr.cell c3w (by simp)
        have c4 := hgr.cell c4w (by simp)
        obtain ⟨g1, g2, g3⟩ := HGG.out m hlt cur hmid
        have hgs := HGS.out m hlt cur hmid
        have hwe := (writeE_iff _).1 (HWE.out m hlt)
        have hfit := writes_fitsM (HWE.out m hlt)
        have HGP : Hid ((L.getD m noPlc).gone = false → Mid A B (goneTo L (m + 1)) cur) := fun h => by rw [goneTo_put hlt h]; exact hmid
        obtain ⟨sa, sc, sl, hsl⟩ := wslice_one (some ⟨b, o, none⟩) yc L m hlt hycap
        have GE : Hid (∀ w', wr.grownBy w' none → Calls Try.prog 10 #[.slice ua cur.length uc, vn, vk] w' fun e w'' => ∃ fa fc, e = .returned (.tuple #[.agg #[.bool (fgetB cur (L.getD m noPlc).name (L.getD m noPlc).key), .slice fa (fgetV cur (L.getD m noPlc).name (L.getD m noPlc).key).length fc], .int .i64 0]) ∧ SliceIs w'' (.slice fa (fgetV cur (L.getD m noPlc).name (L.getD m noPlc).key).length fc) (fgetV cur (L.getD m noPlc).name (L.getD m noPlc).key) ∧ w'.grownBy w'' none) := fun w' h => by
          have := HGT.out w' _ vn vk cur _ _ (hcur.grown h) (s1.grown (grown_trans hgr h)) (s2.grown (grown_trans hgr h)) hmid.forest.fits (by omega) (by omega)
          rw [g1] at this
          refine this.mono ?_
          rintro e w'' ⟨z, rfl, hz, hg'⟩
          obtain ⟨fa, fc, rfl⟩ := hz.shape
          exact ⟨fa, fc, rfl, hz, hg'⟩
        have AP : Hid ((L.getD m noPlc).gone = true → ∀ w', wr.grownBy w' none → Calls Try.prog 12 #[.slice ua cur.length uc, .slice sa 1 sc] w' fun e w'' => ∃ z, e = .returned (.tuple #[z, .int .i64 0]) ∧ (∃ nx, TensIs w'' z nx ∧ Mid A B (goneTo L (m + 1)) nx) ∧ w'.grownBy w'' none) := fun hg w' h => by
          obtain ⟨q1, q2⟩ := hgs hg
          have := HA.out w' _ _ cur [L.getD m noPlc] (hcur.grown h) (hsl w' (X64.out.grown (grown_trans hgr h))) hmid.forest.fits hfit
          rw [q1] at this
          refine this.mono ?_
          rintro e w'' ⟨z, rfl, hz, hg'⟩
          exact ⟨z, rfl, ⟨_, hz, q2⟩, hg'⟩
        have HCR : Hid (TensIs wr (.slice ua cur.length uc) cur) := hcur
        have HPV : Hid (0 < m → plt (L.getD (m - 1) noPlc) (L.getD m noPlc) = true) := fun h => prises_step HPR.out m h hlt
        have HS1 : Hid (SliceIs w6 vn (L.getD m noPlc).name) := s1
        have HS2 : Hid (SliceIs w6 vk (L.getD m noPlc).key) := s2
        have HS3 : Hid (SliceIs w6 vv (L.getD m noPlc).value) := s3
        have G2 : Hid ((L.getD m noPlc).gone = true → fgetB cur (L.getD m noPlc).name (L.getD m noPlc).key = true) := g2
        have G3 : Hid ((L.getD m noPlc).gone = false → fgetB cur (L.getD m noPlc).name (L.getD m noPlc).key = true → fgetV cur (L.getD m noPlc).name (L.getD m noPlc).key ≠ (L.getD m noPlc).value) := g3
        obtain ⟨P, hP⟩ : ∃ P, P = L.getD m noPlc := ⟨_, rfl⟩
        rw [← hP] at c3 GE AP HGP HPV HS1 HS2 HS3 G2 G3
        obtain ⟨n1, n2, rfl⟩ := s1.shape
        obtain ⟨n3, n4, rfl⟩ := s2.shape
        obtain ⟨n5, n6, rfl⟩ := s3.shape
        rw [← hP] at c1 c2 c4 HS1 HS2 HS3 GE
        clear g1 g2 g3 hgs hwe hfit hcur s1 s2 s3 hsl c1w c2w c3w c4w hP
        generalize fgetB cur P.name P.key = FB at *
        generalize fgetV cur P.name P.key = FV at *
        generalize cur.length = ul at *
        obtain ⟨W7, HW7, hgW7, B7⟩ := alloc_namedM wr (.cells #[.slice n1 P.name.length n2, .slice n3 P.key.length n4, .bool P.gone, .slice n5 P.value.length n6] 35)
        obtain ⟨⟨b0, b1, b2, b3⟩, _⟩ := quad_room (grown_refl W7 none) B7.out
        have hg67 := grown_trans hgr hgW7
        go_upto_region 13 with fail
        rw [← HW7.out]
        clear c1 c2 c3 c4
        obtain ⟨XB, hXB⟩ : ∃ XB, XB = wr.heap.size := ⟨_, rfl⟩
        have HXB : Hid (XB = wr.heap.size) := hXB
        rw [← hXB] at B7 b0 b1 b2 b3 ⊢
        clear hXB
        go_cut [130] (fun s130 wx => s130 = .bool false ∧ W7.grownBy wx none)
        case first =>
          clear HGG HGS HPS HEN HWE HA HGT KP GE AP HCR HGP MST G2 G3
          by_cases hm0 : 0 < m
          · obtain ⟨p, hp⟩ : ∃ p, m = p + 1 := ⟨m - 1, by omega⟩
            have hpm : m - 1 = p := by omega
            have iw : IntKind.i64.wrap ((m : Int) - 1) = (p : Int) := by rw [IntKind.wrap_i64]; omega
            have i3 : (p : Int) < (L.length : Int) := by omega
            have ig : decide ((m : Int) > 0) = true := by simp; omega
            have ig2 : decide (0 < m) = true := by simp; omega
            have ig3 : decide ((0 : Int) < (m : Int)) = true := by simp; omega
            have hpv := HPV.out hm0
            rw [hpm] at hpv
            obtain ⟨b', o', he, hat⟩ := X64.out.at p (by omega)
            simp only [Option.some.injEq, Addr.mk.injEq] at he
            obtain ⟨rfl, rfl, _⟩ := he
            obtain ⟨tn, tk, tv, d1w, d2w, _, _, r1, r2, _⟩ := hat
            have d1 := hg67.cell d1w (by simp)
            have d2 := hg67.cell d2w (by simp)
            have hpc := plt_cases hpv
            have R1 : Hid (SliceIs w6 tn (L.getD p noPlc).name) := r1
            have R2 : Hid (SliceIs w6 tk (L.getD p noPlc).key) := r2
            obtain ⟨t1, t2, rfl⟩ := r1.shape
            obtain ⟨t3, t4, rfl⟩ := r2.shape
            generalize L.getD p noPlc = Q at *
            have cv1 : ∀ n, (convert 33 9 (.slice n1 P.name.length n2)).run Try.prog (W7.drewN n) = .ok (.string (textOf P.name)) (W7.drewN n) := fun n => conv_bytes _ _ _ ((HS1.out.grown hg67).drewN n)
            have cv2 : ∀ n, (convert 33 9 (.slice n3 P.key.length n4)).run Try.prog (W7.drewN n) = .ok (.string (textOf P.key)) (W7.drewN n) := fun n => conv_bytes _ _ _ ((HS2.out.grown hg67).drewN n)
            have cv3 : ∀ n, (convert 33 9 (.slice t1 Q.name.length t2)).run Try.prog (W7.drewN n) = .ok (.string (textOf Q.name)) (W7.drewN n) := fun n => conv_bytes _ _ _ ((R1.out.grown hg67).drewN n)
            have cv4 : ∀ n, (convert 33 9 (.slice t3 Q.key.length t4)).run Try.prog (W7.drewN n) = .ok (.string (textOf Q.key)) (W7.drewN n) := fun n => conv_bytes _ _ _ ((R2.out.grown hg67).drewN n)
            have HPC : Hid ((P.name = Q.name ∧ klt Q.key P.key = true) ∨ (P.name ≠ Q.name ∧ klt Q.name P.name = true)) := hpc
            clear hpc hpv hpm d1w d2w r1 r2 R1 R2 HS1 HS2 HS3 HPV X64 hp
            rcases HPC.out with ⟨hnm, hky⟩ | ⟨hnm, hky⟩
            · have q1 : ((textOf P.name).toList == (textOf Q.name).toList) = true := by rw [textOf_list, textOf_list, hnm]; simp
              have q1' : (P.name == Q.name) = true := by rw [hnm]; simp
              have q2 : Op.bytesLess (textOf P.key).toList (textOf Q.key).toList = false := by rw [textOf_list, textOf_list]; exact klt_asymm _ _ hky
              have q3 : ((textOf P.key).toList == (textOf Q.key).toList) = false := by rw [textOf_list, textOf_list]; simpa using (klt_ne hky).symm
              have q3' : (P.key == Q.key) = false := by simpa using (klt_ne hky).symm
              have q4 : Op.bytesLess (textOf P.name).toList (textOf Q.name).toList = false := by rw [textOf_list, textOf_list, hnm]; exact klt_irrefl _
              clear hnm hky HPC
              go_quiet (fail)
              all_goals (go_wp2_with fail; go_meet; case rel => exact ⟨rfl, by first | exact grown_drewN (grown_refl _ _) _ | exact grown_refl _ _⟩)
            · have q1 : ((textOf P.name).toList == (textOf Q.name).toList) = false := by rw [textOf_list, textOf_list]; simpa using hnm
              have q1' : (P.name == Q.name) = false := by simpa using hnm
              have q4 : Op.bytesLess (textOf P.name).toList (textOf Q.name).toList = false := by rw [textOf_list, textOf_list]; exact klt_asymm _ _ hky
              clear hnm hky HPC
              go_quiet (fail)
              all_goals (go_wp2_with fail; go_meet; case rel => exact ⟨rfl, by first | exact grown_drewN (grown_refl _ _) _ | exact grown_refl _ _⟩)
          · obtain rfl : m = 0 := by omega
            have ig : ¬ (((0 : Nat) : Int) > 0) := by omega
            clear HS1 HS2 HS3 hm0 HPV X64
            go_quiet (fail)
            all_goals (go_wp2_with fail; go_meet; case rel => exact ⟨rfl, by first | exact grown_drewN (grown_refl _ _) _ | exact grown_refl _ _⟩)
        case rest =>
          obtain ⟨rfl, hgx⟩ := hcut
          obtain ⟨W8, hW8⟩ : ∃ W8, W8 = wc := ⟨_, rfl⟩
          rw [← hW8] at hgx ⊢
          clear hW8
          have hgr8 := grown_trans hgW7 hgx
          have B8 := pair_old hgx B7.out
          have HB8 : Hid (W8.heap[XB]? = some (.cells #[.slice n1 P.name.length n2, .slice n3 P.key.length n4, .bool P.gone, .slice n5 P.value.length n6] 35)) := B8
          obtain ⟨⟨d0, d1, d2, d3⟩, _⟩ := quad_room (grown_refl W8 none) B8
          clear b0 b1 b2 b3 B8 HPV HGG HGS HPS HEN HWE HA HGT KP MST HNN
          go_wp2_with fail
          refine (GE.out _ hgr8).mono ?_
          rintro e w9 ⟨fa, fc, rfl, hz, hg9⟩
          obtain ⟨W10, HW10, hgW10, B10⟩ := alloc_namedM w9 (.cells #[.bool FB, .slice fa FV.length fc] 37)
          obtain ⟨f0, f1, _, _⟩ := pair_room (grown_refl W10 none) B10.out
          have hg810 := grown_trans hg9 hgW10
          have hgr10 := grown_trans hgr8 hg810
          have hg610 := grown_trans hgr hgr10
          obtain ⟨⟨k0, k1, k2, k3⟩, _⟩ := quad_room hg810 HB8.out
          have HZ : Hid (SliceIs W10 (.slice fa FV.length fc) FV) := hz.grown hgW10
          have SMV : Hid (FV ≠ P.value → Calls Try.prog 11 #[.slice fa FV.length fc, .slice n5 P.value.length n6] W10 fun e w'' => e = .returned (.bool false) ∧ w'' = W10) := fun h => by
            have := same_any W10 _ _ FV P.value HZ.out (HS3.out.grown hg610)
            rw [decide_eq_false h] at this
            exact this
          clear hz d0 d1 d2 d3
          go_upto_region 16 with fail
          rw [← HW10.out]
          have slw := sl W10
          obtain ⟨G, hG⟩ : ∃ G, G = P.gone := ⟨_, rfl⟩
          rw [← hG] at k2 AP HGP G2 G3
          clear hG
          obtain ⟨ZB, hZB⟩ : ∃ ZB, ZB = w9.heap.size := ⟨_, rfl⟩
          rw [← hZB] at f0 f1 B10 ⊢
          clear hZB
          generalize P.value.length = vl at *
          generalize FV.length = fl at *
          cases G with
          | true =>
            have hFB := G2.out rfl
            subst hFB
            clear G2 G3 HGP SMV
            go_wp2_with fail
            refine (AP.out (by first | rfl | trivial) _ hgr10).mono ?_
            rintro e w11 ⟨z, rfl, ⟨nx, hnx, hmx⟩, hg11⟩
            obtain ⟨za, zc, rfl⟩ := hnx.shape
            have HNX : Hid (TensIs w11 (.slice za nx.length zc) nx) := hnx
            have HMX : Hid (Mid A B (goneTo L (m + 1)) nx) := hmx
            have hg611 := grown_trans hg610 hg11
            clear hnx hmx slw f0 f1 k0 k1 k2 k3
            generalize nx.length = nl at *
            go_wp2_with fail
            go_roundw
            case rel =>
              first
                | exact ⟨m + 1, by go_num, by omega, ⟨nx, HNX.out, HMX.out⟩, hg611⟩
                | ((repeat apply Exists.intro); refine ⟨⟨m + 1, ?_, by omega, ⟨nx, HNX.out, HMX.out⟩, hg611⟩, rfl⟩; go_num)
            case measure => simp [intOf]; omega
          | false =>
            have HMX : Hid (Mid A B (goneTo L (m + 1)) cur) := HGP.out (by first | rfl | trivial)
            have HCX : Hid (TensIs W10 (.slice ua ul uc) cur) := HCR.out.grown hgr10
            cases FB with
            | false =>
              clear G2 G3 HGP SMV AP slw
              go_wp2_with fail
              go_roundw
              case rel =>
                first
                  | exact ⟨m + 1, by go_num, by omega, ⟨cur, HCX.out, HMX.out⟩, hg610⟩
                  | ((repeat apply Exists.intro); refine ⟨⟨m + 1, ?_, by omega, ⟨cur, HCX.out, HMX.out⟩, hg610⟩, rfl⟩; go_num)
              case measure => simp [intOf]; omega
            | true =>
              have hne := G3.out (by first | rfl | trivial) (by first | rfl | trivial)
              have SV := SMV.out hne
              have HSV : Hid (Calls Try.prog 11 #[.slice fa fl fc, .slice n5 vl n6] W10 fun e w'' => e = .returned (.bool false) ∧ w'' = W10) := SV
              clear G2 G3 HGP SMV AP slw hne SV
              go_wp2_with fail
              refine HSV.out.mono ?_
              rintro e w11 ⟨rfl, rfl⟩
              go_wp2_with fail
              go_roundw
              case rel =>
                first
                  | exact ⟨m + 1, by go_num, by omega, ⟨cur, HCX.out, HMX.out⟩, hg610⟩
                  | ((repeat apply Exists.intro); refine ⟨⟨m + 1, ?_, by omega, ⟨cur, HCX.out, HMX.out⟩, hg610⟩, rfl⟩; go_num)
              case measure => simp [intOf]; omega
      · obtain rfl : m = L.length := by omega
        have i1 : ¬ (L.length : Int) < (L.length : Int) := by omega
        rw [gone_end] at hmid
        have HM0 : Hid (Mid A B (putTo L 0) cur) := hmid
        have HC0 : Hid (TensIs wr (.slice ua cur.length uc) cur) := hcur
        clear hmid hcur
        generalize cur.length = ul at *
        go_wp2_with fail
        go_loopw [12, 22] (fun sx si wr => ∃ m : Nat, si = .int .i64 (m : Int) ∧ m ≤ L.length ∧ (∃ cur, TensIs wr sx cur ∧ Mid A B (putTo L m) cur) ∧ w6.grownBy wr none) (fun _ si _ => L.length - (intOf si).toNat)
        case atStart => exact ⟨0, rfl, by omega, ⟨cur, HC0.out, HM0.out⟩, hgr⟩
        case round =>
          obtain ⟨m, rfl, hm, ⟨cur, hcur, hmid⟩, hgr⟩ := hrel
          obtain ⟨ua, uc, rfl⟩ := hcur.shape
          by_cases hlt : m < L.length
          · have i2 : (m : Int) < (L.length : Int) := by omega
            obtain ⟨b, o, rfl, hat⟩ := X64.out.at m hlt
            obtain ⟨vn, vk, vv, _, _, c3w, _, _, _, _⟩ := hat
            have c3 := hgr.cell c3w (by simp)
            have hps := HPS.out m hlt cur hmid
            have hfit := writes_fitsM (HWE.out m hlt)
            obtain ⟨sa, sc, sl, hsl⟩ := wslice_one (some ⟨b, o, none⟩) yc L m hlt hycap
            have AP : Hid ((L.getD m noPlc).gone = false → Calls Try.prog 12 #[.slice ua cur.length uc, .slice sa 1 sc] wr fun e w'' => ∃ z, e = .returned (.tuple #[z, .int .i64 0]) ∧ (∃ nx, TensIs w'' z nx ∧ Mid A B (putTo L (m + 1)) nx) ∧ wr.grownBy w'' none) := fun hg => by
              obtain ⟨q1, q2⟩ := hps hg
              have := HA.out wr _ _ cur [L.getD m noPlc] hcur (hsl wr (X64.out.grown hgr)) hmid.forest.fits hfit
              rw [q1] at this
              refine this.mono ?_
              rintro e w'' ⟨z, rfl, hz, hg'⟩
              exact ⟨z, rfl, ⟨_, hz, q2⟩, hg'⟩
            have HGN : Hid ((L.getD m noPlc).gone = true → Mid A B (putTo L (m + 1)) cur) := fun h => by rw [putTo_gone hlt h]; exact hmid
            have HCX : Hid (TensIs wr (.slice ua cur.length uc) cur) := hcur
            have slw := sl wr
            obtain ⟨G, hG⟩ : ∃ G, G = (L.getD m noPlc).gone := ⟨_, rfl⟩
            rw [← hG] at c3 AP HGN
            clear hG hps hfit hsl hcur hmid c3w sl
            generalize cur.length = ul at *
            cases G with
            | true =>
              have HMX : Hid (Mid A B (putTo L (m + 1)) cur) := HGN.out rfl
              clear HGN AP slw
              go_wp2_with fail
              go_roundw
              case rel =>
                first
                  | exact ⟨m + 1, by go_num, by omega, ⟨cur, HCX.out, HMX.out⟩, hgr⟩
                  | ((repeat apply Exists.intro); refine ⟨⟨m + 1, ?_, by omega, ⟨cur, HCX.out, HMX.out⟩, hgr⟩, rfl⟩; go_num)
              case measure => simp [intOf]; omega
            | false =>
              go_wp2_with fail
              refine (AP.out (by first | rfl | trivial)).mono ?_
              rintro e w11 ⟨z, rfl, ⟨nx, hnx, hmx⟩, hg11⟩
              obtain ⟨za, zc, rfl⟩ := hnx.shape
              have HNX : Hid (TensIs w11 (.slice za nx.length zc) nx) := hnx
              have HMX : Hid (Mid A B (putTo L (m + 1)) nx) := hmx
              have hg611 := grown_trans hgr hg11
              clear hnx hmx slw c3
              generalize nx.length = nl at *
              go_wp2_with fail
              go_roundw
              case rel =>
                first
                  | exact ⟨m + 1, by go_num, by omega, ⟨nx, HNX.out, HMX.out⟩, hg611⟩
                  | ((repeat apply Exists.intro); refine ⟨⟨m + 1, ?_, by omega, ⟨nx, HNX.out, HMX.out⟩, hg611⟩, rfl⟩; go_num)
              case measure => simp [intOf]; omega
          · obtain rfl : m = L.length := by omega
            have i2 : ¬ (L.length : Int) < (L.length : Int) := by omega
            have hcB := HEN.out cur hmid
            subst hcB
            have SF : Hid (Calls Try.prog 13 #[.slice ua cur.length uc, .slice ta cur.length tc] wr fun e w'' => e = .returned (.bool true) ∧ wr.grownBy w'' none) := sameForest_same wr _ _ cur hcur (X6.out.grown hgr) hmid.forest.fits
            clear hcur hmid
            generalize cur.length = ul at *
            by_cases hl0 : l.length = 0
            · have q0 : ((l.length : Int) == 0) = true := by simp; simpa using hl0
              clear hl0
              go_wp2_with fail
              refine SF.out.mono ?_
              rintro e w12 ⟨rfl, hg12⟩
              go_wp2
              go_ret
              exact ⟨rfl, grown_trans hg1 (grown_trans hg36 (grown_trans hgr hg12))⟩
            · have q0 : ((l.length : Int) == 0) = false := by simp; simpa using hl0
              clear hl0
              go_wp2_with fail
              refine SF.out.mono ?_
              rintro e w12 ⟨rfl, hg12⟩
              go_wp2_with fail
              refine (KP.out _).mono ?_
              rintro e w13 ⟨rfl, hg13⟩
              go_wp2
              go_ret
              exact ⟨rfl, grown_trans hg1 (grown_trans hg36 (grown_trans hgr (grown_trans hg12 hg13)))⟩
end Go.Proofs.Ytljdconhplgipab
