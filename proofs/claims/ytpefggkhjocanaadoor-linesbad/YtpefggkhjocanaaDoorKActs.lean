/-
  The walk of canopykeep.acts: acts that may be, of raw numbers.
-/
import Derived.Test.YtpefggkhjocanaaDoorKAct
import Derived.Test.YtpefggkhjocanaaDoorAcMem
namespace Go.Proofs.YtpefggkhjocanaaDoor
open Go.RowKit
/-- Raw numbers in a list. -/
structure Ft where
  kind : Int
  num : Int
  data : List UInt8
def noFt : Ft := ⟨0, 0, []⟩
def FeatAt (w : World) (b o : Nat) (x : Ft) : Prop := ∃ vd, w.cell? ⟨b, o, none⟩ = some (.int .i64 x.kind) ∧ w.cell? ⟨b, o + 1, none⟩ = some (.int .i64 x.num) ∧ w.cell? ⟨b, o + 2, none⟩ = some vd ∧ SliceIs w vd x.data
theorem FeatAt.grown {w w' : World} {b o : Nat} {x : Ft} (h : FeatAt w b o x) (hg : w.grownBy w' none) : FeatAt w' b o x := by
  obtain ⟨vd, c1, c2, c3, h1⟩ := h
  exact ⟨vd, hg.cell c1 (by simp), hg.cell c2 (by simp), hg.cell c3 (by simp), h1.grown hg⟩
def FeatsIs (w : World) (v : Value) (l : List Ft) : Prop :=
  ∃ a cap, v = .slice a l.length cap ∧ l.length ≤ cap ∧ ((l = [] ∧ (a = none → cap = 0)) ∨ ∃ b o, a = some ⟨b, o, none⟩ ∧ ∀ i, i < l.length → FeatAt w b (o + i * 3) (l.getD i noFt))
theorem FeatsIs.shape {w : World} {v : Value} {l : List Ft} (h : FeatsIs w v l) : ∃ a cap, v = .slice a l.length cap := by
  obtain ⟨a, cap, rfl, _⟩ := h
  exact ⟨a, cap, rfl⟩
theorem FeatsIs.at {w : World} {a : Option Addr} {n cap : Nat} {l : List Ft} (h : FeatsIs w (.slice a n cap) l) (i : Nat) (hi : i < l.length) : ∃ b o, a = some ⟨b, o, none⟩ ∧ FeatAt w b (o + i * 3) (l.getD i noFt) := by
  obtain ⟨a', cap', e, hc, h⟩ := h
  simp only [Value.slice.injEq] at e
  obtain ⟨rfl, rfl, rfl⟩ := e
  rcases h with ⟨rfl, _⟩ | ⟨b, o, rfl, h⟩
  · simp at hi
  · exact ⟨b, o, rfl, h i hi⟩
structure FitsFt (l : List Ft) : Prop where
  many : l.length ≤ 140737488355328
  each : ∀ i, i < l.length → FeatFits (l.getD i noFt).kind (l.getD i noFt).num (l.getD i noFt).data
/-- Acts that may be, small ones. -/
def SmallA (l : List Ac) : Prop := ∀ a ∈ l, ActOK a ∧ a.data.length ≤ 80
set_option maxRecDepth 100000 in
set_option maxHeartbeats 2000000 in
theorem kacts_any (w : World) (v : Value) (l : List Ft) (most : Nat) (hm : most ≤ 1000) (hv : FeatsIs w v l) (hf : FitsFt l) :
    Calls Tryd.prog 14 #[v, .int .i64 (most : Int)] w fun e w' => ∃ (cs : List Ac) (v' : Value), e = .returned v' ∧ OwnA w.heap.size w' v' cs ∧ SmallA cs ∧ cs.length ≤ most ∧ w.grownBy w' none := by
  obtain ⟨a, cap, rfl⟩ := hv.shape
  have hmany := hf.many
  have HF : Hid (FitsFt l) := hf
  clear hf
  go_enter Tryd.func14, Tryd.ntmps14
  go_wp2_with fail
  go_loopw [5, 6] (fun cv i wr => ∃ (m : Nat) (cs : List Ac), m ≤ l.length ∧ m ≤ most ∧ i = .int .i64 (m : Int) ∧ OwnA w.heap.size wr cv cs ∧ SmallA cs ∧ cs.length = m ∧ w.grownBy wr none) (fun _ i _ => l.length - (intOf i).toNat)
  case atStart => exact ⟨0, [], by omega, by omega, rfl, ownA_nil _ _, fun a ha => by simp at ha, rfl, grown_refl _ _⟩
  case round =>
    obtain ⟨m, cs, hml, hmm, rfl, hown, hsm, hal, hg⟩ := hrel
    obtain ⟨ca, ccap, rfl⟩ := hown.shape
    have HSM : Hid (SmallA cs) := hsm
    have HOW : Hid (OwnA w.heap.size wr (.slice ca cs.length ccap) cs) := hown
    have HAL : Hid (cs.length = m) := hal
    have hal2 : cs.length ≤ 1000 := by omega
    clear hown hsm hal
    by_cases hlt : m < l.length
    · have i1 : (m : Int) < (l.length : Int) := by omega
      by_cases hlt2 : m < most
      · have i2 : (m : Int) < (most : Int) := by omega
        obtain ⟨b, o, rfl, hat⟩ := hv.at m hlt
        obtain ⟨vd, c1, c2, c3, s1⟩ := hat.grown hg
        have hpf := HF.out.each m hlt
        generalize l.getD m noFt = P at *
        obtain ⟨da, dc, rfl⟩ := s1.shape
        have KA : Hid (Calls Tryd.prog 29 #[.agg #[.int .i64 P.kind, .int .i64 P.num, .slice da P.data.length dc]] wr fun e w' => ∃ (a : Ac) (vd : Value), e = .returned (.agg #[.int .i64 a.kind, .int .i64 a.sess, .int .i64 a.keep, vd]) ∧ ActOK a ∧ a.data.length ≤ 80 ∧ PartIs 0 w' vd a.data ∧ wr.grownBy w' none) := kact_any wr _ _ _ _ ⟨_, rfl, s1⟩ hpf
        clear hat s1 hpf
        go_wp2_with fail
        refine KA.out.mono ?_
        rintro e w1 ⟨X, vd, rfl, hok, hd80, hp, hg1⟩
        obtain ⟨va, vc, rfl⟩ := hp.slice.shape
        obtain ⟨W2, HW2, hg2, B2⟩ := alloc_namedR w1 (.cells #[.int .i64 X.kind, .int .i64 X.sess, .int .i64 X.keep, .slice va X.data.length vc] 36)
        obtain ⟨⟨z0, z1, z2, z3⟩, _⟩ := quad_room (grown_refl W2 none) B2.out
        have hgw2 := grown_trans hg (grown_trans hg1 hg2)
        have HO2 : Hid (OwnA w.heap.size W2 (.slice ca cs.length ccap) cs) := HOW.out.grownNone (grown_trans hg1 hg2)
        have HP2 : Hid (PartIs 0 (W2.alloc (.cells #[.int .i64 X.kind, .int .i64 X.sess, .int .i64 X.keep, .slice va X.data.length vc] 36)) (.slice va X.data.length vc) X.data) := (hp.keptT hg2 (.inl rfl)).keptT (World.grownBy_alloc _ _ _) (.inl rfl)
        have HOK : Hid (ActOK X ∧ X.data.length ≤ 80) := ⟨hok, hd80⟩
        have hsz2 := hgw2.size
        clear hp HOW KA hg1 hg2 hok hd80 c1 c2 c3
        obtain ⟨B, hB⟩ : ∃ B, B = w1.heap.size := ⟨_, rfl⟩
        rw [← hB] at z0 z1 z2 z3 B2
        go_upto_region 6 with fail
        rw [← HW2.out, ← hB]
        clear hB HW2
        go_wp2_with (at_builtin; refine wpList_append_ac rfl _ _ rfl w.heap.size (.slice ca cs.length ccap) cs rfl (HO2.out.alloc _) (.slice va X.data.length vc) X HP2.out W2.heap.size (heap_alloc_new W2 _) rfl (by omega) (by simp; omega) ?_; intro v4 w4 ho4 hg4)
        have hgw4 : w.grownBy w4 none := grown_ownA (grown_alloc hgw2 _) (HO2.out.alloc _) (Nat.le_refl _) hg4
        go_roundw
        case rel => exact ⟨m + 1, cs ++ [X], by omega, by omega, by go_num, ho4, fun a ha => by
          rcases List.mem_append.1 ha with ha | ha
          · exact HSM.out a ha
          · simp only [List.mem_cons, List.not_mem_nil, or_false] at ha
            rw [ha]; exact HOK.out, by have := HAL.out; rw [List.length_append, List.length_singleton]; omega, hgw4⟩
        case measure => simp [intOf] <;> omega
      · have i2 : ¬ (m : Int) < (most : Int) := by omega
        go_wp2
        go_ret
        exact ⟨cs, _, rfl, HOW.out, HSM.out, by have := HAL.out; omega, hg⟩
    · have i1 : ¬ (m : Int) < (l.length : Int) := by omega
      go_wp2
      go_ret
      exact ⟨cs, _, rfl, HOW.out, HSM.out, by have := HAL.out; omega, hg⟩
end Go.Proofs.YtpefggkhjocanaaDoor
