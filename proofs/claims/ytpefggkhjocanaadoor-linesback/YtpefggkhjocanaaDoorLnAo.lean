/-
  lines.actOf, as it landed: the act of a line, and whether it is an act's line.
-/
import Derived.Test.YtpefggkhjocanaaDoorLnGu
import Derived.Test.YtpefggkhjocanaaDoorLnCkP
import Derived.Test.YtpefggkhjocanaaDoorLnPu
import Derived.Test.YtpefggkhjocanaaDoorLnBs
import Derived.Deep.RegionHeld3
namespace Go.Proofs.YtpefggkhjocanaaDoor
open Go.RowKit
theorem guess_fits (L : List UInt8) (hl : L.length ≤ 2000000) : AcFits (guessA L) := by
  have key : ∀ (k : Nat) (rs : List UInt8), k ≤ 4 → rs.length ≤ 2000000 → AcFits (guessK k rs) := by
    intro k rs hk hr
    rw [guessK]
    by_cases h1 : k = 1
    · rw [if_pos h1]
      have h2 := num_fits (Lib.cut rs [32]).1
      have h3 := (cut_le rs).2
      refine ⟨by show (-9223372036854775808 : Int) ≤ 1 ∧ (1 : Int) ≤ _; omega, h2, by show (-9223372036854775808 : Int) ≤ 0 ∧ (0 : Int) ≤ _; omega, ?_⟩
      show (bytesF _ _).length ≤ _
      simp [bytesF]
      omega
    · rw [if_neg h1]
      by_cases h3 : k = 3
      · rw [if_pos h3]
        exact ⟨by show (-9223372036854775808 : Int) ≤ 3 ∧ (3 : Int) ≤ _; omega, by show (-9223372036854775808 : Int) ≤ 0 ∧ (0 : Int) ≤ _; omega, num_fits rs, by simp⟩
      · rw [if_neg h3]
        exact ⟨by show (-9223372036854775808 : Int) ≤ (k : Int) ∧ (k : Int) ≤ _; omega, by show (-9223372036854775808 : Int) ≤ 0 ∧ (0 : Int) ≤ _; omega, by show (-9223372036854775808 : Int) ≤ 0 ∧ (0 : Int) ≤ _; omega, by simp⟩
  have hk : ∀ x, kindF x ≤ 4 := fun x => by
    rw [kindF]
    split
    · omega
    · split
      · omega
      · split
        · omega
        · split <;> omega
  have h1 := trim_le L
  have h2 := (cut_le (Lib.trimSuffix L [10])).2
  exact key _ _ (hk _) (by omega)
theorem hid_ao {p : Prop} (h : p) : Hid p := h
/-- What actOf says of a line. -/
def LineIs (L : List UInt8) (a : Ac) (z : Bool) : Prop := (z = true ∧ ActOK a ∧ L = lineF a ++ [10]) ∨ (z = false ∧ ∀ a', ActOK a' → L ≠ lineF a' ++ [10])
theorem line_bad {L : List UInt8} (h : actE (guessA L) ≠ 0) (a : Ac) : LineIs L a false := .inr ⟨rfl, fun a' ho e => by
  have := guess_line ho
  rw [← e] at this
  rw [this] at h
  exact h ((act_iff a').2 ho)⟩
theorem line_is {L : List UInt8} (h : actE (guessA L) = 0) : LineIs L (guessA L) ((textOf (lineF (guessA L) ++ [10])).toList == (textOf L).toList) := by
  have ho := (act_iff _).1 h
  by_cases e : lineF (guessA L) ++ [10] = L
  · exact .inl ⟨text_is _ _ e, ho, e.symm⟩
  · refine .inr ⟨text_not _ _ e, fun a' ho' e' => e ?_⟩
    have := guess_line ho'
    rw [← e'] at this
    rw [this, e']
set_option maxRecDepth 100000 in
set_option maxHeartbeats 4000000 in
theorem actOf_any (w : World) (L : List UInt8) (hl : L.length ≤ 2000000) (hT : LnT w) :
    Calls Tryd.prog 27 #[.string (textOf L)] w fun e w' => ∃ a vd z, e = .returned (.tuple #[.agg #[.int .i64 a.kind, .int .i64 a.sess, .int .i64 a.keep, vd], .bool z]) ∧ PartIs 0 w' vd a.data ∧ LineIs L a z ∧ w.grownBy w' none := by
  obtain ⟨W0, HW0, hg0, R0⟩ := alloc_namedR w (.cells #[.int .i64 0, .int .i64 0, .int .i64 0, .slice none 0 0] 36)
  have hR0 : w.heap.size < W0.heap.size := by rw [HW0.out]; simp
  have GU : Hid (Calls Tryd.prog 40 #[.string (textOf L)] W0 fun e w' => ∃ vd, e = .returned (.agg #[.int .i64 (guessA L).kind, .int .i64 (guessA L).sess, .int .i64 (guessA L).keep, vd]) ∧ PartIs 0 w' vd (guessA L).data ∧ W0.grownBy w' none) := guess_any W0 L hl (hT.grown hg0)
  have HLB : Hid (actE (guessA L) ≠ 0 → ∀ a, LineIs L a false) := fun h a => line_bad h a
  have HLI : Hid (actE (guessA L) = 0 → LineIs L (guessA L) ((textOf (lineF (guessA L) ++ [10])).toList == (textOf L).toList)) := fun h => line_is h
  have HT : Hid (∀ W, w.grownBy W none → WrdT W) := fun W h => (hT.grown h).toWrdT
  have hfit := guess_fits L hl
  generalize guessA L = G at *
  clear hT hl
  go_enter Tryd.func27, Tryd.ntmps27
  go_upto_region 1 with fail
  rw [← HW0.out]
  clear HW0
  obtain ⟨R, hR⟩ : ∃ R, R = w.heap.size := ⟨_, rfl⟩
  have HRw : Hid (w.heap.size ≤ R) := by show _ ≤ _; omega
  rw [← hR] at R0 hR0 ⊢
  clear hR
  go_wp2_with fail
  refine GU.out.mono ?_
  rintro e w1 ⟨vd, rfl, hp1, hg1⟩
  obtain ⟨va, vc, rfl⟩ := hp1.1.shape
  obtain ⟨W2, HW2, hg2, BX⟩ := alloc_namedR w1 (.cells #[.int .i64 G.kind, .int .i64 G.sess, .int .i64 G.keep, .slice va G.data.length vc] 36)
  have hg02 := grown_trans hg0 (grown_trans hg1 hg2)
  have R2 := pair_old (grown_trans hg1 hg2) R0.out
  have hp2 : PartIs 0 W2 (.slice va G.data.length vc) G.data := hp1.keptT hg2 (.inl rfl)
  have CK : Hid (Calls Tryd.prog 18 #[.agg #[.int .i64 G.kind, .int .i64 G.sess, .int .i64 G.keep, .slice va G.data.length vc]] W2 fun e w' => e = .returned (.int .i64 (actE G)) ∧ W2.grownBy w' none) := lncheck_ok W2 _ G ⟨_, rfl, hp2.1⟩ hfit
  obtain ⟨⟨x0, x1, x2, x3⟩, _⟩ := quad_room (grown_refl W2 none) BX.out
  have HP2 : Hid (PartIs 0 W2 (.slice va G.data.length vc) G.data) := hp2
  have hRX : R ≠ w1.heap.size := by have := hg1.size; omega
  have hs1 := hg1.size
  clear hp1 hp2 GU hfit
  go_upto_region 2 with fail
  rw [← HW2.out]
  clear HW2
  obtain ⟨X, hX⟩ : ∃ X, X = w1.heap.size := ⟨_, rfl⟩
  rw [← hX] at BX x0 x1 x2 x3 hRX ⊢
  clear hX
  go_wp2_with fail
  refine CK.out.mono ?_
  rintro e w3 ⟨rfl, hg3⟩
  have hg03 := grown_trans hg02 hg3
  have R3 : Hid (w3.heap[R]? = some (.cells #[.int .i64 0, .int .i64 0, .int .i64 0, .slice none 0 0] 36)) := pair_old hg3 R2
  have BX3 : Hid (w3.heap[X]? = some (.cells #[.int .i64 G.kind, .int .i64 G.sess, .int .i64 G.keep, .slice va G.data.length vc] 36)) := pair_old hg3 BX.out
  have HP3 : Hid (PartIs 0 w3 (.slice va G.data.length vc) G.data) := HP2.out.keptT hg3 (.inl rfl)
  clear x0 x1 x2 x3 R2 CK BX HP2
  by_cases hz : actE G = 0
  · have HA : (actE G != 0) = false := by simp [hz]
    have HLN := hid_ao (HLI.out hz)
    have hok := (act_iff G).1 hz
    obtain ⟨W4, HW4, hg4, BP⟩ := alloc_namedR w3 (.cells #[.pointer none, .slice none 0 0] 48)
    have hp0 : PageIs w3.heap.size w3.heap.size [] W4 := .inl ⟨Nat.le_refl _, .slice none 0 0, BP.out, World.ownsRow_nil _ _ _ _, by simp [Value.ownBlock]⟩
    have PT : Hid (Calls Tryd.prog 21 #[.func (.func 20) #[.pointer (some ⟨w3.heap.size, 0, none⟩)] #[], .agg #[.int .i64 G.kind, .int .i64 G.sess, .int .i64 G.keep, .slice va G.data.length vc]] W4 fun e w' => e = .returned (.tuple #[]) ∧ PageIs w3.heap.size w3.heap.size ([] ++ lineF G ++ [10]) w' ∧ Below w3.heap.size w3 w') := putLine_any w3 W4 w3.heap.size _ G [] (HT.out w3 hg03) ⟨_, rfl, HP3.out.1⟩ hok hp0 (grown_belowB hg4 (Nat.le_refl _)) (by simp)
    obtain ⟨⟨x0, x1, x2, x3⟩, _⟩ := quad_room (grown_refl W4 none) (pair_old hg4 BX3.out)
    generalize actE G = z at *
    subst hz
    clear hp0 hok HLB HLI BP hg4 HA
    go_upto_region 5 with fail
    rw [← HW4.out]
    clear HW4
    go_wp2_with fail
    refine PT.out.mono ?_
    rintro e w5 ⟨rfl, hp5, hb5⟩
    rw [List.nil_append] at hp5
    have hg35 := belowB_grown hb5
    have SG : Hid (∀ W, w5.grownBy W none → Calls Tryd.prog 22 #[.pointer (some ⟨w3.heap.size, 0, none⟩)] W fun e w' => e = .returned (.string (textOf (lineF G ++ [10]))) ∧ w3.grownBy w' none) := fun W h => (string_any _ _ _ W (hp5.grownNone h) (by simp)).mono fun e w' ⟨h1, h2⟩ => ⟨h1, belowB_grown ((hb5.trans (grown_belowB h hb5.size)).trans h2)⟩
    obtain ⟨PB, hPB⟩ : ∃ PB, PB = w3.heap.size := ⟨_, rfl⟩
    rw [← hPB] at SG ⊢
    clear hp5 PT hPB x0 x1 x2 x3
    generalize lineF G ++ [10] = LG at *
    generalize textOf LG = TG at *
    have hgd := grown_drew (grown_refl w5 none)
    have BX5 := pair_old hg35 BX3.out
    obtain ⟨⟨y0, y1, y2, y3⟩, _⟩ := quad_room hgd BX5
    obtain ⟨⟨u0, u1, u2, u3⟩, _⟩ := quad_room (grown_refl w5 none) BX5
    have HPF : Hid (∀ W : World, w3.grownBy W none → PartIs 0 ((((W.setCell ⟨R, 0, none⟩ (.int .i64 G.kind)).setCell ⟨R, 1, none⟩ (.int .i64 G.sess)).setCell ⟨R, 2, none⟩ (.int .i64 G.keep)).setCell ⟨R, 3, none⟩ (.slice va G.data.length vc)) (.slice va G.data.length vc) G.data) := fun W h => (HP3.out.keptT h (.inl rfl)).keptT (grown_set (grown_set (grown_set (grown_set (grown_refl W (some R)) 0 _) 1 _) 2 _) 3 _) (.inr ⟨R, _, _, _, rfl, Nat.zero_le _, pair_old h R3.out, acT5⟩)
    have HBX : Hid (∀ W : World, w3.grownBy W none → ((((W.setCell ⟨R, 0, none⟩ (.int .i64 G.kind)).setCell ⟨R, 1, none⟩ (.int .i64 G.sess)).setCell ⟨R, 2, none⟩ (.int .i64 G.keep)).setCell ⟨R, 3, none⟩ (.slice va G.data.length vc)).heap[X]? = some (.cells #[.int .i64 G.kind, .int .i64 G.sess, .int .i64 G.keep, .slice va G.data.length vc] 36)) := fun W h => set_elseG (set_elseG (set_elseG (set_elseG (pair_old h BX3.out) hRX.symm) hRX.symm) hRX.symm) hRX.symm
    have HRX : Hid (∀ W : World, w3.grownBy W none → W.heap[R]? = some (.cells #[.int .i64 0, .int .i64 0, .int .i64 0, .slice none 0 0] 36)) := fun W h => pair_old h R3.out
    have HXX : Hid (∀ W : World, w3.grownBy W none → W.heap[X]? = some (.cells #[.int .i64 G.kind, .int .i64 G.sess, .int .i64 G.keep, .slice va G.data.length vc] 36)) := fun W h => pair_old h BX3.out
    clear BX5 hb5 HP3 BX3 R3
    go_upto_region 6 with fail
    go_region_held3 (fun w' => w'.cell? ⟨X, 0, none⟩ = some (.int .i64 G.kind) ∧ w'.cell? ⟨X, 1, none⟩ = some (.int .i64 G.sess) ∧ w'.cell? ⟨X, 2, none⟩ = some (.int .i64 G.keep) ∧ w'.cell? ⟨X, 3, none⟩ = some (.slice va G.data.length vc))
      (first | exact ⟨y0, y1, y2, y3⟩ | exact ⟨z0, z1, z2, z3⟩ | exact ⟨t0, t1, t2, t3⟩ | exact ⟨u0, u1, u2, u3⟩)
      (first | (go_at_call 22; refine (SG.out _ hgd).mono ?_; rintro e w9 ⟨rfl, hg9⟩; have R9 := HRX.out w9 hg9; obtain ⟨⟨z0, z1, z2, z3⟩, _⟩ := quad_room (grown_refl w9 none) (HXX.out w9 hg9); obtain ⟨⟨r0, r1, r2, r3⟩, s0, s1, s2, s3, _⟩ := quad_room (grown_refl w9 none) R9; obtain ⟨qb, q0, q1, q2, q3⟩ := quad_set R9 (.int .i64 G.kind) (.int .i64 G.sess) (.int .i64 G.keep) (.slice va G.data.length vc); obtain ⟨⟨t0, t1, t2, t3⟩, _⟩ := quad_room (grown_refl _ none) (HBX.out w9 hg9)))
    all_goals (
      clear r0 r1 r2 r3 s0 s1 s2 s3 z0 z1 z2 z3 q0 q1 q2 q3 t0 t1 t2 t3 y0 y1 y2 y3 u0 u1 u2 u3
      go_wp2
      obtain ⟨⟨p0, p1, p2, p3⟩, _⟩ := quad_room (grown_refl _ none) qb
      refine bodyPost_ret (v := .tuple #[.agg #[.int .i64 G.kind, .int .i64 G.sess, .int .i64 G.keep, .slice va G.data.length vc], .bool (TG.toList == (textOf L).toList)]) (by simp [results, Tryd.results27, go_sem, p0, p1, p2, p3]) rfl ?_
      exact ⟨G, _, _, rfl, HPF.out w9 hg9, HLN.out, grown_setNew (grown_setNew (grown_setNew (grown_setNew (grown_trans hg03 hg9) _ HRw.out _ _) _ HRw.out _ _) _ HRw.out _ _) _ HRw.out _ _⟩)
  · have HA : (actE G != 0) = true := by simp [hz]
    have HLN := hid_ao (HLB.out hz)
    generalize actE G = z at *
    clear HLB HLI hz
    obtain ⟨⟨r0, r1, r2, r3⟩, s0, s1, s2, s3, _⟩ := quad_room (grown_refl w3 none) R3.out
    obtain ⟨_, q0, q1, q2, q3⟩ := quad_set R3.out (.int .i64 0) (.int .i64 0) (.int .i64 0) (.slice none 0 0)
    go_wp2
    obtain ⟨qb, _⟩ := quad_set R3.out (.int .i64 0) (.int .i64 0) (.int .i64 0) (.slice none 0 0)
    obtain ⟨⟨p0, p1, p2, p3⟩, _⟩ := quad_room (grown_refl _ none) qb
    refine bodyPost_ret (v := .tuple #[.agg #[.int .i64 0, .int .i64 0, .int .i64 0, .slice none 0 0], .bool false]) (by simp [results, Tryd.results27, go_sem, p0, p1, p2, p3]) rfl ?_
    exact ⟨noAc, _, false, rfl, (own_nil 0 _).part, HLN.out _, grown_setNew (grown_setNew (grown_setNew (grown_setNew hg03 _ HRw.out _ _) _ HRw.out _ _) _ HRw.out _ _) _ HRw.out _ _⟩
end Go.Proofs.YtpefggkhjocanaaDoor
