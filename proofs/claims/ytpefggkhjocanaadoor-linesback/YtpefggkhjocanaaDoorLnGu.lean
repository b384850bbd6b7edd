/-
  lines.guess, as it landed: which act a line seems to tell.
-/
import Derived.Test.YtpefggkhjocanaaDoorLnNo
import Derived.Test.YtpefggkhjocanaaDoorLnBy
import Derived.Test.YtpefggkhjocanaaDoorAcM0
namespace Go.Proofs.YtpefggkhjocanaaDoor
open Go.RowKit Go.Shelf
theorem cut_any (w : World) (x : List UInt8) (hl : x.length ≤ 2000000) (hT : LnT w) :
    Calls Tryd.prog 49 #[.string (textOf x), .string (textOf [32])] w fun e w' => e = .returned (.tuple #[.string (textOf (Lib.cut x [32]).1), .string (textOf (Lib.cut x [32]).2.1), .bool (Lib.cut x [32]).2.2]) ∧ w.grownBy w' none := by
  obtain ⟨m, hm⟩ := hT.most
  have hs : (textOf x).size = x.length := tl_size _
  refine (Any.strings_Cut layCut (textOf x) (textOf [32]) m w (by omega) hm).mono ?_
  rintro e w' ⟨rfl, n, rfl⟩
  exact ⟨rfl, grown_drewN (grown_refl _ _) n⟩
theorem trim_any (w : World) (x : List UInt8) (hl : x.length ≤ 2000000) :
    Calls Tryd.prog 50 #[.string (textOf x), .string (textOf [10])] w fun e w' => e = .returned (.string (textOf (Lib.trimSuffix x [10]))) ∧ w' = w := by
  have hs : (textOf x).size = x.length := tl_size _
  exact Any.strings_TrimSuffix layTrim (textOf x) (textOf [10]) w (by omega)
theorem trim_le (x : List UInt8) : (Lib.trimSuffix x [10]).length ≤ x.length := by
  rw [Lib.trimSuffix]
  split
  · rw [List.length_take]; omega
  · exact Nat.le_refl _
theorem cut_le (x : List UInt8) : (Lib.cut x [32]).1.length ≤ x.length ∧ (Lib.cut x [32]).2.1.length ≤ x.length := by
  rw [Lib.cut]
  split
  · exact ⟨by show (x.take _).length ≤ _; rw [List.length_take]; omega, by show (x.drop _).length ≤ _; rw [List.length_drop]; omega⟩
  · exact ⟨Nat.le_refl _, Nat.zero_le _⟩
theorem num_fits (x : List UInt8) : -9223372036854775808 ≤ numF x ∧ numF x ≤ 9223372036854775807 := by
  rw [numF]
  cases h : Lib.atoiAll x with
  | ok v => exact Lib.atoiAll_bounds h
  | «syntax» => simp
  | range => simp
theorem quad_oneG {w : World} {b : Nat} {x y z u : Value} {t : TypeId} (h : w.heap[b]? = some (.cells #[x, y, z, u] t)) (v : Value) :
    (w.setCell ⟨b, 1, none⟩ v).heap[b]? = some (.cells #[x, v, z, u] t) ∧ (w.setCell ⟨b, 2, none⟩ v).heap[b]? = some (.cells #[x, y, v, u] t) ∧ (w.setCell ⟨b, 3, none⟩ v).heap[b]? = some (.cells #[x, y, z, v] t) := by
  refine ⟨?_, ?_, ?_⟩ <;> (simp only [World.setCell, Array.getElem?_modify, if_true, h, Option.map_some]; first | rfl | simp)
theorem set_elseG {w : World} {b c i : Nat} {o : Obj} {u : Value} (h : w.heap[b]? = some o) (hne : b ≠ c) : (w.setCell ⟨c, i, none⟩ u).heap[b]? = some o := by
  simp only [World.setCell, Array.getElem?_modify]
  rw [if_neg (fun e => hne e.symm)]; exact h
set_option maxRecDepth 100000 in
set_option maxHeartbeats 4000000 in
theorem guess_any (w : World) (L : List UInt8) (hl : L.length ≤ 2000000) (hT : LnT w) :
    Calls Tryd.prog 40 #[.string (textOf L)] w fun e w' => ∃ vd, e = .returned (.agg #[.int .i64 (guessA L).kind, .int .i64 (guessA L).sess, .int .i64 (guessA L).keep, vd]) ∧ PartIs 0 w' vd (guessA L).data ∧ w.grownBy w' none := by
  obtain ⟨W0, HW0, hg0, R0⟩ := alloc_namedR w (.cells #[.int .i64 0, .int .i64 0, .int .i64 0, .slice none 0 0] 36)
  have HT : Hid (∀ W, w.grownBy W none → LnT W) := fun W h => hT.grown h
  have TR : Hid (Calls Tryd.prog 50 #[.string (textOf L), .string (textOf [10])] W0 fun e w' => e = .returned (.string (textOf (Lib.trimSuffix L [10]))) ∧ w' = W0) := trim_any W0 L hl
  have hGA : guessA L = guessK (kindF (Lib.cut (Lib.trimSuffix L [10]) [32]).1) (Lib.cut (Lib.trimSuffix L [10]) [32]).2.1 := rfl
  have htl := trim_le L
  generalize Lib.trimSuffix L [10] = t at *
  have CU : Hid (Calls Tryd.prog 49 #[.string (textOf t), .string (textOf [32])] W0 fun e w' => e = .returned (.tuple #[.string (textOf (Lib.cut t [32]).1), .string (textOf (Lib.cut t [32]).2.1), .bool (Lib.cut t [32]).2.2]) ∧ W0.grownBy w' none) := cut_any W0 t (by omega) (hT.grown hg0)
  obtain ⟨l1, l2⟩ := cut_le t
  generalize (Lib.cut t [32]).1 = wd at *
  generalize (Lib.cut t [32]).2.1 = rs at *
  generalize (Lib.cut t [32]).2.2 = fb at *
  have KO : Hid (∀ W, w.grownBy W none → Calls Tryd.prog 51 #[.string (textOf wd)] W fun e w' => e = .returned (.int .i64 (kindF wd : Int)) ∧ W.grownBy w' none) := fun W h => kindOf_any W wd (hT.grown h).toWrdT
  generalize kindF wd = k at *
  have HGA : Hid (guessA L = guessK k rs) := hGA
  generalize guessA L = G at *
  obtain ⟨X1, hX1, hgX, BX⟩ : ∃ f : World → World, (∀ W : World, f W = W.alloc (.cells #[.int .i64 (k : Int), .int .i64 0, .int .i64 0, .slice none 0 0] 36)) ∧ (∀ W : World, W.grownBy (f W) none) ∧ (∀ W : World, (f W).heap[W.heap.size]? = some (.cells #[.int .i64 (k : Int), .int .i64 0, .int .i64 0, .slice none 0 0] 36)) := ⟨_, fun n => rfl, fun n => World.grownBy_alloc _ _ _, fun n => heap_alloc_new _ _⟩
  have HX1 : Hid (∀ W, X1 W = W.alloc (.cells #[.int .i64 (k : Int), .int .i64 0, .int .i64 0, .slice none 0 0] 36)) := hX1
  have hrs : rs.length ≤ 2000000 := by omega
  have NO : Hid (∀ (W : World) (x : List UInt8), w.grownBy W none → x.length ≤ 2000000 → Calls Tryd.prog 52 #[.string (textOf x)] W fun e w' => e = .returned (.int .i64 (numF x)) ∧ W.grownBy w' none) := fun W x h hx => numberOf_any W x hx (hT.grown h)
  have hR0 : w.heap.size < W0.heap.size := by rw [HW0.out]; simp
  clear hT hGA hX1 htl l1 l2 hl
  go_enter Tryd.func40, Tryd.ntmps40
  go_upto_region 1 with fail
  rw [← HW0.out]
  clear HW0
  obtain ⟨R, hR⟩ : ∃ R, R = w.heap.size := ⟨_, rfl⟩
  have HRw : Hid (w.heap.size ≤ R) := by show _ ≤ _; omega
  rw [← hR] at R0 hR0 ⊢
  clear hR
  go_wp2_with fail
  refine TR.out.mono ?_
  rintro e w' ⟨rfl, hw'⟩
  subst w'
  go_wp2_with fail
  refine CU.out.mono ?_
  rintro e w2 ⟨rfl, hg2⟩
  have hg02 := grown_trans hg0 hg2
  go_wp2_with fail
  refine (KO.out _ hg02).mono ?_
  rintro e w3 ⟨rfl, hg3⟩
  have hg03 := grown_trans hg02 hg3
  have R3 := pair_old (grown_trans hg2 hg3) R0.out
  have hs3 := (grown_trans hg2 hg3).size
  go_upto_region 3 with fail
  rw [← HX1.out w3]
  obtain ⟨X, hX⟩ : ∃ X, X = w3.heap.size := ⟨_, rfl⟩
  have BXn : Hid ((X1 w3).heap[X]? = some (.cells #[.int .i64 (k : Int), .int .i64 0, .int .i64 0, .slice none 0 0] 36)) := by rw [hX]; exact BX w3
  have hgx := hgX w3
  have hRX : R ≠ X := by omega
  have HXw : Hid (w.heap.size ≤ X) := by show _ ≤ _; have := hg03.size; omega
  rw [← hX]
  clear hX HX1 BX hgX KO CU TR hs3 hR0
  have hgw1 := grown_trans hg03 hgx
  have R1 : Hid ((X1 w3).heap[R]? = some (.cells #[.int .i64 0, .int .i64 0, .int .i64 0, .slice none 0 0] 36)) := pair_old hgx R3
  generalize X1 w3 = W1 at *
  clear R3 hgx hg3 hg03 hg2 hg02
  obtain ⟨⟨x0, x1, x2, x3⟩, k0, k1, k2, k3, _⟩ := quad_room (grown_refl W1 none) BXn.out
  by_cases h1 : k = 1
  · subst h1
    have e1 : guessK 1 rs = ⟨1, numF (Lib.cut rs [32]).1, 0, bytesF (Lib.cut rs [32]).2.1 ((Lib.cut rs [32]).2.1.length / 2)⟩ := by rw [guessK, if_pos rfl]
    have CU : Hid (Calls Tryd.prog 49 #[.string (textOf rs), .string (textOf [32])] W1 fun e w' => e = .returned (.tuple #[.string (textOf (Lib.cut rs [32]).1), .string (textOf (Lib.cut rs [32]).2.1), .bool (Lib.cut rs [32]).2.2]) ∧ W1.grownBy w' none) := cut_any W1 rs hrs (HT.out W1 hgw1)
    obtain ⟨l1, l2⟩ := cut_le rs
    generalize (Lib.cut rs [32]).1 = nx at *
    generalize (Lib.cut rs [32]).2.1 = dx at *
    generalize (Lib.cut rs [32]).2.2 = fx at *
    have hnx : nx.length ≤ 2000000 := by omega
    have BO : Hid (∀ W, Calls Tryd.prog 53 #[.string (textOf dx)] W fun e w' => e = .returned (.slice (some ⟨W.heap.size, 0, none⟩) (dx.length / 2) (dx.length / 2)) ∧ w'.heap[W.heap.size]? = some (.cells (bytesOf (bytesF dx (dx.length / 2))) 5 (0, 0)) ∧ W.grownBy w' none) := fun W => bytesOf_any W dx (by omega)
    have HLB : Hid ((bytesF dx (dx.length / 2)).length = dx.length / 2) := by show _ = _; simp [bytesF]
    generalize bytesF dx (dx.length / 2) = BY at *
    generalize dx.length / 2 = nb at *
    have HG : Hid (G = ⟨1, numF nx, 0, BY⟩) := by show _ = _; rw [HGA.out, e1]
    have NX := NO.out
    have NN : Hid (∀ W, w.grownBy W none → Calls Tryd.prog 52 #[.string (textOf nx)] W fun e w' => e = .returned (.int .i64 (numF nx)) ∧ W.grownBy w' none) := fun W h => NX W nx h hnx
    generalize numF nx = nv at *
    clear e1 HGA NX NO l1 l2
    go_wp2_with fail
    refine CU.out.mono ?_
    rintro e w4 ⟨rfl, hg4⟩
    have hg04 := grown_trans hgw1 hg4
    go_wp2_with fail
    refine (NN.out _ hg04).mono ?_
    rintro e w5 ⟨rfl, hg5⟩
    have hg15 := grown_trans hg4 hg5
    have hg05 := grown_trans hg04 hg5
    go_wp2_with fail
    refine (BO.out _).mono ?_
    rintro e w6 ⟨rfl, hb6, hg6⟩
    have hg16 := grown_trans hg15 hg6
    have hg06 := grown_trans hg05 hg6
    have B6 := pair_old hg16 BXn.out
    have R6 := pair_old hg16 R1.out
    have hs56 := hg6.size
    obtain ⟨NB, hNB⟩ : ∃ NB, NB = w5.heap.size := ⟨_, rfl⟩
    rw [← hNB] at hb6 ⊢
    have hnl : NB < w6.heap.size := (Array.getElem?_eq_some_iff.1 hb6).1
    have HPn : Hid (PartIs 0 w6 (.slice (some ⟨NB, 0, none⟩) nb nb) BY) := by
      have hBy : Bytes w6 NB BY := ⟨5, hb6⟩
      refine ⟨?_, .inr ⟨NB, rfl, hnl, .inr ⟨_, _, hb6⟩⟩⟩
      have := hBy.slice nb (by rw [HLB.out]; exact Nat.le_refl _)
      rw [HLB.out] at this
      exact this
    clear hNB hb6 hs56 hnl x0 x1 x2 x3 k0 k1 k2 k3
    obtain ⟨⟨x0, x1, x2, x3⟩, k0, k1, k2, k3, _⟩ := quad_room (grown_refl w6 none) B6
    obtain ⟨W4, hW4⟩ : ∃ W4 : World, W4 = (w6.setCell ⟨X, 1, none⟩ (.int .i64 nv)).setCell ⟨X, 3, none⟩ (.slice (some ⟨NB, 0, none⟩) nb nb) := ⟨_, rfl⟩
    have HW4 : Hid (W4 = (w6.setCell ⟨X, 1, none⟩ (.int .i64 nv)).setCell ⟨X, 3, none⟩ (.slice (some ⟨NB, 0, none⟩) nb nb)) := hW4
    have B5 := (quad_oneG B6 (.int .i64 nv)).1
    obtain ⟨⟨xx0, xx1, xx2, xx3⟩, kk0, kk1, kk2, kk3, _⟩ := quad_room (grown_refl _ none) B5
    have B4 : Hid (W4.heap[X]? = some (.cells #[.int .i64 1, .int .i64 nv, .int .i64 0, .slice (some ⟨NB, 0, none⟩) nb nb] 36)) := by show _ = _; rw [hW4]; exact (quad_oneG B5 _).2.2
    have R4 : Hid (W4.heap[R]? = some (.cells #[.int .i64 0, .int .i64 0, .int .i64 0, .slice none 0 0] 36)) := by show _ = _; rw [hW4]; exact set_elseG (set_elseG R6 hRX) hRX
    have hgw4 : w.grownBy W4 none := by rw [hW4]; exact grown_setNew (grown_setNew hg06 _ HXw.out _ _) _ HXw.out _ _
    have HP4 : Hid (PartIs 0 W4 (.slice (some ⟨NB, 0, none⟩) nb nb) BY) := by
      show PartIs 0 W4 _ _
      rw [hW4]
      exact HPn.out.keptT (grown_set (grown_set (grown_refl w6 (some X)) 1 _) 3 _) (.inr ⟨X, _, _, _, rfl, Nat.zero_le _, B6, acT5⟩)
    clear hW4 B5
    go_upto_region 9 with fail
    rw [← HW4.out]
    clear x0 x1 x2 x3 k0 k1 k2 k3 xx0 xx1 xx2 xx3 kk0 kk1 kk2 kk3 HW4 B6
    obtain ⟨⟨x0, x1, x2, x3⟩, _⟩ := quad_room (grown_refl W4 none) B4.out
    obtain ⟨⟨r0, r1, r2, r3⟩, s0, s1, s2, s3, _⟩ := quad_room (grown_refl W4 none) R4.out
    obtain ⟨_, q0, q1, q2, q3⟩ := quad_set R4.out (.int .i64 1) (.int .i64 nv) (.int .i64 0) (.slice (some ⟨NB, 0, none⟩) nb nb)
    go_wp2
    obtain ⟨qb, _⟩ := quad_set R4.out (.int .i64 1) (.int .i64 nv) (.int .i64 0) (.slice (some ⟨NB, 0, none⟩) nb nb)
    obtain ⟨⟨p0, p1, p2, p3⟩, _⟩ := quad_room (grown_refl _ none) qb
    have hgr := grown_set (grown_set (grown_set (grown_set (grown_refl W4 (some R)) 0 (.int .i64 1)) 1 (.int .i64 nv)) 2 (.int .i64 0)) 3 (.slice (some ⟨NB, 0, none⟩) nb nb)
    refine bodyPost_ret (v := .agg #[.int .i64 1, .int .i64 nv, .int .i64 0, .slice (some ⟨NB, 0, none⟩) nb nb]) (by simp [results, Tryd.results40, go_sem, p0, p1, p2, p3]) rfl ?_
    exact ⟨_, by rw [HG.out], by rw [HG.out]; exact HP4.out.keptT hgr (.inr ⟨R, _, _, _, rfl, Nat.zero_le _, R4.out, acT5⟩), grown_setNew (grown_setNew (grown_setNew (grown_setNew hgw4 _ HRw.out _ _) _ HRw.out _ _) _ HRw.out _ _) _ HRw.out _ _⟩
  by_cases h3 : k = 3
  · subst h3
    have HG : Hid (G = ⟨3, 0, numF rs, []⟩) := by show _ = _; rw [HGA.out, guessK, if_neg (by decide), if_pos rfl]
    have NX := NO.out
    have NN : Hid (∀ W, w.grownBy W none → Calls Tryd.prog 52 #[.string (textOf rs)] W fun e w' => e = .returned (.int .i64 (numF rs)) ∧ W.grownBy w' none) := fun W h => NX W rs h hrs
    generalize numF rs = nv at *
    clear HGA NX NO h1
    go_wp2_with fail
    refine (NN.out _ hgw1).mono ?_
    rintro e w6 ⟨rfl, hg16⟩
    have hg06 := grown_trans hgw1 hg16
    have B6 := pair_old hg16 BXn.out
    have R6 := pair_old hg16 R1.out
    clear x0 x1 x2 x3 k0 k1 k2 k3
    obtain ⟨⟨x0, x1, x2, x3⟩, k0, k1, k2, k3, _⟩ := quad_room (grown_refl w6 none) B6
    obtain ⟨W4, hW4⟩ : ∃ W4 : World, W4 = w6.setCell ⟨X, 2, none⟩ (.int .i64 nv) := ⟨_, rfl⟩
    have HW4 : Hid (W4 = w6.setCell ⟨X, 2, none⟩ (.int .i64 nv)) := hW4
    have B4 : Hid (W4.heap[X]? = some (.cells #[.int .i64 3, .int .i64 0, .int .i64 nv, .slice none 0 0] 36)) := by show _ = _; rw [hW4]; exact (quad_oneG B6 _).2.1
    have R4 : Hid (W4.heap[R]? = some (.cells #[.int .i64 0, .int .i64 0, .int .i64 0, .slice none 0 0] 36)) := by show _ = _; rw [hW4]; exact set_elseG R6 hRX
    have hgw4 : w.grownBy W4 none := by rw [hW4]; exact grown_setNew hg06 _ HXw.out _ _
    have HP4 : Hid (PartIs 0 W4 (.slice none 0 0) []) := (own_nil 0 W4).part
    clear hW4
    go_upto_region 9 with fail
    rw [← HW4.out]
    clear x0 x1 x2 x3 k0 k1 k2 k3 HW4 B6
    obtain ⟨⟨x0, x1, x2, x3⟩, _⟩ := quad_room (grown_refl W4 none) B4.out
    obtain ⟨⟨r0, r1, r2, r3⟩, s0, s1, s2, s3, _⟩ := quad_room (grown_refl W4 none) R4.out
    obtain ⟨_, q0, q1, q2, q3⟩ := quad_set R4.out (.int .i64 3) (.int .i64 0) (.int .i64 nv) (.slice none 0 0)
    go_wp2
    obtain ⟨qb, _⟩ := quad_set R4.out (.int .i64 3) (.int .i64 0) (.int .i64 nv) (.slice none 0 0)
    obtain ⟨⟨p0, p1, p2, p3⟩, _⟩ := quad_room (grown_refl _ none) qb
    have hgr := grown_set (grown_set (grown_set (grown_set (grown_refl W4 (some R)) 0 (.int .i64 3)) 1 (.int .i64 0)) 2 (.int .i64 nv)) 3 (.slice none 0 0)
    refine bodyPost_ret (v := .agg #[.int .i64 3, .int .i64 0, .int .i64 nv, .slice none 0 0]) (by simp [results, Tryd.results40, go_sem, p0, p1, p2, p3]) rfl ?_
    exact ⟨_, by rw [HG.out], by rw [HG.out]; exact HP4.out.keptT hgr (.inr ⟨R, _, _, _, rfl, Nat.zero_le _, R4.out, acT5⟩), grown_setNew (grown_setNew (grown_setNew (grown_setNew hgw4 _ HRw.out _ _) _ HRw.out _ _) _ HRw.out _ _) _ HRw.out _ _⟩
  · have f1 : ¬ (k : Int) = 1 := by omega
    have f3 : ¬ (k : Int) = 3 := by omega
    have g1 : ((k : Int) == 1) = false := by simp; omega
    have g3 : ((k : Int) == 3) = false := by simp; omega
    have HG : Hid (G = ⟨(k : Int), 0, 0, []⟩) := by show _ = _; rw [HGA.out, guessK, if_neg h1, if_neg h3]
    have HP1 : Hid (PartIs 0 W1 (.slice none 0 0) []) := (own_nil 0 W1).part
    clear HGA h1 h3 NO
    obtain ⟨⟨r0, r1, r2, r3⟩, s0, s1, s2, s3, _⟩ := quad_room (grown_refl W1 none) R1.out
    obtain ⟨_, q0, q1, q2, q3⟩ := quad_set R1.out (.int .i64 (k : Int)) (.int .i64 0) (.int .i64 0) (.slice none 0 0)
    go_wp2
    obtain ⟨qb, _⟩ := quad_set R1.out (.int .i64 (k : Int)) (.int .i64 0) (.int .i64 0) (.slice none 0 0)
    obtain ⟨⟨p0, p1, p2, p3⟩, _⟩ := quad_room (grown_refl _ none) qb
    have hgr := grown_set (grown_set (grown_set (grown_set (grown_refl W1 (some R)) 0 (.int .i64 (k : Int))) 1 (.int .i64 0)) 2 (.int .i64 0)) 3 (.slice none 0 0)
    refine bodyPost_ret (v := .agg #[.int .i64 (k : Int), .int .i64 0, .int .i64 0, .slice none 0 0]) (by simp [results, Tryd.results40, go_sem, p0, p1, p2, p3]) rfl ?_
    exact ⟨_, by rw [HG.out], by rw [HG.out]; exact HP1.out.keptT hgr (.inr ⟨R, _, _, _, rfl, Nat.zero_le _, R1.out, acT5⟩), grown_setNew (grown_setNew (grown_setNew (grown_setNew hgw1 _ HRw.out _ _) _ HRw.out _ _) _ HRw.out _ _) _ HRw.out _ _⟩
end Go.Proofs.YtpefggkhjocanaaDoor
