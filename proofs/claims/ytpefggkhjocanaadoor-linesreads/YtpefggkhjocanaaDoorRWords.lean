/-
  The document's answer: wordsOf.
-/
import Derived.Test.YtpefggkhjocanaaDoorPart1
import Derived.Test.YtpefggkhjocanaaDoorWordM
import Derived.Deep.RegionHeld3
import Derived.Deep.RegionWith
import Derived.Handy
namespace Go.Proofs.YtpefggkhjocanaaDoor
open Go.RowKit
theorem cut_at {l : List UInt8} {f m : Nat} (hf : f ≤ m) (hm : m < l.length) : l.drop f = (l.drop f).take (m - f) ++ l.getD m 0 :: l.drop (m + 1) := by
  have h1 := List.take_append_drop (m - f) (l.drop f)
  rw [List.drop_drop, show f + (m - f) = m by omega, List.drop_eq_getElem_cons hm] at h1
  rw [show l.getD m 0 = l[m] by simp [hm]]
  exact h1.symm
theorem take_more {l : List UInt8} {f m : Nat} (hf : f ≤ m) (hm : m < l.length) : (l.drop f).take (m + 1 - f) = (l.drop f).take (m - f) ++ [l.getD m 0] := by
  rw [show m + 1 - f = (m - f) + 1 by omega, List.take_succ_eq_append_getElem (by rw [List.length_drop]; omega), List.getElem_drop]
  simp [show f + (m - f) = m by omega, hm]
theorem words_blank {l : List UInt8} {ws : List (List UInt8)} {f m : Nat} (hf : f ≤ m) (hm : m < l.length) (hw : wordsF l = ws ++ wordsF (l.drop f)) (hb : ∀ c ∈ (l.drop f).take (m - f), c ≠ 32) (h32 : l.getD m 0 = 32) :
    wordsF l = (ws ++ [(l.drop f).take (m - f)]) ++ wordsF (l.drop (m + 1)) := by
  rw [hw]
  conv => lhs; rw [cut_at hf hm, h32, words_cons _ _ hb]
  rw [List.append_assoc]; rfl
theorem words_on {l : List UInt8} {f m : Nat} (hf : f ≤ m) (hm : m < l.length) (hb : ∀ c ∈ (l.drop f).take (m - f), c ≠ 32) (h32 : l.getD m 0 ≠ 32) : ∀ c ∈ (l.drop f).take (m + 1 - f), c ≠ 32 := by
  intro c hc
  rw [take_more hf hm] at hc
  rcases List.mem_append.1 hc with hc | hc
  · exact hb c hc
  · simp only [List.mem_cons, List.not_mem_nil, or_false] at hc
    rw [hc]; exact h32
theorem words_end {l : List UInt8} {ws : List (List UInt8)} {f : Nat} (hw : wordsF l = ws ++ wordsF (l.drop f)) (hb : ∀ c ∈ (l.drop f).take (l.length - f), c ≠ 32) : ws ++ [(l.drop f).take (l.length - f)] = wordsF l := by
  have e : (l.drop f).take (l.length - f) = l.drop f := List.take_of_length_le (by rw [List.length_drop]; omega)
  rw [e] at hb ⊢
  rw [hw, words_one _ hb]
theorem text_cut (S : ByteArray) (f m : Nat) : S.extract f m = textOf (((tl S).drop f).take (m - f)) := tl_inj (by rw [tl_extract, tl_text])
set_option maxRecDepth 100000 in
set_option maxHeartbeats 2000000 in
theorem wordsOf_any (S : ByteArray) (w : World) (hl : S.size ≤ 2000000) : Calls Tryd.prog 41 #[.string S] w fun e w' => ∃ x, e = .returned x ∧ WordsIs w' x (wordsF (tl S)) ∧ w.grownBy w' none := by
  have HS : Hid (S.size = (tl S).length) := tl_size S
  have HG : Hid (∀ i (h : i < S.size), (tl S).getD i 0 = S[i]) := fun i h => tl_get S i h
  go_enter Tryd.func41, Tryd.ntmps41
  go_wp2_with fail
  go_loopw [3, 4, 5] (fun ov fv iv wr => ∃ (m f : Nat) (ws : List (List UInt8)), iv = .int .i64 (m : Int) ∧ fv = .int .i64 (f : Int) ∧ OwnS10 w.heap.size wr ov ws ∧ ws.length ≤ m ∧ w.grownBy wr none ∧ ((m ≤ S.size ∧ f ≤ m ∧ wordsF (tl S) = ws ++ wordsF ((tl S).drop f) ∧ (∀ c ∈ ((tl S).drop f).take (m - f), c ≠ 32)) ∨ (m = S.size + 1 ∧ ws = wordsF (tl S)))) (fun _ _ iv _ => S.size + 1 - (intOf iv).toNat)
  case atStart => exact ⟨0, 0, [], rfl, rfl, ownS10_nil _ _, Nat.le_refl _, grown_refl _ _, .inl ⟨by omega, by omega, rfl, fun c hc => by simp at hc⟩⟩
  case round =>
    obtain ⟨m, f, ws, rfl, rfl, hown, hwl, hg, hcase⟩ := hrel
    have hsz := hg.size
    obtain ⟨oa, oc, rfl⟩ := hown.shape
    have HOW : Hid (OwnS10 w.heap.size wr (.slice oa ws.length oc) ws) := hown
    clear hown
    rcases hcase with ⟨hm, hf, hw, hb⟩ | ⟨rfl, rfl⟩
    · have i1 : (m : Int) ≤ (S.size : Int) := by omega
      have HW : Hid (wordsF (tl S) = ws ++ wordsF ((tl S).drop f)) := hw
      have HB : Hid (∀ c ∈ ((tl S).drop f).take (m - f), c ≠ 32) := hb
      clear hw hb
      have hfi : (f : Int) ≤ (m : Int) := by omega
      have HX : Hid (∀ W : World, (W.alloc (.cells #[.string (S.extract f m)] 9)).heap[W.heap.size]? = some (.cells #[.string (textOf (((tl S).drop f).take (m - f)))] 9)) := fun W => by
        rw [← text_cut]; exact heap_alloc_new _ _
      have hl16 : (ws.length + 1) * 16 ≤ 140737488355328 := by omega
      by_cases hlt : m < S.size
      · have b1 : ((m : Int) == (S.size : Int)) = false := beq_eq_false_iff_ne.2 (by omega)
        have b1' : ¬ (m : Int) = (S.size : Int) := by omega
        have b2 : (m : Int) < (S.size : Int) := by omega
        have hgm := HG.out m hlt
        have HML : Hid (m < (tl S).length) := by show _ < _; rw [← HS.out]; exact hlt
        by_cases h32 : (S[m]'hlt).toNat = 32
        · have HN : Hid (wordsF (tl S) = (ws ++ [((tl S).drop f).take (m - f)]) ++ wordsF ((tl S).drop (m + 1))) := words_blank hf HML.out HW.out HB.out (by rw [hgm]; exact UInt8.toNat_inj.1 h32)
          have c1 : (((S[m]'hlt).toNat : Int) == 32) = true := beq_iff_eq.2 (by omega)
          have c2 : ((S[m]'hlt).toNat : Int) = 32 := by omega
          generalize ((tl S).drop f).take (m - f) = X at *
          clear h32 hgm HW HB HG
          go_wp2_with (at_builtin; refine wpList_append_word rfl _ _ rfl w.heap.size (.slice oa ws.length oc) ws rfl (HOW.out.alloc _) X wr.heap.size (HX.out _) rfl hl16 (by simp; omega) ?_; intro v4 w4 ho4 hg4)
          have hgw4 := grown_ownS10 (grown_alloc hg _) (HOW.out.alloc _) hg4
          go_roundw
          case rel => exact ⟨m + 1, m + 1, ws ++ [X], by go_num, by go_num, ho4, by rw [List.length_append, List.length_singleton]; omega, hgw4, .inl ⟨by omega, by omega, HN.out, fun c hc => by simp at hc⟩⟩
          case measure => simp [intOf] <;> omega
        · have HN : Hid (∀ c ∈ ((tl S).drop f).take (m + 1 - f), c ≠ 32) := words_on hf HML.out HB.out (by rw [hgm]; intro e; exact h32 (by rw [e]; rfl))
          have c1 : (((S[m]'hlt).toNat : Int) == 32) = false := beq_eq_false_iff_ne.2 (by omega)
          have c2 : ¬ ((S[m]'hlt).toNat : Int) = 32 := by omega
          clear h32 hgm HB HG HX
          go_wp2_with fail
          go_roundw
          case rel => exact ⟨m + 1, f, ws, by go_num, rfl, HOW.out, by omega, hg, .inl ⟨by omega, by omega, HW.out, HN.out⟩⟩
          case measure => simp [intOf] <;> omega
      · obtain rfl : m = S.size := by omega
        have b1 : ((S.size : Int) == (S.size : Int)) = true := by simp
        have HN : Hid (ws ++ [((tl S).drop f).take (S.size - f)] = wordsF (tl S)) := by
          have h1 := HB.out
          rw [HS.out] at h1 ⊢
          exact words_end HW.out h1
        generalize ((tl S).drop f).take (S.size - f) = X at *
        clear HW HB HG
        go_wp2_with (at_builtin; refine wpList_append_word rfl _ _ rfl w.heap.size (.slice oa ws.length oc) ws rfl (HOW.out.alloc _) X wr.heap.size (HX.out _) rfl hl16 (by simp; omega) ?_; intro v4 w4 ho4 hg4)
        have hgw4 := grown_ownS10 (grown_alloc hg _) (HOW.out.alloc _) hg4
        go_roundw
        case rel => exact ⟨S.size + 1, S.size + 1, ws ++ [X], by go_num, by go_num, ho4, by rw [List.length_append, List.length_singleton]; omega, hgw4, .inr ⟨rfl, HN.out⟩⟩
        case measure => simp [intOf] <;> omega
    · have i1 : ¬ (((S.size + 1 : Nat) : Int) ≤ (S.size : Int)) := by omega
      have HR : Hid (WordsIs wr (.slice oa (wordsF (tl S)).length oc) (wordsF (tl S))) := HOW.out.words (wordsF_ne _)
      clear HOW HG
      go_wp2
      go_ret
      exact ⟨_, rfl, HR.out, hg⟩
end Go.Proofs.YtpefggkhjocanaaDoor
