/-
  The document's answer: lineAct, for every line.
-/
import Derived.Test.YtpefggkhjocanaaDoorRLActB
import Derived.Test.YtpefggkhjocanaaDoorRLActO
import Derived.Test.YtpefggkhjocanaaDoorRLActA
namespace Go.Proofs.YtpefggkhjocanaaDoor
open Go.RowKit
theorem words_len : ∀ (s x : List UInt8), x ∈ wordsF s → x.length ≤ s.length
  | [], x, h => by simp [wordsF] at h; simp [h]
  | c :: r, x, h => by
    have ih := words_len r
    rw [wordsF] at h
    rw [List.length_cons]
    by_cases hc : c = 32
    · rw [if_pos hc] at h
      rcases List.mem_cons.1 h with rfl | h
      · simp
      · have := ih x h; omega
    · rw [if_neg hc] at h
      match hw : wordsF r, wordsF_ne r with
      | y :: ws, _ =>
        rw [hw] at h ih
        rcases List.mem_cons.1 h with rfl | h
        · have := ih y (by simp); rw [List.length_cons]; omega
        · have := ih x (by simp [h]); omega
theorem lineAct_any (S : ByteArray) (w : World) (hl : S.size ≤ 2000000) : LineOK S w (lineA (tl S)) := by
  have hs : (tl S).length ≤ 2000000 := by rw [← tl_size]; exact hl
  have hlen : ∀ x ∈ wordsF (tl S), x.length ≤ 2000000 := fun x hx => by have := words_len _ x hx; omega
  by_cases c1 : wordsF (tl S) = [wSync]
  · rw [line_sync c1]; exact lineAct_sync S w hl c1
  by_cases c2 : wordsF (tl S) = [wStart]
  · rw [line_start c2]; exact lineAct_start S w hl c2
  by_cases c3 : ∃ x, wordsF (tl S) = [wCrash, x]
  · obtain ⟨x, hx⟩ := c3
    rw [line_raw (a := ⟨3, 0, wholeF x, []⟩) (by rw [hx]; rfl) (by simp)]
    exact lineAct_crash S w hl x hx (hlen x (by rw [hx]; simp))
  by_cases c4 : ∃ x d, wordsF (tl S) = [wAsk, x, d] ∧ d.length % 2 = 0
  · obtain ⟨x, d, hx, he⟩ := c4
    have hd := hlen d (by rw [hx]; simp)
    have e : tl (textOf d) = d := tl_text d
    have raw : rawA (wordsF (tl S)) = match unhex d with | some bs => ⟨1, wholeF x, 0, bs⟩ | none => noAc := by rw [hx]; rfl
    refine lineAct_ask S w hl x (textOf d) (by rw [e]; exact hx) (hlen x (by rw [hx]; simp)) (by rw [tl_size, e]; exact hd) (by rw [tl_size, e]; exact he) _ ?_ ?_
    · intro bs hb
      rw [e] at hb
      exact line_raw (a := ⟨1, wholeF x, 0, bs⟩) (by rw [raw, hb]) (by simp)
    · intro hb
      rw [e] at hb
      exact line_none (by rw [raw, hb])
  have hne := wordsF_ne (tl S)
  have h1 : (wordsF (tl S)).getD 0 [] = wSync → (wordsF (tl S)).length ≠ 1 := fun h hn => by
    obtain ⟨a, ha⟩ := List.length_eq_one_iff.1 hn
    rw [ha] at h c1
    exact c1 (by rw [show a = wSync from h])
  have h2 : (wordsF (tl S)).getD 0 [] = wStart → (wordsF (tl S)).length ≠ 1 := fun h hn => by
    obtain ⟨a, ha⟩ := List.length_eq_one_iff.1 hn
    rw [ha] at h c2
    exact c2 (by rw [show a = wStart from h])
  have h3 : (wordsF (tl S)).getD 0 [] = wCrash → (wordsF (tl S)).length ≠ 2 := fun h hn => by
    match hw : wordsF (tl S), hn with
    | [a, b], _ =>
      rw [hw] at h c3
      exact c3 ⟨b, by rw [show a = wCrash from h]⟩
  have h4 : (wordsF (tl S)).getD 0 [] = wAsk → (wordsF (tl S)).length = 3 → ((wordsF (tl S)).getD 2 []).length % 2 ≠ 0 := fun h hn hm => by
    match hw : wordsF (tl S), hn with
    | [a, b, d], _ =>
      rw [hw] at h c4 hm
      exact c4 ⟨b, d, by rw [show a = wAsk from h], hm⟩
  rw [line_none (raw_none hne h1 h2 h3 h4)]
  exact lineAct_bad S w hl h1 h2 h3 h4
end Go.Proofs.YtpefggkhjocanaaDoor
