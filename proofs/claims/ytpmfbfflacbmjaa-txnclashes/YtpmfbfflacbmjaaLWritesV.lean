/-
  The walk of canopylaw's writes: what it hands back is all new.
-/
import Derived.Test.YtpmfbfflacbmjaaLWrites
import Derived.Test.YtpmfbfflacbmjaaPart2
namespace Go.Proofs.Ytpmfbfflacbmjaa
open Go.RowKit
set_option maxRecDepth 100000 in
set_option maxHeartbeats 2000000 in
theorem writesV_any (w : World) (v : Value) (l : List Plc) (hv : WritesIs w v l) (hl : FitsW l) :
    Calls Try.prog 97 #[v] w fun e w' => ∃ v', e = .returned v' ∧ OwnV w.heap.size 0 w' v' l ∧ w.grownBy w' none := by
  obtain ⟨a, cap, rfl⟩ := hv.shape
  have hmany := hl.many
  have HF : Hid (FitsW l) := hl
  clear hl
  go_enter Try.func97, Try.ntmps97
  go_wp2_with fail
  go_loopw [3, 4] (fun cv i wr => ∃ m : Nat, m ≤ l.length ∧ i = .int .i64 (m : Int) ∧ OwnV w.heap.size 0 wr cv (l.take m) ∧ w.grownBy wr none) (fun _ i _ => l.length - (intOf i).toNat)
  case atStart => exact ⟨0, by omega, rfl, ownV_nil _ _ _, grown_refl _ _⟩
  case round =>
    obtain ⟨m, hm, rfl, hown, hg⟩ := hrel
    obtain ⟨ca, ccap, rfl⟩ := hown.shape
    by_cases hlt : m < l.length
    · obtain ⟨b, o, rfl, hat⟩ := hv.at m hlt
      obtain ⟨vn, vk, vv, c1, c2, c3, c4, s1, s2, s3⟩ := hat.grown hg
      have HT : Hid (l.take (m + 1) = l.take m ++ [l.getD m noPlc]) := by
        show _ = _
        rw [List.take_succ_eq_append_getElem hlt]; simp [hlt]
      have hTl : (l.take m).length = m := by simp; omega
      have hpf := HF.out.each m hlt
      generalize l.getD m noPlc = P at *
      generalize l.take m = T at *
      have CP : Hid (Calls Try.prog 17 #[.agg #[vn, vk, .bool P.gone, vv]] wr fun e w' => ∃ na nc ka kc va vc, e = .returned (.agg #[.slice na P.name.length nc, .slice ka P.key.length kc, .bool P.gone, .slice va P.value.length vc]) ∧ PartIs 0 w' (.slice na P.name.length nc) P.name ∧ PartIs 0 w' (.slice ka P.key.length kc) P.key ∧ PartIs 0 w' (.slice va P.value.length vc) P.value ∧ wr.grownBy w' none) := writeCopy_any wr _ P ⟨vn, vk, vv, rfl, s1, s2, s3⟩ hpf
      obtain ⟨a1, k1, rfl⟩ := s1.shape
      obtain ⟨a2, k2, rfl⟩ := s2.shape
      obtain ⟨a3, k3, rfl⟩ := s3.shape
      rw [hTl] at hown ⊢
      have HOW : Hid (OwnV w.heap.size 0 wr (.slice ca m ccap) T) := hown
      have i1 : (m : Int) < (l.length : Int) := by omega
      clear hat s1 s2 s3 hpf hown
      go_wp2_with fail
      refine CP.out.mono ?_
      rintro e w1 ⟨na, nc, ka, kc, va, vc, rfl, h1, h2, h3, hg1⟩
      have hgw1 := grown_trans hg hg1
      have hsz := hgw1.size
      obtain ⟨W2, hW2⟩ : ∃ W2 : World, W2 = w1.alloc (.cells #[.slice na P.name.length nc, .slice ka P.key.length kc, .bool P.gone, .slice va P.value.length vc] 39) := ⟨_, rfl⟩
      have HW2 : Hid (W2 = w1.alloc (.cells #[.slice na P.name.length nc, .slice ka P.key.length kc, .bool P.gone, .slice va P.value.length vc] 39)) := hW2
      have hga : w1.grownBy W2 none := by rw [hW2]; exact World.grownBy_alloc _ _ _
      obtain ⟨⟨y0, y1, y2, y3⟩, _⟩ := quad_room (grown_refl W2 none) (by rw [hW2]; exact heap_alloc_new w1 _ : W2.heap[w1.heap.size]? = some (.cells #[.slice na P.name.length nc, .slice ka P.key.length kc, .bool P.gone, .slice va P.value.length vc] 39))
      have hsz2 := hga.size
      have hg3 := World.grownBy_alloc W2 (.cells #[.slice na P.name.length nc, .slice ka P.key.length kc, .bool P.gone, .slice va P.value.length vc] 39) none
      have hg13 := grown_trans hga hg3
      have HO3 : Hid (OwnV w.heap.size 0 (W2.alloc (.cells #[.slice na P.name.length nc, .slice ka P.key.length kc, .bool P.gone, .slice va P.value.length vc] 39)) (.slice ca m ccap) T) := HOW.out.grownNone (grown_trans hg1 hg13)
      have H1 : Hid (PartIs 0 (W2.alloc (.cells #[.slice na P.name.length nc, .slice ka P.key.length kc, .bool P.gone, .slice va P.value.length vc] 39)) (.slice na P.name.length nc) P.name) := (h1.keptT hg13 (.inl rfl))
      have H2 : Hid (PartIs 0 (W2.alloc (.cells #[.slice na P.name.length nc, .slice ka P.key.length kc, .bool P.gone, .slice va P.value.length vc] 39)) (.slice ka P.key.length kc) P.key) := (h2.keptT hg13 (.inl rfl))
      have H3 : Hid (PartIs 0 (W2.alloc (.cells #[.slice na P.name.length nc, .slice ka P.key.length kc, .bool P.gone, .slice va P.value.length vc] 39)) (.slice va P.value.length vc) P.value) := (h3.keptT hg13 (.inl rfl))
      have hgw3 := grown_trans hgw1 hg13
      have hl80 : (T.length + 1) * 80 ≤ 140737488355328 := by omega
      have hbs : w.heap.size ≤ (W2.alloc (.cells #[.slice na P.name.length nc, .slice ka P.key.length kc, .bool P.gone, .slice va P.value.length vc] 39)).heap.size := hgw3.size
      have HBS : Hid (w.heap.size ≤ (W2.alloc (.cells #[.slice na P.name.length nc, .slice ka P.key.length kc, .bool P.gone, .slice va P.value.length vc] 39)).heap.size) := hbs
      clear hW2 h1 h2 h3 c1 c2 c3 c4 CP hbs
      go_upto_region 6 with fail
      rw [← HW2.out]
      go_wp2_with (at_builtin; refine wpList_append_wrV rfl _ _ rfl w.heap.size (.slice ca m ccap) T rfl HO3.out (.slice na P.name.length nc) (.slice ka P.key.length kc) (.slice va P.value.length vc) P H1.out H2.out H3.out W2.heap.size (heap_alloc_new W2 _) rfl hl80 HBS.out ?_; intro v4 w4 ho4 hg4)
      have hgw4 : w.grownBy w4 none := grown_ownV hgw3 HO3.out (Nat.le_refl _) hg4
      go_roundw
      case rel => exact ⟨m + 1, by omega, by go_num, by rw [HT.out]; exact ho4, hgw4⟩
      case measure => simp [intOf]; omega
    · obtain rfl : m = l.length := by omega
      rw [List.take_length] at hown
      rw [List.take_length]
      go_wp2
      go_ret
      exact ⟨_, rfl, hown, hg⟩
end Go.Proofs.Ytpmfbfflacbmjaa
