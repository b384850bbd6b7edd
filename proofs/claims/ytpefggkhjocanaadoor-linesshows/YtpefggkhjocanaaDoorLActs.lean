/-
  The walk of canopylaw's acts: a copy of acts.
-/
import Derived.Test.YtpefggkhjocanaaDoorAcMem
import Derived.Test.YtpefggkhjocanaaDoorOctets
import Derived.Deep.RegionHeld3
import Derived.Deep.RegionWith
import Derived.Handy
namespace Go.Proofs.YtpefggkhjocanaaDoor
open Go.RowKit
theorem set_selfA {w : World} {b : Nat} {x y z u u' : Value} {t : TypeId} (h : w.heap[b]? = some (.cells #[x, y, z, u] t)) : (w.setCell ⟨b, 3, none⟩ u').heap[b]? = some (.cells #[x, y, z, u'] t) := by
  simp only [World.setCell, Array.getElem?_modify, if_true, h, Option.map_some]; first | rfl | simp
theorem OwnA.other {rb : Nat} {w w' : World} {v : Value} {l : List Ac} (h : OwnA rb w v l) {b : Nat} {cs : Array Value} {t : TypeId} {fz : Nat × Nat} (hb : w.heap[b]? = some (.cells cs t fz)) (ht : t ≠ 5) (hg : w.grownBy w' (some b)) (hne : v.ownBlock ≠ some b) : OwnA rb w' v l := by
  obtain ⟨us, h1, h2, h3⟩ := h
  exact ⟨us, h1, World.ownsRow.kept h2 hg (.inr hne), fun x hx => (h3 x hx).keptT hg (.inr ⟨b, cs, t, fz, rfl, Nat.zero_le _, hb, ht⟩)⟩
set_option maxRecDepth 100000 in
set_option maxHeartbeats 2000000 in
theorem acts_any (w : World) (v : Value) (l : List Ac) (hv : ActsIs w v l) (hl : FitsA l) :
    Calls Tryd.prog 8 #[v] w fun e w' => ∃ v', e = .returned v' ∧ OwnA w.heap.size w' v' l ∧ w.grownBy w' none := by
  obtain ⟨a, cap, rfl⟩ := hv.shape
  have hmany := hl.many
  have HF : Hid (FitsA l) := hl
  clear hl
  go_enter Tryd.func8, Tryd.ntmps8
  go_wp2_with fail
  go_loopw [3, 4] (fun cv i wr => ∃ m : Nat, m ≤ l.length ∧ i = .int .i64 (m : Int) ∧ OwnA w.heap.size wr cv (l.take m) ∧ w.grownBy wr none) (fun _ i _ => l.length - (intOf i).toNat)
  case atStart => exact ⟨0, by omega, rfl, ownA_nil _ _, grown_refl _ _⟩
  case round =>
    obtain ⟨m, hm, rfl, hown, hg⟩ := hrel
    obtain ⟨ca, ccap, rfl⟩ := hown.shape
    by_cases hlt : m < l.length
    · obtain ⟨b, o, rfl, hat⟩ := hv.at m hlt
      obtain ⟨vd, c1, c2, c3, c4, s1⟩ := hat.grown hg
      have HT : Hid (l.take (m + 1) = l.take m ++ [l.getD m noAc]) := by
        show _ = _
        rw [List.take_succ_eq_append_getElem hlt]; simp [hlt]
      have hTl : (l.take m).length = m := by simp; omega
      have hpf := HF.out.each m hlt
      generalize l.getD m noAc = P at *
      generalize l.take m = T at *
      obtain ⟨da, dc, rfl⟩ := s1.shape
      rw [hTl] at hown ⊢
      have HOW : Hid (OwnA w.heap.size wr (.slice ca m ccap) T) := hown
      have hob : ∀ k, (Value.slice ca m ccap).ownBlock = some k → k < wr.heap.size := fun k e => (hown.lt k e).2
      obtain ⟨W1, HW1, hg1, B1⟩ := alloc_namedR wr (.cells #[.int .i64 P.kind, .int .i64 P.sess, .int .i64 P.keep, .slice da P.data.length dc] 36)
      obtain ⟨⟨y0, y1, y2, y3⟩, _⟩ := quad_room (grown_refl W1 none) B1.out
      have OC : Hid (Calls Tryd.prog 17 #[.slice da P.data.length dc] W1 fun e w' => ∃ v', e = .returned v' ∧ Own W1.heap.size w' v' P.data ∧ W1.grownBy w' none) := octets_any W1 _ P.data (s1.grown hg1) hpf.data
      have HOB : Hid ((Value.slice ca m ccap).ownBlock ≠ some wr.heap.size) := fun e => by have := hob _ e; omega
      have i1 : (m : Int) < (l.length : Int) := by omega
      have hgw1 := grown_trans hg hg1
      have hwr := hg.size
      obtain ⟨B, hB⟩ : ∃ B, B = wr.heap.size := ⟨_, rfl⟩
      have hBl : B < W1.heap.size := by rw [hB]; exact (Array.getElem?_eq_some_iff.1 B1.out).1
      rw [← hB] at B1 y0 y1 y2 y3 HOB hwr
      clear hat s1 hpf hown hob
      go_upto_region 6 with fail
      rw [← HW1.out, ← hB]
      clear hB
      go_wp2_with fail
      refine OC.out.mono ?_
      rintro e w2 ⟨x, rfl, hx, hg2⟩
      obtain ⟨xa, xc, rfl⟩ := hx.shape
      have hgw2 := grown_trans hgw1 hg2
      have B2 := pair_old hg2 B1.out
      obtain ⟨⟨z0, z1, z2, z3⟩, k0, k1, k2, k3, _⟩ := quad_room (grown_refl w2 none) B2
      obtain ⟨W3, hW3⟩ : ∃ W3 : World, W3 = w2.setCell ⟨B, 3, none⟩ (.slice xa P.data.length xc) := ⟨_, rfl⟩
      have hgs : w2.grownBy W3 (some B) := by rw [hW3]; exact grown_set (grown_refl w2 (some B)) 3 _
      have B3 : W3.heap[B]? = some (.cells #[.int .i64 P.kind, .int .i64 P.sess, .int .i64 P.keep, .slice xa P.data.length xc] 36) := by
        rw [hW3]; exact set_selfA B2
      obtain ⟨⟨x0, x1, x2, x3⟩, _⟩ := quad_room (grown_refl W3 none) B3
      have HW3 : Hid (W3 = w2.setCell ⟨B, 3, none⟩ (.slice xa P.data.length xc)) := hW3
      have hgw3 : w.grownBy W3 none := by rw [hW3]; exact grown_setNew hgw2 _ hwr _ _
      have HO3 : Hid (OwnA w.heap.size W3 (.slice ca m ccap) T) := (HOW.out.grownNone (grown_trans hg1 hg2)).other B2 acT5 hgs HOB.out
      have HP3 : Hid (PartIs 0 W3 (.slice xa P.data.length xc) P.data) := (hx.part (base := 0)).keptT hgs (.inr ⟨B, _, _, _, rfl, Nat.zero_le _, B2, acT5⟩)
      have hl48 : (T.length + 1) * 48 ≤ 140737488355328 := by omega
      have hs3 := hgw3.size
      have HP4 : Hid (PartIs 0 (W3.alloc (.cells #[.int .i64 P.kind, .int .i64 P.sess, .int .i64 P.keep, .slice xa P.data.length xc] 36)) (.slice xa P.data.length xc) P.data) := HP3.out.keptT (World.grownBy_alloc _ _ _) (.inl rfl)
      clear hx hgs B2 B3 HP3 HOW OC y0 y1 y2 y3 hW3 c1 c2 c3 c4 B1
      go_upto_region 7 with fail
      rw [← HW3.out]
      clear z0 z1 z2 z3 k0 k1 k2 k3
      go_wp2_with (at_builtin; refine wpList_append_ac rfl _ _ rfl w.heap.size (.slice ca m ccap) T rfl (HO3.out.alloc _) (.slice xa P.data.length xc) P HP4.out W3.heap.size (heap_alloc_new W3 _) rfl hl48 (by simp; omega) ?_; intro v4 w4 ho4 hg4)
      have hgw4 : w.grownBy w4 none := grown_ownA (grown_alloc hgw3 _) (HO3.out.alloc _) (Nat.le_refl _) hg4
      go_roundw
      case rel => exact ⟨m + 1, by omega, by go_num, by rw [HT.out]; exact ho4, hgw4⟩
      case measure => simp [intOf]; omega
    · obtain rfl : m = l.length := by omega
      rw [List.take_length] at hown
      rw [List.take_length]
      go_wp2
      go_ret
      exact ⟨_, rfl, hown, hg⟩
end Go.Proofs.YtpefggkhjocanaaDoor
