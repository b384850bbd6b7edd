/-
  tree.Delete, as it landed, keeps P3.4.
-/
import Derived.Test.YtpmfbfflacbmjacTSearchP
import Derived.Test.YtpmfbfflacbmjacTJoinP
import Derived.Test.YtpmfbfflacbmjacPart3
import Derived.Test.YtpmfbfflacbmjacPairB
namespace Go.Proofs.Ytpmfbfflacbmjac
open Go.RowKit
/-- tree.Delete, and that what it hands back is new. -/
def TDelNew : Prop := ∀ (w : World) (v u : Value) (l : PL) (k : List UInt8), PairsIs w v l → SliceIs w u k → Fits l → k.length ≤ 140737488355328 → Calls Try.prog 78 #[v, u] w fun e w' => ∃ x, e = .returned (.tuple #[x, .int .i64 (getE l k)]) ∧ PairsB 0 w' x (delF l k) ∧ w.grownBy w' none
set_option maxRecDepth 100000 in
set_option maxHeartbeats 1000000 in
theorem tdel_new : TDelNew := by
  intro w v u l k hv hu hl hkl
  have CW : Hid (Calls Try.prog 62 #[v, u] w fun e w' => e = .returned (.int .i64 (getE l k)) ∧ w.grownBy w' none) := checkWith_any w v u l k hv hu hl
  obtain ⟨a, cap, rfl⟩ := hv.shape
  obtain ⟨ka, kcap, rfl⟩ := hu.shape
  by_cases hE : getE l k = 0
  · have hT := getE_tree hE
    have hD : delF l k = delL l k := by unfold delF; rw [if_pos hE]
    have hG := del_next l k hT.rises
    have PL1 : Hid (∀ w', w.grownBy w' none → Calls Try.prog 60 #[.slice a l.length cap, .slice ka k.length kcap] w' fun e w'' => e = .returned (.tuple #[.int .i64 (posF l k : Int), .int .i64 (nextF l k : Int)]) ∧ w'.grownBy w'' none) := fun w' hg => place_any w' _ _ l k (hv.grown hg) (hu.grown hg) hT.rises hT.room
    have hroom := hT.room
    have hnx := next_le l k
    rw [hE] at CW ⊢
    rw [hD, hG]
    clear hD hG hE
    generalize posF l k = n at *
    generalize nextF l k = m at *
    obtain ⟨n1, n2, n3⟩ := hnx
    have i1 : (n : Int) ≤ (l.length : Int) := by omega
    have i2 : (m : Int) ≤ (l.length : Int) := by omega
    obtain ⟨R, hR⟩ : ∃ R, R = l.take n ++ l.drop m := ⟨_, rfl⟩
    rw [← hR]
    have HR : Hid (R = l.take n ++ l.drop m) := hR
    clear hR
    go_enter Try.func78, Try.ntmps78
    go_wp2_with fail
    refine CW.out.mono ?_
    rintro e w1 ⟨rfl, hg1⟩
    go_wp2_with fail
    refine (PL1.out _ hg1).mono ?_
    rintro e w2 ⟨rfl, hg2⟩
    obtain ⟨a1, c1, r1, q1⟩ := pslice_h a cap l n (by omega) hv.cap
    obtain ⟨a2, c2, r2, q2⟩ := pslice_l a cap l m (by omega)
    have hgw := grown_trans hg1 hg2
    have JO : Hid (Calls Try.prog 61 #[.slice (some ⟨w2.heap.size, 0, none⟩) 2 2] (w2.alloc (.cells #[.slice a1 n c1, .slice a2 (l.length - m) c2] 41)).drew fun e w'' => ∃ v', e = .returned v' ∧ PairsB 0 w'' v' R ∧ w2.grownBy w'' none) := by
      rw [HR.out]
      have hg : w2.grownBy (w2.alloc (.cells #[.slice a1 n c1, .slice a2 (l.length - m) c2] 41)).drew none := grown_drew (World.grownBy_alloc _ _ _)
      have hb : (w2.alloc (.cells #[.slice a1 n c1, .slice a2 (l.length - m) c2] 41)).drew.heap[w2.heap.size]? = some (.cells #[.slice a1 n c1, .slice a2 (l.length - m) c2] 41) := heap_alloc_new w2 _
      generalize (w2.alloc (.cells #[.slice a1 n c1, .slice a2 (l.length - m) c2] 41)).drew = w' at *
      have h1 := q1 w' (hv.grown (grown_trans hgw hg))
      have h2 := q2 w' (hv.grown (grown_trans hgw hg))
      have := joined_any w' (.slice (some ⟨w2.heap.size, 0, none⟩) 2 2) [l.take n, l.drop m] ⟨_, _, rfl, fun i hi => ?_⟩ (by simp; omega) (by simp) (fun q hq => ?_)
      · refine this.mono ?_
        rintro e w4 ⟨v4, rfl, h4, hg4⟩
        exact ⟨v4, rfl, by simpa using h4.pairsB, grown_trans hg hg4⟩
      · match i, hi with
        | 0, _ => exact ⟨_, by simp [World.cell?, hb], h1⟩
        | 1, _ => exact ⟨_, by simp [World.cell?, hb], h2⟩
      · have hq' : q ∈ l := by
          simp only [List.flatten_cons, List.flatten_nil, List.append_nil, List.mem_append] at hq
          rcases hq with hq | hq
          · exact List.mem_of_mem_take hq
          · exact List.mem_of_mem_drop hq
        have := hT.pairs q hq'
        omega
    clear q1 q2
    go_wp2_with fail
    go_region_with (go_at_call 61; refine JO.out.mono ?_; rintro e w3 ⟨v3, rfl, ho3, hg3⟩; obtain ⟨a3, c3, rfl⟩ := ho3.shape)
    go_wp2
    go_ret2
    exact ⟨_, rfl, ho3, grown_trans hgw hg3⟩
  · have hD : delF l k = [] := by unfold delF; rw [if_neg hE]
    rw [hD]
    generalize getE l k = z at *
    have hz : (z != 0) = true := by simpa using hE
    clear hD hv hu
    go_enter Try.func78, Try.ntmps78
    go_wp2_with fail
    refine CW.out.mono ?_
    rintro e w1 ⟨rfl, hg1⟩
    go_wp2
    go_ret2
    exact ⟨_, rfl, pairsB_nil _ _, hg1⟩
theorem tdel_ok : TDelOK := fun w v u l k h1 h2 h3 h4 => (tdel_new w v u l k h1 h2 h3 h4).mono fun e w' h => by
  obtain ⟨x, h1, h2, h3⟩ := h
  exact ⟨x, h1, h2.list, h3⟩
end Go.Proofs.Ytpmfbfflacbmjac
