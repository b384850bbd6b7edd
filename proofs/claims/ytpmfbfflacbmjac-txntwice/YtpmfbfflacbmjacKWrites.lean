/-
  The walks of canopykeep.Writes and canopykeep.Forest.
-/
import Derived.Test.YtpmfbfflacbmjacKWrite
import Derived.Test.YtpmfbfflacbmjacWrMem
import Derived.Test.YtpmfbfflacbmjacPart1
namespace Go.Proofs.Ytpmfbfflacbmjac
open Go.RowKit
/-- Raw places fit into memory. -/
def FitsQ (l : List Plc) : Prop := l.length * 80 ≤ 140737488355328 ∧ ∀ i, i < l.length → PlcFits (l.getD i noPlc)
set_option maxRecDepth 100000 in
set_option maxHeartbeats 2000000 in
theorem kwrites_any (w : World) (v : Value) (l : List Plc) (most : Nat) (hv : PlacesIs w v l) (hl : FitsQ l) (hm : most ≤ 1000) :
    Calls Try.prog 20 #[v, .int .i64 (most : Int)] w fun e w' => ∃ v', e = .returned v' ∧ OwnW w.heap.size w' v' ((l.take most).map writeF) ∧ w.grownBy w' none := by
  obtain ⟨a, cap, rfl⟩ := hv.shape
  have hmany := hl.1
  have HF : Hid (∀ i, i < l.length → PlcFits (l.getD i noPlc)) := hl.2
  clear hl
  obtain ⟨R, hR⟩ : ∃ R, R = (l.take most).map writeF := ⟨_, rfl⟩
  rw [← hR]
  have HR : Hid (R = (l.take most).map writeF) := hR
  clear hR
  go_enter Try.func20, Try.ntmps20
  go_wp2_with fail
  go_loopw [5, 6] (fun cv i wr => ∃ m : Nat, m ≤ l.length ∧ m ≤ most ∧ i = .int .i64 (m : Int) ∧ OwnW w.heap.size wr cv ((l.take m).map writeF) ∧ w.grownBy wr none) (fun _ i _ => l.length - (intOf i).toNat)
  case atStart => exact ⟨0, by omega, by omega, rfl, ownW_nil _ _, grown_refl _ _⟩
  case round =>
    obtain ⟨m, hm1, hm2, rfl, hown, hg⟩ := hrel
    obtain ⟨ca, ccap, rfl⟩ := hown.shape
    by_cases hlt : m < l.length
    · by_cases hlm : m < most
      · obtain ⟨b, o, rfl, hat⟩ := hv.at m hlt
        obtain ⟨vn, vk, vv, c1, c2, c3, c4, s1, s2, s3⟩ := hat.grown hg
        have HT : Hid ((l.take (m + 1)).map writeF = (l.take m).map writeF ++ [writeF (l.getD m noPlc)]) := by
          show _ = _
          rw [List.take_succ_eq_append_getElem hlt, List.map_append, show l[m] = l.getD m noPlc by simp [hlt]]; rfl
        have hTl : ((l.take m).map writeF).length = m := by simp; omega
        have hpf := HF.out m hlt
        generalize l.getD m noPlc = P at *
        generalize (l.take m).map writeF = T at *
        have CP : Hid (Calls Try.prog 17 #[.agg #[vn, vk, vv, .bool P.gone]] wr fun e w' => ∃ xn xk xv, e = .returned (.agg #[xn, xk, .bool P.gone, xv]) ∧ Own wr.heap.size w' xn (writeF P).name ∧ Own wr.heap.size w' xk (writeF P).key ∧ Own wr.heap.size w' xv (writeF P).value ∧ wr.grownBy w' none) := write_any wr _ P ⟨vn, vk, vv, rfl, s1, s2, s3⟩ hpf
        obtain ⟨a1, k1, rfl⟩ := s1.shape
        obtain ⟨a2, k2, rfl⟩ := s2.shape
        obtain ⟨a3, k3, rfl⟩ := s3.shape
        rw [hTl] at hown ⊢
        have HOW : Hid (OwnW w.heap.size wr (.slice ca m ccap) T) := hown
        have i1 : (m : Int) < (l.length : Int) := by omega
        have i2 : (m : Int) < (most : Int) := by omega
        have HG : Hid ((writeF P).gone = P.gone) := rfl
        generalize hQ : writeF P = Q at *
        clear hat s1 s2 s3 hpf hown hQ
        go_wp2_with fail
        refine CP.out.mono ?_
        rintro e w1 ⟨xn, xk, xv, rfl, h1, h2, h3, hg1⟩
        obtain ⟨na, nc, rfl⟩ := h1.shape
        obtain ⟨ka, kc, rfl⟩ := h2.shape
        obtain ⟨va, vc, rfl⟩ := h3.shape
        rw [← HG.out]
        have hgw1 := grown_trans hg hg1
        have hsz := hgw1.size
        obtain ⟨W2, hW2⟩ : ∃ W2 : World, W2 = w1.alloc (.cells #[.slice na Q.name.length nc, .slice ka Q.key.length kc, .bool Q.gone, .slice va Q.value.length vc] 53) := ⟨_, rfl⟩
        have HW2 : Hid (W2 = w1.alloc (.cells #[.slice na Q.name.length nc, .slice ka Q.key.length kc, .bool Q.gone, .slice va Q.value.length vc] 53)) := hW2
        have hga : w1.grownBy W2 none := by rw [hW2]; exact World.grownBy_alloc _ _ _
        obtain ⟨⟨y0, y1, y2, y3⟩, _⟩ := quad_room (grown_refl W2 none) (by rw [hW2]; exact heap_alloc_new w1 _ : W2.heap[w1.heap.size]? = some (.cells #[.slice na Q.name.length nc, .slice ka Q.key.length kc, .bool Q.gone, .slice va Q.value.length vc] 53))
        have hsz2 := hga.size
        have hg3 := World.grownBy_alloc W2 (.cells #[.slice na Q.name.length nc, .slice ka Q.key.length kc, .bool Q.gone, .slice va Q.value.length vc] 53) none
        have hg13 := grown_trans hga hg3
        have HO : Hid (OwnW w.heap.size (W2.alloc (.cells #[.slice na Q.name.length nc, .slice ka Q.key.length kc, .bool Q.gone, .slice va Q.value.length vc] 53)) (.slice ca m ccap) T) := (HOW.out.grownNone hg1).grownNone hg13
        have H1 : Hid (PartIs w.heap.size (W2.alloc (.cells #[.slice na Q.name.length nc, .slice ka Q.key.length kc, .bool Q.gone, .slice va Q.value.length vc] 53)) (.slice na Q.name.length nc) Q.name) := (h1.grownNone hg13).part
        have H2 : Hid (PartIs w.heap.size (W2.alloc (.cells #[.slice na Q.name.length nc, .slice ka Q.key.length kc, .bool Q.gone, .slice va Q.value.length vc] 53)) (.slice ka Q.key.length kc) Q.key) := (h2.grownNone hg13).part
        have H3 : Hid (PartIs w.heap.size (W2.alloc (.cells #[.slice na Q.name.length nc, .slice ka Q.key.length kc, .bool Q.gone, .slice va Q.value.length vc] 53)) (.slice va Q.value.length vc) Q.value) := (h3.grownNone hg13).part
        have hgw3 := grown_trans hgw1 hg13
        have hl80 : (T.length + 1) * 80 ≤ 140737488355328 := by omega
        have HBS : Hid (w.heap.size ≤ (W2.alloc (.cells #[.slice na Q.name.length nc, .slice ka Q.key.length kc, .bool Q.gone, .slice va Q.value.length vc] 53)).heap.size) := hgw3.size
        clear h1 h2 h3 hW2 c1 c2 c3 c4 CP
        go_upto_region 6 with fail
        rw [← HW2.out]
        go_wp2_with (at_builtin; refine wpList_append_wr rfl _ _ rfl w.heap.size (.slice ca m ccap) T rfl HO.out (.slice na Q.name.length nc) (.slice ka Q.key.length kc) (.slice va Q.value.length vc) Q H1.out H2.out H3.out W2.heap.size (heap_alloc_new W2 _) rfl hl80 HBS.out ?_; intro v4 w4 ho4 hg4)
        have hgw := grown_ownW hgw3 HO.out (Nat.le_refl _) hg4
        go_roundw
        case rel => exact ⟨m + 1, by omega, by omega, by go_num, by rw [HT.out]; exact ho4, hgw⟩
        case measure => simp [intOf]; omega
      · have hTl : ((l.take m).map writeF).length = m := by simp; omega
        have i1 : (m : Int) < (l.length : Int) := by omega
        have i2 : ¬ (m : Int) < (most : Int) := by omega
        have HQ : Hid (OwnW w.heap.size wr (.slice ca m ccap) R) := by
          rw [hTl] at hown
          rw [HR.out, show most = m by omega]; exact hown
        rw [hTl]
        clear hown hTl
        go_wp2
        go_ret
        exact ⟨_, rfl, HQ.out, hg⟩
    · have hTl : ((l.take m).map writeF).length = m := by simp; omega
      have i1 : ¬ (m : Int) < (l.length : Int) := by omega
      have HQ : Hid (OwnW w.heap.size wr (.slice ca m ccap) R) := by
        rw [hTl] at hown
        have e : l.take most = l.take m := by
          obtain rfl : m = l.length := by omega
          rw [List.take_of_length_le hm2, List.take_length]
        rw [HR.out, e]; exact hown
      rw [hTl]
      clear hown hTl
      go_wp2
      go_ret
      exact ⟨_, rfl, HQ.out, hg⟩
/-- A piece of one write. -/
theorem sizeWrS (w : World) : (sizeOf (Try.prog.elem 26)).run Try.prog w = .ok 4 w := by kernel_rfl
theorem wslice_one (a : Option Addr) (cap : Nat) (l : List Plc) (m : Nat) (hm : m < l.length) (hc : l.length ≤ cap) : ∃ a1 c1, (∀ W, (Instr.slice 26 (.slice a l.length cap) (some (.int .i64 (m : Int))) (some (.int .i64 ((m : Int) + 1))) none).run Try.prog W = .ok (.slice a1 1 c1) W) ∧ ∀ W, WritesIs W (.slice a l.length cap) l → WritesIs W (.slice a1 1 c1) [l.getD m noPlc] := by
  have hne : ¬ (cap = m) := by omega
  refine ⟨a.map (fun x : Addr => x.add (m * 4)), cap - m, fun W => ?_, fun W h => ?_⟩
  · rw [run_slice_lh _ _ _ _ _ (by kernel_rfl) _ _ _ _ (by omega) (by omega) (by omega), sizeWrS]
    simp only [Result.andThen, Go.sliced, Int.toNat_natCast]
    rw [if_neg hne, show ((m : Int) + 1).toNat - m = 1 by omega]
  · obtain ⟨b, o, rfl, hat⟩ := h.at m hm
    refine ⟨_, cap - m, rfl, by simp; omega, .inr ⟨b, o + m * 4, by simp [addr_add], fun i hi => ?_⟩⟩
    obtain rfl : i = 0 := by simpa using hi
    simpa using hat
end Go.Proofs.Ytpmfbfflacbmjac
