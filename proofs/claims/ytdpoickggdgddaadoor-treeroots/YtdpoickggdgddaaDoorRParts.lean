/-
  The walk of PartsOf of the document's answer.
-/
import Derived.Test.YtdpoickggdgddaaDoorRJoin
import Derived.Test.YtdpoickggdgddaaDoorBase
namespace Go.Proofs.YtdpoickggdgddaaDoor
open Go.RowKit
set_option maxRecDepth 100000 in
set_option maxHeartbeats 1000000 in
theorem partsOf_any (w : World) (k : UInt8) (v : Value) (ps : List (List UInt8)) (hv : ListIs w v ps) (hm : ps.length ≤ maxLen) (hms : ∀ i, i < ps.length → (ps.getD i []).length ≤ 140737488351232) :
    Calls Tryd.prog 36 #[.int .u8 (k.toNat : Int), v] w fun e w' => w.grownBy w' none ∧
      (((joinF k ps).length ≤ 4000 ∧ ∃ v', e = .returned (.tuple #[v', .int .i64 0]) ∧ SliceIs w' v' (sumF (joinF k ps))) ∨
       (4000 < (joinF k ps).length ∧ e = .returned (.tuple #[.slice none 0 0, .int .i64 1]))) := by
  obtain ⟨a, cap, rfl, hc, hps⟩ := hv
  unfold maxLen at hm
  go_enter Tryd.func36, Tryd.ntmps36
  go_wp2_with fail
  go_loopw [6, 7] (fun j i wr => ∃ m : Nat, m ≤ ps.length ∧ i = .int .i64 (m : Int) ∧ Own w.heap.size wr j (joinF k (ps.take m)) ∧ (joinF k (ps.take m)).length ≤ 4000 ∧ w.grownBy wr none) (fun _ i _ => ps.length - (intOf i).toNat)
  case atStart => exact ⟨0, by omega, rfl, own_new w.heap.size w [k] (Nat.le_refl _) (by unfold maxLen; simp), by simp [joinF], grown_alloc (grown_refl _ _) _⟩
  case round =>
    obtain ⟨m, hmn, rfl, hown, hlen, hg⟩ := hrel
    obtain ⟨ja, jcap, rfl⟩ := hown.shape
    by_cases hlt : m < ps.length
    · obtain ⟨b, o, rfl, hcells⟩ : ∃ b o, a = some ⟨b, o, none⟩ ∧ ∀ i, i < ps.length → ∃ vi, w.cell? ⟨b, o + i, none⟩ = some vi ∧ SliceIs w vi (ps.getD i []) := by
        rcases hps with rfl | h
        · simp at hlt
        · exact h
      obtain ⟨vi, hvi, hsi⟩ := hcells m hlt
      have hpm := hms m hlt
      have HT : Hid (joinF k (ps.take (m + 1)) = joinF k (ps.take m) ++ jpartF (ps.getD m [])) := joinF_take k ps m hlt
      have HM : Hid ((joinF k (ps.take (m + 1))).length ≤ (joinF k ps).length) := joinF_mono k ps (m + 1)
      have hci := hg.cell hvi (by simp)
      generalize ps.getD m [] = P at *
      obtain ⟨pa, pcap, rfl, hpc, hpr⟩ := hsi
      have hsi : SliceIs w (.slice pa P.length pcap) P := ⟨pa, pcap, rfl, hpc, hpr⟩
      have HSI : Hid (SliceIs w (.slice pa P.length pcap) P) := hsi
      have hsz := hg.size
      generalize joinF k (ps.take m) = J at *
      have HPS : Hid (w.heap.size ≤ wr.heap.size) := hsz
      have HVI : Hid (w.cell? ⟨b, o + m, none⟩ = some (.slice pa P.length pcap)) := hvi
      clear hcells hvi hsi hpr hps hms hsz
      have i1 : (m : Int) < (ps.length : Int) := by omega
      by_cases hfit : P.length + 2 + J.length ≤ 4000
      · have i2 : ¬ (4000 : Int) < (P.length : Int) + 2 + (J.length : Int) := by omega
        have i3 : ¬ (4000 : Int) < (P.length : Int) := by omega
        have i4 : (P.length : Int) ≤ 4000 := by omega
        have HB1 : Hid (SliceIs (wr.alloc (.cells #[.int .u8 ((P.length : Int) / 256), .int .u8 ((P.length : Int) % 256)] 5)) (.slice (some ⟨wr.heap.size, 0, none⟩) 2 2) [UInt8.ofNat (P.length / 256), UInt8.ofNat P.length]) := by
          have e1 : ((P.length : Int) / 256) = ((UInt8.ofNat (P.length / 256)).toNat : Int) := by simp; omega
          have e2 : ((P.length : Int) % 256) = ((UInt8.ofNat P.length).toNat : Int) := by simp
          rw [e1, e2]
          exact two_slice _ _ _ _
        go_upto_region 9 with (at_builtin; refine wpList_append_bytes rfl (.tmp 32) (.tmp 39) rfl w.heap.size (.slice ja J.length jcap) J rfl (hown.alloc _) (some ⟨wr.heap.size, 0, none⟩) 2 2 _ rfl HB1.out (by omega) (by have := HPS.out; simp; omega) ?_; intro v1 w1 ho1 hg1)
        have hgw := grown_own (grown_alloc hg _) (hown.alloc _) hg1
        have hci1 := hgw.cell HVI.out (by simp)
        have HS1 : Hid (SliceIs w1 (.slice pa P.length pcap) P) := HSI.out.grown hgw
        have hJl : (J ++ [UInt8.ofNat (P.length / 256), UInt8.ofNat P.length]).length = J.length + 2 := by simp
        generalize hJ2 : J ++ [UInt8.ofNat (P.length / 256), UInt8.ofNat P.length] = J2 at *
        have HJ2 : Hid (J ++ [UInt8.ofNat (P.length / 256), UInt8.ofNat P.length] = J2) := hJ2
        have HJL : Hid (J2.length = J.length + 2) := hJl
        clear hJ2 hJl
        have HJ1 := ho1.slice
        obtain ⟨va, vcap, rfl⟩ := ho1.shape
        clear hown hci hg hg1 HB1 HSI HPS HVI
        go_wp2_with fail
        refine (joined_any w1 _ _ _ _ HJ1 HS1.out (by have := HJL.out; omega) (by omega)).mono ?_
        rintro e w2 ⟨v2, rfl, ho2, hg2⟩
        have hgw2 := grown_trans hgw hg2
        go_wp2_with fail
        go_roundw
        case rel =>
          have e : joinF k (ps.take (m + 1)) = J2 ++ P := by rw [HT.out, ← HJ2.out]; simp [jpartF]
          have ho3 : Own w.heap.size w2 v2 (joinF k (ps.take (m + 1))) := by rw [e]; exact own_mono ho2 hgw.size
          refine ⟨m + 1, by omega, by go_num, ho3, ?_, hgw2⟩
          rw [e]; have := HJL.out; simp; omega
        case measure => simp [intOf]; omega
      · by_cases hbig : 4000 < P.length
        · have i3 : (4000 : Int) < (P.length : Int) := by omega
          go_wp2
          go_ret2
          refine ⟨hg, .inr ⟨?_, rfl⟩⟩
          have h1 := HM.out
          rw [HT.out] at h1
          simp [jpartF_len] at h1
          omega
        · have i3 : ¬ (4000 : Int) < (P.length : Int) := by omega
          have i2 : (4000 : Int) < (P.length : Int) + 2 + (J.length : Int) := by omega
          go_wp2
          go_ret2
          refine ⟨hg, .inr ⟨?_, rfl⟩⟩
          have h1 := HM.out
          rw [HT.out] at h1
          simp [jpartF_len] at h1
          omega
    · obtain rfl : m = ps.length := by omega
      rw [List.take_length] at hown hlen
      have hS := digested_any wr _ _ hown.slice hlen
      go_wp2_with fail
      refine hS.mono ?_
      rintro e w2 ⟨v2, rfl, hs2, hg2⟩
      go_wp2
      go_ret2
      exact ⟨grown_trans hg hg2, .inl ⟨hlen, v2, rfl, hs2⟩⟩
end Go.Proofs.YtdpoickggdgddaaDoor
