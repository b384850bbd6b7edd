/-
  The walk of canopykeep.TreeFull, over what the code must keep.
-/
import Derived.Test.YtdpoickggdgddacTCPut
import Derived.Test.YtdpoickggdgddacTCCheck
import Derived.Test.YtdpoickggdgddacKPure
import Derived.Test.YtdpoickggdgddacPosF
import Derived.Test.YtdpoickggdgddacSome
import Derived.Test.YtdpoickggdgddacPicked
namespace Go.Proofs.Ytdpoickggdgddac
open Go.RowKit
/-- So many pairs of one byte and no value. -/
def fullL (m : Nat) : PL := (List.range m).map fun i => ([UInt8.ofNat (i + 1)], [])
theorem full_len (m : Nat) : (fullL m).length = m := by simp [fullL]
theorem full_succ (m : Nat) : fullL (m + 1) = fullL m ++ [([UInt8.ofNat (m + 1)], [])] := by simp [fullL, List.range_succ]
theorem full_tree : Tree (fullL 60) := (tree_iff _).1 (by decide +kernel)
theorem full_get : ∀ k : Fin 256, (getF (fullL 60) [UInt8.ofNat k.1]).isSome = decide (1 ≤ k.1 ∧ k.1 ≤ 60) := by decide +kernel
theorem full_has (k : Nat) (hk : k < 256) : hasF (fullL 60) [UInt8.ofNat k] = decide (1 ≤ k ∧ k ≤ 60) := by
  have h := full_get ⟨k, hk⟩
  have e := get_pos (fullL 60) [UInt8.ofNat k] full_tree.rises
  rw [e] at h
  cases hh : hasF (fullL 60) [UInt8.ofNat k] with
  | true => rw [hh, if_pos rfl] at h; exact h
  | false => rw [hh, if_neg (by simp)] at h; exact h
theorem full_put (k : Nat) (hk : k < 256) (v : List UInt8) (hv : v.length ≤ 32) :
    (1 ≤ k ∧ k ≤ 60 → putE (fullL 60) ([UInt8.ofNat k], v) = 0 ∧ (putF (fullL 60) ([UInt8.ofNat k], v)).length = 60 ∧ Tree (putF (fullL 60) ([UInt8.ofNat k], v))) ∧
    (¬ (1 ≤ k ∧ k ≤ 60) → putE (fullL 60) ([UInt8.ofNat k], v) = 11 ∧ putF (fullL 60) ([UInt8.ofNat k], v) = []) := by
  have hT := full_tree
  have hok : (1 ≤ ([UInt8.ofNat k] : List UInt8).length ∧ ([UInt8.ofNat k] : List UInt8).length ≤ 16) ∧ v.length ≤ 32 := ⟨by simp, hv⟩
  have h0 : putE0 (fullL 60) ([UInt8.ofNat k], v) = 0 := by rw [putE0, if_pos ((tree_iff _).2 hT)]; exact (pairFault_iff _).2 hok
  have hm : (putL (fullL 60) ([UInt8.ofNat k], v)).length = posF (fullL 60) [UInt8.ofNat k] + 1 + ((fullL 60).length - nextF (fullL 60) [UInt8.ofNat k]) := put_many (fullL 60) ([UInt8.ofNat k], v)
  have hh := full_has k hk
  rw [full_len] at hm
  constructor
  · intro h
    have hx : hasF (fullL 60) [UInt8.ofNat k] = true := by rw [hh]; exact decide_eq_true h
    have hn : nextF (fullL 60) [UInt8.ofNat k] = posF (fullL 60) [UInt8.ofNat k] + 1 := by rw [nextF, if_pos hx]
    have hp := (has_pos hx).1
    rw [full_len] at hp
    have hl : (putL (fullL 60) ([UInt8.ofNat k], v)).length = 60 := by rw [hm, hn]; omega
    have he : putE (fullL 60) ([UInt8.ofNat k], v) = 0 := by rw [putE, if_pos h0, if_neg (by omega)]
    have hf : putF (fullL 60) ([UInt8.ofNat k], v) = putL (fullL 60) ([UInt8.ofNat k], v) := by rw [putF, if_pos he]
    refine ⟨he, by rw [hf]; exact hl, ?_⟩
    rw [hf]
    exact ⟨by omega, put_pairs _ _ hT.pairs hok, put_rises _ _ hT.rises⟩
  · intro h
    have hx : hasF (fullL 60) [UInt8.ofNat k] = false := by rw [hh]; exact decide_eq_false h
    have hn : nextF (fullL 60) [UInt8.ofNat k] = posF (fullL 60) [UInt8.ofNat k] := by rw [nextF, if_neg (by rw [hx]; simp)]
    have hp := pos_le (fullL 60) [UInt8.ofNat k]
    rw [full_len] at hp
    have hl : (putL (fullL 60) ([UInt8.ofNat k], v)).length = 61 := by rw [hm, hn]; omega
    have he : putE (fullL 60) ([UInt8.ofNat k], v) = 11 := by rw [putE, if_pos h0, if_pos (by omega)]
    exact ⟨he, by rw [putF, if_neg (by rw [he]; decide)]⟩
set_option maxRecDepth 100000 in
set_option maxHeartbeats 2000000 in
theorem treeFull_walk (hP : TPutOK) (hC : TCheckOK) (w : World) (n : Int) (v : Value) (vb : List UInt8) (hn1 : -9223372036854775808 ≤ n) (hn2 : n ≤ 9223372036854775807) (hv : SliceIs w v vb) (hvl : vb.length ≤ maxLen) :
    Calls Try.prog 3 #[.int .i64 n, v] w fun e w' => e = .returned (.bool true) ∧ w.grownBy w' none := by
  have SO : Hid (∀ w', w.grownBy w' none → Calls Try.prog 7 #[v, .int .i64 32] w' fun e w'' => ∃ v', e = .returned v' ∧ Own w'.heap.size w'' v' (vb.take 32) ∧ w'.grownBy w'' none) := fun w' hg => some_any w' v vb 32 (by omega) (hv.grown hg) hvl
  have hV : (vb.take 32).length ≤ 32 := by simp; omega
  generalize vb.take 32 = V at *
  clear hv hvl
  go_enter Try.func3, Try.ntmps3
  go_wp2_with fail
  go_loopw [5, 6] (fun cv i wr => ∃ m : Nat, m ≤ 60 ∧ i = .int .i64 (m : Int) ∧ OwnP w.heap.size wr cv (fullL m) ∧ w.grownBy wr none) (fun _ i _ => 60 - (intOf i).toNat)
  case atStart => exact ⟨0, by omega, rfl, ownP_nil _ _, grown_refl _ _⟩
  case round =>
    obtain ⟨m, hm, rfl, hown, hgr⟩ := hrel
    obtain ⟨ca, ccap, rfl⟩ := hown.shape
    by_cases hlt : m < 60
    · have t1 : (m : Int) < 60 := by omega
      have HS : Hid (fullL (m + 1) = fullL m ++ [([UInt8.ofNat (m + 1)], [])]) := full_succ m
      have hln : (fullL m).length = m := full_len m
      have hsz := hgr.size
      have HK : Hid (PartIs w.heap.size (wr.alloc (.cells #[.int .u8 ((m : Int) + 1)] 5)) (.slice (some ⟨wr.heap.size, 0, none⟩) 1 1) [UInt8.ofNat (m + 1)]) := by
        have := own_new w.heap.size wr [UInt8.ofNat (m + 1)] hsz (by unfold maxLen; simp)
        have e : (((UInt8.ofNat (m + 1)).toNat : Nat) : Int) = (m : Int) + 1 := by simp; omega
        simp only [bytesOf, List.map_cons, List.map_nil, e] at this
        exact this.part
      have HV : Hid (PartIs w.heap.size (wr.alloc (.cells #[.int .u8 ((m : Int) + 1)] 5)) (.slice none 0 0) []) := ⟨sliceIs_nil _, .inl rfl⟩
      have HOW : Hid (OwnP w.heap.size (wr.alloc (.cells #[.int .u8 ((m : Int) + 1)] 5)) (.slice ca m ccap) (fullL m)) := by
        have := hown.alloc (.cells #[.int .u8 ((m : Int) + 1)] 5)
        rw [hln] at this
        exact this
      rw [hln]
      clear hown
      generalize hF : fullL m = F at *
      clear hF
      go_wp2_with (at_builtin; refine wpList_append_pair (w0 := wr.alloc (.cells #[.int .u8 ((m : Int) + 1)] 5)) rfl _ _ rfl w.heap.size (.slice ca m ccap) F rfl HOW.out _ _ ([UInt8.ofNat (m + 1)], []) HK.out HV.out rfl (wr.heap.size + 1) rfl (by simp) (by omega) (by simp; omega) ?_; intro v2 w2 ho2 hg2)
      have hgw := grown_ownP (grown_alloc (grown_alloc hgr _) _) (HOW.out.alloc _) hg2
      go_roundw
      case rel =>
        first
          | exact ⟨m + 1, by omega, by go_num, by rw [HS.out]; exact ho2, hgw⟩
          | ((repeat apply Exists.intro); refine ⟨⟨m + 1, by omega, ?_, by rw [HS.out]; exact ho2, hgw⟩, rfl⟩; go_num)
      case measure => simp [intOf]; omega
    · obtain rfl : m = 60 := by omega
      have HL : Hid (PairsIs wr (.slice ca 60 ccap) (fullL 60)) := by have := hown.list; rw [full_len] at this; exact this
      rw [full_len]
      clear hown
      go_wp2_with fail
      refine (picked_any n 256 wr hn1 hn2 (by omega) (by omega)).mono ?_
      rintro e w2 ⟨k, rfl, hk, rfl⟩
      have hk2 : k < 256 := by omega
      obtain ⟨f1, f2⟩ := full_put k hk2 V hV
      have hga : w2.grownBy (w2.alloc (.cells #[.int .u8 (k : Int)] 5)) none := World.grownBy_alloc _ _ _
      have SK : Hid (SliceIs (w2.alloc (.cells #[.int .u8 (k : Int)] 5)) (.slice (some ⟨w2.heap.size, 0, none⟩) 1 1) [UInt8.ofNat k]) := by
        have := one_slice w2 (UInt8.ofNat k) 5
        rw [show (((UInt8.ofNat k).toNat : Nat) : Int) = (k : Int) by simp; omega] at this
        exact this
      have HP : Hid (∀ w' v1 v2, PairsIs w' v1 (fullL 60) → PairIs w' v2 ([UInt8.ofNat k], V) → Calls Try.prog 6 #[v1, v2] w' fun e w'' => ∃ y, e = .returned (.tuple #[y, .int .i64 (putE (fullL 60) ([UInt8.ofNat k], V))]) ∧ PairsIs w'' y (putF (fullL 60) ([UInt8.ofNat k], V)) ∧ w'.grownBy w'' none) := fun w' v1 v2 h1 h2 => hP w' v1 v2 _ _ h1 h2 full_tree.fits (by simp) (by simp; omega)
      have HC : Hid (∀ w' v1 (t : PL), PairsIs w' v1 t → Tree t → Calls Try.prog 8 #[v1] w' fun e w'' => e = .returned (.int .i64 0) ∧ w'.grownBy w'' none) := fun w' v1 t h1 ht => by
        have := hC w' v1 t h1 ht.fits
        rw [tree_fault t ht] at this
        exact this
      have HFT : Hid (Tree (fullL 60)) := full_tree
      generalize putE (fullL 60) ([UInt8.ofNat k], V) = E at *
      generalize putF (fullL 60) ([UInt8.ofNat k], V) = T at *
      clear hP hC hk
      by_cases hin : 1 ≤ k ∧ k ≤ 60
      · obtain ⟨rfl, hl, ht⟩ := f1 hin
        have HT : Hid (Tree T) := ht
        have HTL : Hid (T.length = 60) := hl
        obtain ⟨k1, k2⟩ := hin
        have t1 : (1 : Int) ≤ (k : Int) := by omega
        have t2 : (k : Int) ≤ 60 := by omega
        clear f1 f2 ht hl
        go_wp2_with fail
        refine (SO.out _ (grown_trans hgr hga)).mono ?_
        rintro e w3 ⟨v3, rfl, ho3, hg3⟩
        obtain ⟨a3, c3, rfl⟩ := ho3.shape
        have hg23 := grown_trans hga hg3
        go_wp2_with fail
        refine (HP.out _ _ _ (HL.out.grown hg23) ⟨_, _, rfl, SK.out.grown hg3, ho3.slice⟩).mono ?_
        rintro e w4 ⟨y, rfl, hy, hg4⟩
        obtain ⟨a4, c4, rfl⟩ := hy.shape
        rw [HTL.out] at hy ⊢
        go_wp2_with fail
        refine (HC.out _ _ T hy HT.out).mono ?_
        rintro e w5 ⟨rfl, hg5⟩
        go_wp2
        go_ret
        exact ⟨rfl, grown_trans hgr (grown_trans hg23 (grown_trans hg4 hg5))⟩
      · obtain ⟨rfl, rfl⟩ := f2 hin
        have HIN : Hid (¬ (1 ≤ k ∧ k ≤ 60)) := hin
        clear f1 f2
        by_cases k1 : 1 ≤ k
        · have t1 : (1 : Int) ≤ (k : Int) := by omega
          have t2 : (60 : Int) < (k : Int) := by omega
          clear hin
          go_wp2_with fail
          refine (SO.out _ (grown_trans hgr hga)).mono ?_
          rintro e w3 ⟨v3, rfl, ho3, hg3⟩
          obtain ⟨a3, c3, rfl⟩ := ho3.shape
          have hg23 := grown_trans hga hg3
          go_wp2_with fail
          refine (HP.out _ _ _ (HL.out.grown hg23) ⟨_, _, rfl, SK.out.grown hg3, ho3.slice⟩).mono ?_
          rintro e w4 ⟨y, rfl, hy, hg4⟩
          obtain ⟨a4, c4, rfl⟩ := hy.shape
          go_wp2_with fail
          refine (HC.out _ _ _ (HL.out.grown (grown_trans hg23 hg4)) HFT.out).mono ?_
          rintro e w5 ⟨rfl, hg5⟩
          go_wp2
          go_ret
          exact ⟨rfl, grown_trans hgr (grown_trans hg23 (grown_trans hg4 hg5))⟩
        · have t1 : (k : Int) < 1 := by omega
          clear hin
          go_wp2_with fail
          refine (SO.out _ (grown_trans hgr hga)).mono ?_
          rintro e w3 ⟨v3, rfl, ho3, hg3⟩
          obtain ⟨a3, c3, rfl⟩ := ho3.shape
          have hg23 := grown_trans hga hg3
          go_wp2_with fail
          refine (HP.out _ _ _ (HL.out.grown hg23) ⟨_, _, rfl, SK.out.grown hg3, ho3.slice⟩).mono ?_
          rintro e w4 ⟨y, rfl, hy, hg4⟩
          obtain ⟨a4, c4, rfl⟩ := hy.shape
          go_wp2_with fail
          refine (HC.out _ _ _ (HL.out.grown (grown_trans hg23 hg4)) HFT.out).mono ?_
          rintro e w5 ⟨rfl, hg5⟩
          go_wp2
          go_ret
          exact ⟨rfl, grown_trans hgr (grown_trans hg23 (grown_trans hg4 hg5))⟩
end Go.Proofs.Ytdpoickggdgddac
