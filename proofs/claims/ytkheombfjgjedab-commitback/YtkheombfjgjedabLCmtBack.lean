/-
  The walk of canopykeep.CommitBack, over what the code must keep.
-/
import Derived.Test.YtkheombfjgjedabPart3
import Derived.Test.YtkheombfjgjedabKWrites
import Derived.Test.YtkheombfjgjedabPicked
import Derived.Test.YtkheombfjgjedabKSameC
namespace Go.Proofs.Ytkheombfjgjedab
open Go.RowKit
set_option maxRecDepth 100000 in
set_option maxHeartbeats 1000000 in
theorem commitBack_walk (hD : TpDecOK) (hE : TpEncOK) (hC : TpCheckOK) (w : World) (v : Value) (l : List Plc) (turn : Int) (hv : PlacesIs w v l) (hl : FitsQ l) (hn0 : -9223372036854775808 ≤ turn) (hn1 : turn ≤ 9223372036854775807) :
    Calls Try.prog 3 #[v, .int .i64 turn] w fun e w' => e = .returned (.bool true) ∧ w.grownBy w' none := by
  have KW : Hid (Calls Try.prog 8 #[v, .int .i64 10] w fun e w' => ∃ v', e = .returned v' ∧ OwnW w.heap.size w' v' ((l.take 10).map writeF) ∧ w.grownBy w' none) := kwrites_any w v l 10 hv hl (by omega)
  have PK : Hid (Calls Try.prog 7 #[.int .i64 turn, .int .i64 1048576] w fun e w'' => ∃ k : Nat, e = .returned (.int .i64 (k : Int)) ∧ (k : Int) < 1048576 ∧ w'' = w) := picked_any turn _ w hn0 hn1 (by omega) (by omega)
  have hok : ∀ x ∈ (l.take 10).map writeF, writeE x = 0 := fun x hx => by
    obtain ⟨p, _, rfl⟩ := List.mem_map.1 hx
    exact writeF_ok p
  have hwl : ((l.take 10).map writeF).length ≤ 10 := by simp; omega
  obtain ⟨a, cap, rfl⟩ := hv.shape
  generalize (l.take 10).map writeF = ws at *
  have HOK : Hid (∀ x ∈ ws, writeE x = 0) := hok
  have HD : Hid TpDecOK := hD
  have HE : Hid TpEncOK := hE
  have HC : Hid TpCheckOK := hC
  clear hv hl hD hE hC hok
  go_enter Try.func3, Try.ntmps3
  go_wp2_with fail
  refine PK.out.mono ?_
  rintro e w0 ⟨k, rfl, hk, rfl⟩
  go_wp2_with fail
  refine KW.out.mono ?_
  rintro e w1 ⟨v1, rfl, h1, hg1⟩
  obtain ⟨ca, cc, rfl⟩ := h1.shape
  obtain ⟨W1, HW1, hgA1, B1⟩ := alloc_named6 w1 (.cells #[.int .i64 (1 + (k : Int)), .slice ca ws.length cc] 27)
  have HC1 : Hid (CommitIs W1 (.agg #[.int .i64 (1 + (k : Int)), .slice ca ws.length cc]) ⟨1 + (k : Int), ws⟩) := ⟨_, rfl, h1.list.grown hgA1⟩
  have hg01 := grown_trans hg1 hgA1
  clear h1
  go_upto_region 2 with fail
  rw [← HW1.out]
  obtain ⟨c0, c1, _, _⟩ := pair_room (grown_refl W1 none) B1.out
  by_cases h0 : ws.length = 0
  · have e0 : commitE ⟨1 + (k : Int), ws⟩ = 1 := by
      unfold commitE
      rw [if_pos (by show 1 ≤ 1 + (k : Int) ∧ 1 + (k : Int) ≤ 1048576; omega), if_pos h0]
    have hws : ws = [] := List.eq_nil_of_length_eq_zero h0
    subst hws
    have EN : Hid (Calls Try.prog 9 #[.agg #[.int .i64 (1 + (k : Int)), .slice ca 0 cc]] W1 fun e w'' => ∃ y, e = .returned (.tuple #[y, .int .i64 1]) ∧ SliceIs w'' y [] ∧ W1.grownBy w'' none) := by
      have h := HE.out W1 _ _ HC1.out ⟨by show -9223372036854775808 ≤ 1 + (k : Int) ∧ 1 + (k : Int) ≤ 9223372036854775807; omega, ⟨by simp, fun i hi => by simp at hi⟩⟩
      rw [e0, show encF ⟨1 + (k : Int), []⟩ = [] by rw [encF, e0, if_neg (by decide)]] at h
      exact h
    clear h0 e0 hk
    go_wp2_with fail
    refine EN.out.mono ?_
    rintro e w2 ⟨y, rfl, hy, hg2⟩
    obtain ⟨ya, yc, rfl⟩ := hy.shape
    go_wp2
    go_ret
    exact ⟨rfl, grown_trans hg01 hg2⟩
  · have hce : commitE ⟨1 + (k : Int), ws⟩ = 0 := (commit_iff _).2 ⟨by show 1 ≤ 1 + (k : Int) ∧ 1 + (k : Int) ≤ 1048576; omega, by show 1 ≤ ws.length ∧ ws.length ≤ 10; omega, HOK.out⟩
    obtain ⟨z1, z2⟩ := commit_size hce
    obtain ⟨q1, q2⟩ := commit_back hce
    have q3 := commit_more hce [0] (by simp) (by simp)
    have EN : Hid (∀ w' x, CommitIs w' x ⟨1 + (k : Int), ws⟩ → Calls Try.prog 9 #[x] w' fun e w'' => ∃ y, e = .returned (.tuple #[y, .int .i64 0]) ∧ SliceIs w'' y (commitB ⟨1 + (k : Int), ws⟩) ∧ w'.grownBy w'' none) := fun w' x h => by
      have h := HE.out w' x _ h (commit_fits hce)
      rw [hce, show encF ⟨1 + (k : Int), ws⟩ = commitB ⟨1 + (k : Int), ws⟩ by rw [encF, if_pos hce]] at h
      exact h
    have DE : Hid (∀ w' x, SliceIs w' x (commitB ⟨1 + (k : Int), ws⟩) → Calls Try.prog 10 #[x] w' fun e w'' => ∃ y, e = .returned (.tuple #[y, .int .i64 0]) ∧ CommitIs w'' y ⟨1 + (k : Int), ws⟩ ∧ w'.grownBy w'' none) := fun w' x h => by
      have h := HD.out w' x _ h (by omega)
      rw [q1, q2] at h
      exact h
    have DM : Hid (∀ w' x, SliceIs w' x (commitB ⟨1 + (k : Int), ws⟩ ++ [0]) → Calls Try.prog 10 #[x] w' fun e w'' => ∃ ya yn yc yt, e = .returned (.tuple #[.agg #[.int .i64 yt, .slice ya yn yc], .int .i64 4]) ∧ w'.grownBy w'' none) := fun w' x h => by
      have h := HD.out w' x _ h (by rw [List.length_append]; simp; omega)
      rw [q3] at h
      refine h.mono ?_
      rintro e w'' ⟨y, rfl, hy, hg⟩
      obtain ⟨ya, yc, rfl⟩ := hy.agg
      exact ⟨ya, _, yc, _, rfl, hg⟩
    have CK : Hid (∀ w' x, CommitIs w' x ⟨1 + (k : Int), ws⟩ → Calls Try.prog 12 #[x] w' fun e w'' => e = .returned (.int .i64 0) ∧ w'.grownBy w'' none) := fun w' x h => by
      have h := HC.out w' x _ h (commit_fits hce)
      rw [hce] at h
      exact h
    have SC : Hid (∀ w' x y, CommitIs w' x ⟨1 + (k : Int), ws⟩ → CommitIs w' y ⟨1 + (k : Int), ws⟩ → Calls Try.prog 11 #[x, y] w' fun e w'' => e = .returned (.bool true) ∧ w'.grownBy w'' none) := fun w' x y h1 h2 => ksameCommit_same w' x y _ h1 h2 (by show ws.length ≤ _; omega)
    obtain ⟨B, hB⟩ : ∃ B, B = commitB ⟨1 + (k : Int), ws⟩ := ⟨_, rfl⟩
    rw [← hB] at EN DE DM z2
    have i0 : ¬ (ws.length : Int) = 0 := by omega
    clear hce z1 q1 q2 q3 hB HD HE HC HOK hk
    go_wp2_with fail
    refine (EN.out _ _ HC1.out).mono ?_
    rintro e w2 ⟨y, rfl, hy, hg2⟩
    obtain ⟨ya, yc, rfl⟩ := hy.shape
    have HY : Hid (SliceIs w2 (.slice ya B.length yc) B) := hy
    clear hy c0 c1
    go_wp2_with fail
    refine (DE.out _ _ HY.out).mono ?_
    rintro e w3 ⟨d, rfl, hd, hg3⟩
    obtain ⟨da, dc, rfl⟩ := hd.agg
    obtain ⟨W3, HW3, hgA3, B3⟩ := alloc_named6 w3 (.cells #[.int .i64 (1 + (k : Int)), .slice da ws.length dc] 27)
    have HC3 : Hid (CommitIs W3 (.agg #[.int .i64 (1 + (k : Int)), .slice da ws.length dc]) ⟨1 + (k : Int), ws⟩) := hd.grown hgA3
    have hg23 := grown_trans hg3 hgA3
    have hg13 := grown_trans hg2 hg23
    have HY3 : Hid (SliceIs W3 (.slice ya B.length yc) B) := HY.out.grown hg23
    clear hd
    go_upto_region 7 with fail
    rw [← HW3.out]
    go_wp2_with (at_builtin; first
      | (refine wpList_append_bytes rfl _ _ rfl W3.heap.size (.slice none 0 0) [] rfl (own_nil _ _) ya B.length yc B rfl HY3.out (by simp; omega) (Nat.le_refl _) ?_; intro v4 w4 ho4 hg4; rw [List.nil_append] at ho4; have HO4 : Hid (Own W3.heap.size (w4.alloc (.cells #[.int .u8 0] 5)) v4 B) := ho4.alloc _; have hg34 : W3.grownBy (w4.alloc (.cells #[.int .u8 0] 5)) none := grown_alloc hg4 _; have HZ4 : Hid (SliceIs (w4.alloc (.cells #[.int .u8 0] 5)) (.slice (some ⟨w4.heap.size, 0, none⟩) 1 1) [0]) := one_slice w4 0 5; obtain ⟨a4, c4, rfl⟩ := ho4.shape; have hs4 := hg34.size; clear ho4 hg4)
      | (refine wpList_append_bytes rfl _ _ rfl W3.heap.size (.slice a4 B.length c4) B rfl HO4.out (some ⟨w4.heap.size, 0, none⟩) 1 1 [0] rfl HZ4.out (by omega) hs4 ?_; intro v5 w5 ho5 hg5; have HO5 : Hid (SliceIs w5 v5 (B ++ [0])) := ho5.slice; have hg35 : W3.grownBy w5 none := grown_own hg34 HO4.out hg5; obtain ⟨a5, c5, rfl⟩ := ho5.shape; rw [List.length_append, List.length_singleton] at HO5; clear ho5 hg5))
    refine (DM.out _ _ HO5.out).mono ?_
    rintro e w6 ⟨za, zn, zc, zt, rfl, hg6⟩
    obtain ⟨W6, HW6, hgA6, _⟩ := alloc_named6 w6 (.cells #[.int .i64 zt, .slice za zn zc] 27)
    have hg36 := grown_trans hg35 (grown_trans hg6 hgA6)
    have hg16 := grown_trans hg13 hg36
    go_upto_region 8 with fail
    rw [← HW6.out]
    obtain ⟨c0, c1, _, _⟩ := pair_room hg16 B1.out
    obtain ⟨d0, d1, _, _⟩ := pair_room hg36 B3.out
    go_wp2_with fail
    refine (SC.out _ _ _ (HC1.out.grown hg16) (HC3.out.grown hg36)).mono ?_
    rintro e w7 ⟨rfl, hg7⟩
    clear c0 c1
    obtain ⟨c0, c1, _, _⟩ := pair_room (grown_trans hg16 hg7) B1.out
    go_wp2_with fail
    refine (CK.out _ _ (HC1.out.grown (grown_trans hg16 hg7))).mono ?_
    rintro e w8 ⟨rfl, hg8⟩
    go_wp2
    go_ret
    exact ⟨rfl, grown_trans hg01 (grown_trans hg16 (grown_trans hg7 hg8))⟩
end Go.Proofs.Ytkheombfjgjedab
