/-
  The walk of the document's answer to P4.1: ProofOf.
-/
import Derived.Test.YtkkcjnhfbblgiabDoorRSidesB
import Derived.Test.YtkkcjnhfbblgiabDoorRPairsKey
import Derived.Test.YtkkcjnhfbblgiabDoorRRoot
import Derived.Test.YtkkcjnhfbblgiabDoorRCopy
import Derived.Test.YtkkcjnhfbblgiabDoorStepMem
import Derived.Test.YtkkcjnhfbblgiabDoorPart2
import Derived.BigQuiet
namespace Go.Proofs.YtkkcjnhfbblgiabDoor
open Go.RowKit
theorem OwnS.rowT {base B0 : Nat} {w : World} {v : Value} {l : List Stp} (h : OwnS base w v l) (hb : B0 ≤ base) : v.ownBlock = none ∨ ∃ g cur t fz, v.ownBlock = some g ∧ B0 ≤ g ∧ w.heap[g]? = some (.cells cur t fz) ∧ t ≠ 5 ∧ t ≠ 27 := by
  obtain ⟨us, _, h, _, _⟩ := h
  rcases h.2 with ⟨rfl, _⟩ | ⟨g, cap, cur, rfl, hg0, hg, _⟩
  · exact .inl rfl
  · exact .inr ⟨g, cur, _, _, rfl, Nat.le_trans hb hg0, hg, by decide, by decide⟩
theorem grown_some {w w' : World} (h : w.grownBy w' none) (r : Option Nat) : w.grownBy w' r := ⟨h.os, h.tape, h.output, h.size, fun i hi _ => h.block i hi (by simp)⟩
theorem grown_any {w w1 w2 : World} {r : Option Nat} (h : w.grownBy w1 r) (k : w1.grownBy w2 none) : w.grownBy w2 r := grown_trans h (grown_some k r)
theorem grown_rowS {base : Nat} {w W w1 : World} {r : Option Nat} {v : Value} {l : List Stp} (h : w.grownBy W r) (ho : OwnS base W v l) (hb : w.heap.size ≤ base) (hg : W.grownBy w1 v.ownBlock) : w.grownBy w1 r :=
  ⟨hg.os.trans h.os, hg.tape.trans h.tape, hg.output.trans h.output, Nat.le_trans h.size hg.size, fun i hi hn => (hg.block i (Nat.lt_of_lt_of_le hi h.size) (fun e => by have := (ho.lt i e.symm).1; omega)).trans (h.block i hi hn)⟩
theorem OwnE.partS {w : World} {v : Value} {bs : List UInt8} (h : OwnE w v bs) : PartS w v bs := h.elim fun _ h => h.partS
theorem quad_pair {w : World} {b : Nat} {x y z u : Value} {t : TypeId} (h : w.heap[b]? = some (.cells #[x, y, z, u] t)) (z' u' : Value) : ((w.setCell ⟨b, 2, none⟩ z').setCell ⟨b, 3, none⟩ u').heap[b]? = some (.cells #[x, y, z', u'] t) := by
  have h0 : (w.setCell ⟨b, 2, none⟩ z').heap[b]? = some (.cells #[x, y, z', u] t) := by
    simp only [World.setCell, Array.getElem?_modify, if_true, h, Option.map_some]; first | rfl | simp
  simp only [World.setCell, Array.getElem?_modify, if_true] at h0 ⊢
  rw [h0]; simp
theorem bits_block {w : World} {g pb : Nat} {x y z u : Value} {t : TypeId} {k : List UInt8} (hb : w.heap[pb]? = some (.cells #[x, y, z, u] t)) (hy : ∀ b, y ≠ .bool b) (h : ∀ i, i < 145 → w.cell? ⟨g, i, none⟩ = some (.bool (kbit k i))) : g ≠ pb := by
  rintro rfl
  have := h 1 (by omega)
  simp [World.cell?, hb] at this
  exact hy _ this
def lenR : Value → Nat
  | .slice _ n _ => n
  | _ => 0
set_option maxRecDepth 100000 in
set_option maxHeartbeats 4000000 in
theorem proofOf_any (w : World) (v u : Value) (l : PL) (k : List UInt8) (hv : PairsIs w v l) (hu : SliceIs w u k) :
    Calls Tryd.prog 30 #[v, u] w fun e w' => ∃ x, e = .returned (.tuple #[x, .int .i64 (getE l k)]) ∧ ProofIs w' x (proveF l k) ∧ w.grownBy w' none := by
  obtain ⟨ua, uc, rfl⟩ := hu.shape
  obtain ⟨va, vc, rfl⟩ := hv.shape
  obtain ⟨W1, hW1⟩ : ∃ W1 : World, W1 = w.alloc (.cells #[.bool false, .slice none 0 0, .slice none 0 0, .slice none 0 0] 29) := ⟨_, rfl⟩
  have hgW : w.grownBy W1 none := by rw [hW1]; exact World.grownBy_alloc _ _ _
  have HW1 : Hid (W1 = w.alloc (.cells #[.bool false, .slice none 0 0, .slice none 0 0, .slice none 0 0] 29)) := hW1
  have B1 : Hid (W1.heap[w.heap.size]? = some (.cells #[.bool false, .slice none 0 0, .slice none 0 0, .slice none 0 0] 29)) := by
    show _ = _
    rw [hW1]; exact heap_alloc_new w _
  have hsW : w.heap.size < W1.heap.size := by rw [hW1, World.size_alloc]; omega
  have PK : Hid (Calls Tryd.prog 57 #[.slice va l.length vc, .slice ua k.length uc] W1 fun e w' => e = .returned (.int .i64 (getE l k)) ∧ W1.grownBy w' none) := pairsAndKey_any W1 _ l ua k.length uc (hv.grown hgW)
  by_cases hE : getE l k = 0
  · have hT := getE_tree hE
    have hk := getE_key hE
    rw [proveF, if_pos hE, hE, proveL]
    rw [hE] at PK
    by_cases h0 : l.length = 0
    · rw [if_pos h0]
      rw [h0] at PK ⊢
      clear hT hk hE hv hu hW1
      go_enter Tryd.func30, Tryd.ntmps30
      go_wp2_with fail
      rw [← HW1.out]
      refine PK.out.mono ?_
      rintro e w1 ⟨rfl, hg1⟩
      obtain ⟨⟨y0, y1, y2, y3⟩, f0, f1, f2, f3, BB⟩ := quad_room hg1 B1.out
      obtain ⟨q, q0, q1, q2, q3⟩ := quad_set BB (.bool true) (.slice none 0 0) (.slice none 0 0) (.slice none 0 0)
      obtain ⟨⟨r0, r1, r2, r3⟩, _⟩ := quad_room (grown_refl _ none) q
      go_wp2
      refine bodyPost_ret (v := .tuple #[.agg #[.bool true, .slice none 0 0, .slice none 0 0, .slice none 0 0], .int .i64 0]) (by simp [results, Tryd.results30, go_sem, r0, r1, r2, r3]) rfl ?_
      exact ⟨_, rfl, ⟨_, _, _, rfl, stepsIs_nil _, sliceIs_nil _, sliceIs_nil _⟩, grown_quad (grown_trans hgW hg1) _ (Nat.le_refl _) _ _ _ _⟩
    · rw [if_neg h0]
      have hroom := hT.room
      have HMORE : Hid (∀ m : PL, Tree m → 2 ≤ m.length → (stepsL m k = stepOf m k :: stepsL (mine m k) k ∧ endL m k = endL (mine m k) k) ∧ (mine m k).length < m.length ∧ 0 < (mine m k).length ∧ Tree (mine m k)) := fun m hTm h2 => ⟨steps_more k hTm h2, mine_less hTm h2 k, mine_some hTm h2 k, side_tree hTm _ _⟩
      have HFEW : Hid (∀ m : PL, m.length < 2 → stepsL m k = [] ∧ endL m k = m.getD 0 ([], [])) := fun m h => steps_few m k h
      have HPAIR : Hid (∀ m : PL, Tree m → ∀ i, i < m.length → (m.getD i ([], [])).1.length ≤ 16 ∧ (m.getD i ([], [])).2.length ≤ 32) := by
        intro m hTm i hi
        have := hTm.pairs m[i] (List.getElem_mem hi)
        rw [show m[i] = m.getD i ([], []) by simp [hi]] at this
        exact ⟨this.1.2, this.2⟩
      have AB : Hid (∀ w', W1.grownBy w' none → Calls Tryd.prog 58 #[.slice ua k.length uc] w' fun e w'' => ∃ g cap, e = .returned (.slice (some ⟨g, 0, none⟩) 145 cap) ∧ (∀ i, i < 145 → w''.cell? ⟨g, i, none⟩ = some (.bool (kbit k i))) ∧ w'.grownBy w'' none) := fun w' hg => by
        refine (allBits_any w' _ k ((hu.grown hgW).grown hg) hk.2).mono ?_
        rintro e w'' ⟨v', rfl, ho, hg'⟩
        obtain ⟨g, bcap, rfl, hcell⟩ := ho.block (by intro e; have := bitsN_len k 145; rw [e] at this; simp at this)
        rw [bitsN_len] at hcell ⊢
        exact ⟨g, bcap, rfl, fun i hi => by have := hcell i hi; rw [bitsN_get _ _ _ hi] at this; exact this, hg'⟩
      have HV : Hid (∀ w', w.grownBy w' none → PairsB w.heap.size w' (.slice va l.length vc) l) := fun w' hg => hv.pairsB hg w.heap.size (Nat.le_refl _)
      have HT : Hid (Tree l) := hT
      have t0 : ((l.length : Int) == 0) = false := by rw [beq_eq_false_iff_ne]; omega
      have SB : Hid (∀ (w' : World) (x : Value) (m : PL), w.heap.size ≤ w'.heap.size → PairsB w.heap.size w' x m → Tree m → 2 ≤ m.length → Calls Tryd.prog 59 #[x] w' fun e w'' => ∃ xa xc ya yc, e = .returned (.tuple #[.int .i64 (forkBit m), .slice xa (sideL m (forkBit m).toNat false).length xc, .slice ya (sideL m (forkBit m).toNat true).length yc]) ∧ OwnP w.heap.size w'' (.slice xa (sideL m (forkBit m).toNat false).length xc) (sideL m (forkBit m).toNat false) ∧ OwnP w.heap.size w'' (.slice ya (sideL m (forkBit m).toNat true).length yc) (sideL m (forkBit m).toNat true) ∧ w'.grownBy w'' none) := by
        intro w' x m hs hx hTm h2
        refine (sides_base w.heap.size w' x m hs hx hTm h2).mono ?_
        rintro e w'' ⟨x1, y1, rfl, hx1, hy1, hg'⟩
        obtain ⟨xa, xc, rfl⟩ := hx1.shape
        obtain ⟨ya, yc, rfl⟩ := hy1.shape
        exact ⟨xa, xc, ya, yc, rfl, hx1, hy1, hg'⟩
      have RO : Hid (∀ (w' : World) (x : Value) (m : PL), PairsIs w' x m → Tree m → Calls Tryd.prog 56 #[x] w' fun e w'' => ∃ za zc, e = .returned (.slice za (rootL m).length zc) ∧ PartS w'' (.slice za (rootL m).length zc) (rootL m) ∧ w'.grownBy w'' none) := by
        intro w' x m hx hTm
        refine (rootOf_own m.length w' x m (Nat.le_refl _) hx hTm).mono ?_
        rintro e w'' ⟨z, rfl, hz, hg'⟩
        obtain ⟨za, zc, rfl⟩ := hz.slice.shape
        exact ⟨za, zc, rfl, hz.partS, hg'⟩
      clear hT hk hE hu hW1 hv
      go_enter Tryd.func30, Tryd.ntmps30
      go_wp2_with fail
      rw [← HW1.out]
      refine PK.out.mono ?_
      rintro e w1 ⟨rfl, hg1⟩
      obtain ⟨W2, hW2⟩ : ∃ W2 : World, W2 = w1.alloc (.cells #[.bool false, .slice none 0 0, .slice none 0 0, .slice none 0 0] 29) := ⟨_, rfl⟩
      have HW2 : Hid (W2 = w1.alloc (.cells #[.bool false, .slice none 0 0, .slice none 0 0, .slice none 0 0] 29)) := hW2
      have hg2 : w1.grownBy W2 none := by rw [hW2]; exact World.grownBy_alloc _ _ _
      have hb2 : W2.heap[w1.heap.size]? = some (.cells #[.bool false, .slice none 0 0, .slice none 0 0, .slice none 0 0] 29) := by rw [hW2]; exact heap_alloc_new w1 _
      have hg12 := grown_trans hg1 hg2
      have hs1 := hg1.size
      clear hW2
      go_wp2_with fail
      rw [← HW2.out]
      refine (AB.out _ hg12).mono ?_
      rintro e w3 ⟨g, gc, rfl, hbits, hg3⟩
      obtain ⟨pb, hpbe⟩ : ∃ pb : Nat, w1.heap.size = pb := ⟨_, rfl⟩
      rw [hpbe] at hb2 ⊢
      have hb3 := pair_old hg3 hb2
      have hpb3 : pb < w3.heap.size := (Array.getElem?_eq_some_iff.1 hb3).1
      have hgpb : g ≠ pb := bits_block hb3 (fun b => by simp) hbits
      have hg13 := grown_trans hg12 hg3
      have hgw3 := grown_trans hgW hg13
      have hwpb : w.heap.size < pb := by omega
      have HB3 : Hid (w3.heap[pb]? = some (.cells #[.bool false, .slice none 0 0, .slice none 0 0, .slice none 0 0] 29)) := hb3
      have HBIT : Hid (∀ i, i < 145 → w3.cell? ⟨g, i, none⟩ = some (.bool (kbit k i))) := hbits
      have B3 : Hid (w3.heap[w.heap.size]? = some (.cells #[.bool false, .slice none 0 0, .slice none 0 0, .slice none 0 0] 29)) := pair_old hg13 B1.out
      have hwne : w.heap.size ≠ pb := by omega
      have hs3 := hgw3.size
      clear hbits hb2 hb3 AB PK B1 hg1 hg2 hg12 hpbe hs1 hg3 HW2
      go_wp2_with fail
      go_loopw [0] (fun s0 wr => ∃ (L : PL) (T : List Stp) (la : Option Addr) (lc : Nat) (ta : Option Addr) (tc : Nat), s0 = .slice la L.length lc ∧ Tree L ∧ 0 < L.length ∧ T.length + L.length ≤ 60 ∧ T ++ stepsL L k = stepsL l k ∧ endL L k = endL l k ∧ PairsB w.heap.size wr (.slice la L.length lc) L ∧ wr.heap[pb]? = some (.cells #[.bool false, .slice ta T.length tc, .slice none 0 0, .slice none 0 0] 29) ∧ OwnS w3.heap.size wr (.slice ta T.length tc) T ∧ w3.grownBy wr (some pb)) (fun s0 _ => lenR s0)
      case atStart => exact ⟨l, [], va, vc, none, 0, rfl, HT.out, by omega, by simpa using hroom, rfl, rfl, HV.out _ hgw3, HB3.out, ownS_nil _ _, grown_refl _ _⟩
      case round =>
        clear HV HT HB3
        obtain ⟨m, ss, la, lc, ta, tc, rfl, hTm, hm0, hlen, hst, hend, hpl, hpb, hown, hgr⟩ := hrel
        have hszr := hgr.size
        have BITS : Hid (∀ i, i < 145 → wr.cell? ⟨g, i, none⟩ = some (.bool (kbit k i))) := fun i hi => hgr.cell (HBIT.out i hi) (by simpa using hgpb)
        by_cases h2 : 2 ≤ m.length
        · obtain ⟨⟨q1, q2⟩, q3, q4, q5⟩ := HMORE.out m hTm h2
          have ST : Hid ((ss ++ [stepOf m k]) ++ stepsL (mine m k) k = stepsL l k) := by
            show _ = _
            rw [← hst, q1]; simp
          have EN : Hid (endL (mine m k) k = endL l k) := by
            show _ = _
            rw [← hend, q2]
          have hrange := forkBit_range hTm h2
          obtain ⟨B, hB⟩ : ∃ B : Nat, forkBit m = (B : Int) := ⟨(forkBit m).toNat, by omega⟩
          have hBt : (forkBit m).toNat = B := by rw [hB]; rfl
          have hB144 : B < 145 := by omega
          have SM := SB.out wr _ m (by omega) hpl hTm h2
          have TL : ∀ b, Hid (Tree (sideL m B b)) := fun b => side_tree hTm B b
          rw [hB, show ((B : Int)).toNat = B from rfl] at SM
          have HS : Hid (Calls Tryd.prog 59 #[.slice la m.length lc] wr fun e w'' => ∃ xa xc ya yc, e = .returned (.tuple #[.int .i64 (B : Int), .slice xa (sideL m B false).length xc, .slice ya (sideL m B true).length yc]) ∧ OwnP w.heap.size w'' (.slice xa (sideL m B false).length xc) (sideL m B false) ∧ OwnP w.heap.size w'' (.slice ya (sideL m B true).length yc) (sideL m B true) ∧ wr.grownBy w'' none) := SM
          have HO : Hid (OwnS w3.heap.size wr (.slice ta ss.length tc) ss) := hown
          have HPB : Hid (wr.heap[pb]? = some (.cells #[.bool false, .slice ta ss.length tc, .slice none 0 0, .slice none 0 0] 29)) := hpb
          have t2 : (1 : Int) < (m.length : Int) := by omega
          have i2 : (B : Int) < 145 := by omega
          have i3 : (0 : Int) ≤ (B : Int) := by omega
          have hbitB := BITS.out B hB144
          have HSTEP : stepOf m k = ⟨(B : Int), kbit k B, rootL (sideL m B (!kbit k B))⟩ := by
            unfold stepOf theirs
            rw [hBt, hB]
          have HMINE : mine m k = sideL m B (kbit k B) := by unfold mine; rw [hBt]
          rw [HSTEP, HMINE] at ST
          rw [HMINE] at EN q3 q4
          clear SM q1 q2 q5 hst hend hown hpb hpl hTm SB HMORE HFEW HPAIR HSTEP HMINE hB hBt hrange hm0 BITS
          cases hb : kbit k B with
          | true =>
            rw [hb] at hbitB ST EN q3 q4
            have TO := TL false
            have TM := TL true
            clear TL
            go_wp2_with fail
            refine HS.out.mono ?_
            rintro e w4 ⟨xa, xc, ya, yc, rfl, hx, hy, hg4⟩
            have HY : Hid (PairsB w.heap.size w4 (.slice ya (sideL m B true).length yc) (sideL m B true)) := hy.pairsB
            have HXL : Hid (PairsIs w4 (.slice xa (sideL m B false).length xc) (sideL m B false)) := hx.list
            obtain ⟨W5, hW5⟩ : ∃ W5 : World, W5 = w4.alloc (.cells #[.int .i64 (B : Int), .bool true, .slice none 0 0] 71) := ⟨_, rfl⟩
            have HW5 : Hid (W5 = w4.alloc (.cells #[.int .i64 (B : Int), .bool true, .slice none 0 0] 71)) := hW5
            have hg5 : w4.grownBy W5 none := by rw [hW5]; exact World.grownBy_alloc _ _ _
            have HQ5 : Hid (W5.heap[w4.heap.size]? = some (.cells #[.int .i64 (B : Int), .bool true, .slice none 0 0] 71)) := by
              show _ = _
              rw [hW5]; exact heap_alloc_new w4 _
            have hbit4 := hg4.cell hbitB (by simp)
            have hbit5 := hg5.cell hbit4 (by simp)
            have RM : Hid (Calls Tryd.prog 56 #[.slice xa (sideL m B false).length xc] W5 fun e w'' => ∃ za zc, e = .returned (.slice za (rootL (sideL m B false)).length zc) ∧ PartS w'' (.slice za (rootL (sideL m B false)).length zc) (rootL (sideL m B false)) ∧ W5.grownBy w'' none) := RO.out W5 _ _ (HXL.out.grown hg5) TO.out
            have ST2 : Hid ((ss ++ [⟨(B : Int), true, rootL (sideL m B false)⟩]) ++ stepsL (sideL m B true) k = stepsL l k) := ST.out
            generalize rootL (sideL m B false) = R at *
            generalize hDM : sideL m B true = M at *
            generalize hDN : sideL m B false = ML at *
            clear hDM hDN hx hy RO hW5 HXL ST TO
            have hsz4 := hg4.size
            have hsz5 := hg5.size
            go_wp2_with (rw [← HW5.out])
            refine RM.out.mono ?_
            rintro e w6 ⟨za, zc, rfl, hz, hg6⟩
            have hgr6 : wr.grownBy w6 none := grown_trans (grown_trans hg4 hg5) hg6
            have hq6 := pair_old hg6 HQ5.out
            obtain ⟨⟨z0, z1, z2⟩, g0, g1, g2⟩ := three_cells hq6
            have hq7 := three_last hq6 (.slice za R.length zc)
            obtain ⟨⟨j0, j1, j2⟩, _⟩ := three_cells hq7
            have hpb6 := pair_old hgr6 HPB.out
            have hsz6 := hgr6.size
            have hpbr : pb < wr.heap.size := by omega
            have hne1 : pb ≠ w4.heap.size := by omega
            have hpb7 := set_other_block (i := 2) (u := .slice za R.length zc) hpb6 hne1
            obtain ⟨⟨k0, k1, k2, k3⟩, _⟩ := quad_room (grown_refl _ none) hpb7
            have hNB : NotB w6 w4.heap.size := notB_of (xs := [.bool true, .slice none 0 0]) hq6 stepT (fun q => by simp)
            have HO7 : Hid (OwnS w3.heap.size (w6.setCell ⟨w4.heap.size, 2, none⟩ (.slice za R.length zc)) (.slice ta ss.length tc) ss) := (HO.out.grownNone hgr6).setNe hNB (HO.out.notRow (.inr hsz4)) _ _
            have HP7 : Hid (PartS (w6.setCell ⟨w4.heap.size, 2, none⟩ (.slice za R.length zc)) (.slice za R.length zc) R) := hz.set hNB _ _
            have hgs : w6.grownBy (w6.setCell ⟨w4.heap.size, 2, none⟩ (.slice za R.length zc)) (some w4.heap.size) := grown_set (grown_refl _ _) _ _
            have HY7 : Hid (PairsB w.heap.size (w6.setCell ⟨w4.heap.size, 2, none⟩ (.slice za R.length zc)) (.slice ya M.length yc) M) := (HY.out.grown (grown_trans hg5 hg6)).kept hgs (.inr ⟨w4.heap.size, _, _, _, rfl, by omega, hq6, by decide, by decide⟩)
            have hgr7 : wr.grownBy (w6.setCell ⟨w4.heap.size, 2, none⟩ (.slice za R.length zc)) none := grown_new hgr6 hsz4 hgs
            have HPB7 : Hid ((w6.setCell ⟨w4.heap.size, 2, none⟩ (.slice za R.length zc)).heap[pb]? = some (.cells #[.bool false, .slice ta ss.length tc, .slice none 0 0, .slice none 0 0] 29)) := hpb7
            have HN : Hid (((w6.setCell ⟨w4.heap.size, 2, none⟩ (.slice za R.length zc)).alloc (.cells #[.int .i64 (B : Int), .bool true, .slice za R.length zc] 71)).heap[w6.heap.size]? = some (.cells #[.int .i64 (B : Int), .bool true, .slice za R.length zc] 71)) := by
              have := heap_alloc_new (w6.setCell ⟨w4.heap.size, 2, none⟩ (.slice za R.length zc)) (.cells #[.int .i64 (B : Int), .bool true, .slice za R.length zc] 71)
              rw [show (w6.setCell ⟨w4.heap.size, 2, none⟩ (.slice za R.length zc)).heap.size = w6.heap.size by simp [World.setCell]] at this
              exact this
            have hga8 := World.grownBy_alloc (w6.setCell ⟨w4.heap.size, 2, none⟩ (.slice za R.length zc)) (.cells #[.int .i64 (B : Int), .bool true, .slice za R.length zc] 71) none
            have HPB8 : Hid (((w6.setCell ⟨w4.heap.size, 2, none⟩ (.slice za R.length zc)).alloc (.cells #[.int .i64 (B : Int), .bool true, .slice za R.length zc] 71)).heap[pb]? = some (.cells #[.bool false, .slice ta ss.length tc, .slice none 0 0, .slice none 0 0] 29)) := pair_old hga8 HPB7.out
            have HO8 : Hid (OwnS w3.heap.size ((w6.setCell ⟨w4.heap.size, 2, none⟩ (.slice za R.length zc)).alloc (.cells #[.int .i64 (B : Int), .bool true, .slice za R.length zc] 71)) (.slice ta ss.length tc) ss) := HO7.out.alloc _
            have HP8 : Hid (PartS ((w6.setCell ⟨w4.heap.size, 2, none⟩ (.slice za R.length zc)).alloc (.cells #[.int .i64 (B : Int), .bool true, .slice za R.length zc] 71)) (.slice za R.length zc) R) := HP7.out.grown hga8
            have HY8 : Hid (PairsB w.heap.size ((w6.setCell ⟨w4.heap.size, 2, none⟩ (.slice za R.length zc)).alloc (.cells #[.int .i64 (B : Int), .bool true, .slice za R.length zc] 71)) (.slice ya M.length yc) M) := HY7.out.grown hga8
            have hgr8 : wr.grownBy ((w6.setCell ⟨w4.heap.size, 2, none⟩ (.slice za R.length zc)).alloc (.cells #[.int .i64 (B : Int), .bool true, .slice za R.length zc] 71)) none := grown_alloc hgr7 _
            have HS8 : Hid (w3.heap.size ≤ ((w6.setCell ⟨w4.heap.size, 2, none⟩ (.slice za R.length zc)).alloc (.cells #[.int .i64 (B : Int), .bool true, .slice za R.length zc] 71)).heap.size) := Nat.le_trans hszr hgr8.size
            have hl8 : (ss.length + 1) * 40 ≤ 140737488355328 := by omega
            clear hq6 hq7 hpb6 hpb7 hNB HO HPB RM hz HY HS hbitB hbit4 hbit5 hgs HQ5 HPB7 HO7 HP7 HY7
            go_wp2_with (at_builtin; refine wpList_append_step rfl (.tmp 54) (.tmp 56) rfl w3.heap.size (.slice ta ss.length tc) ss rfl HO8.out (.slice za R.length zc) ⟨(B : Int), true, R⟩ HP8.out w6.heap.size (step_news HN.out) rfl hl8 HS8.out ?_; intro v9 w9 ho9 hg9; obtain ⟨va9, vc9, rfl⟩ := ho9.shape; rw [show (ss ++ [(⟨(B : Int), true, R⟩ : Stp)]).length = ss.length + 1 by simp] at ho9; have hpb9 := row_block hg9 HPB8.out (HO8.out.notRow (.inl hpb3)); obtain ⟨⟨l0, l1, l2, l3⟩, n0, n1, n2, n3, _⟩ := quad_room (grown_refl w9 none) hpb9)
            have hNP : NotB w9 pb := notB_of (xs := [.slice ta ss.length tc, .slice none 0 0, .slice none 0 0]) hpb9 proofT (fun q => by simp)
            have HY9 := HY8.out.kept hg9 (HO8.out.rowT (B0 := w.heap.size) (by omega))
            have hg93 : w3.grownBy w9 (some pb) := grown_rowS (grown_any hgr hgr8) HO8.out (Nat.le_refl _) hg9
            go_roundw
            case rel =>
              exact ⟨M, ss ++ [⟨(B : Int), true, R⟩], ya, yc, va9, vc9, rfl, TM.out, q4, by simp; omega, ST2.out, EN.out, HY9.kept (grown_set (grown_refl w9 (some pb)) 1 _) (.inr ⟨pb, _, _, _, rfl, by omega, hpb9, by decide, by decide⟩), by rw [show (ss ++ [(⟨(B : Int), true, R⟩ : Stp)]).length = ss.length + 1 by simp]; exact quad_second hpb9 _, by rw [show (ss ++ [(⟨(B : Int), true, R⟩ : Stp)]).length = ss.length + 1 by simp]; exact ho9.set hNP hpb3 _ _, grown_set hg93 _ _⟩
            case measure => simp [lenR]; omega
          | false =>
            rw [hb] at hbitB ST EN q3 q4
            have TO := TL true
            have TM := TL false
            clear TL
            go_wp2_with fail
            refine HS.out.mono ?_
            rintro e w4 ⟨xa, xc, ya, yc, rfl, hx, hy, hg4⟩
            have HY : Hid (PairsB w.heap.size w4 (.slice xa (sideL m B false).length xc) (sideL m B false)) := hx.pairsB
            have HXL : Hid (PairsIs w4 (.slice ya (sideL m B true).length yc) (sideL m B true)) := hy.list
            obtain ⟨W5, hW5⟩ : ∃ W5 : World, W5 = w4.alloc (.cells #[.int .i64 (B : Int), .bool false, .slice none 0 0] 71) := ⟨_, rfl⟩
            have HW5 : Hid (W5 = w4.alloc (.cells #[.int .i64 (B : Int), .bool false, .slice none 0 0] 71)) := hW5
            have hg5 : w4.grownBy W5 none := by rw [hW5]; exact World.grownBy_alloc _ _ _
            have HQ5 : Hid (W5.heap[w4.heap.size]? = some (.cells #[.int .i64 (B : Int), .bool false, .slice none 0 0] 71)) := by
              show _ = _
              rw [hW5]; exact heap_alloc_new w4 _
            have hbit4 := hg4.cell hbitB (by simp)
            have hbit5 := hg5.cell hbit4 (by simp)
            have RM : Hid (Calls Tryd.prog 56 #[.slice ya (sideL m B true).length yc] W5 fun e w'' => ∃ za zc, e = .returned (.slice za (rootL (sideL m B true)).length zc) ∧ PartS w'' (.slice za (rootL (sideL m B true)).length zc) (rootL (sideL m B true)) ∧ W5.grownBy w'' none) := RO.out W5 _ _ (HXL.out.grown hg5) TO.out
            have ST2 : Hid ((ss ++ [⟨(B : Int), false, rootL (sideL m B true)⟩]) ++ stepsL (sideL m B false) k = stepsL l k) := ST.out
            generalize rootL (sideL m B true) = R at *
            generalize hDM : sideL m B false = M at *
            generalize hDN : sideL m B true = ML at *
            clear hDM hDN hx hy RO hW5 HXL ST TO
            have hsz4 := hg4.size
            have hsz5 := hg5.size
            go_wp2_with (rw [← HW5.out])
            refine RM.out.mono ?_
            rintro e w6 ⟨za, zc, rfl, hz, hg6⟩
            have hgr6 : wr.grownBy w6 none := grown_trans (grown_trans hg4 hg5) hg6
            have hq6 := pair_old hg6 HQ5.out
            obtain ⟨⟨z0, z1, z2⟩, g0, g1, g2⟩ := three_cells hq6
            have hq7 := three_last hq6 (.slice za R.length zc)
            obtain ⟨⟨j0, j1, j2⟩, _⟩ := three_cells hq7
            have hpb6 := pair_old hgr6 HPB.out
            have hsz6 := hgr6.size
            have hpbr : pb < wr.heap.size := by omega
            have hne1 : pb ≠ w4.heap.size := by omega
            have hpb7 := set_other_block (i := 2) (u := .slice za R.length zc) hpb6 hne1
            obtain ⟨⟨k0, k1, k2, k3⟩, _⟩ := quad_room (grown_refl _ none) hpb7
            have hNB : NotB w6 w4.heap.size := notB_of (xs := [.bool false, .slice none 0 0]) hq6 stepT (fun q => by simp)
            have HO7 : Hid (OwnS w3.heap.size (w6.setCell ⟨w4.heap.size, 2, none⟩ (.slice za R.length zc)) (.slice ta ss.length tc) ss) := (HO.out.grownNone hgr6).setNe hNB (HO.out.notRow (.inr hsz4)) _ _
            have HP7 : Hid (PartS (w6.setCell ⟨w4.heap.size, 2, none⟩ (.slice za R.length zc)) (.slice za R.length zc) R) := hz.set hNB _ _
            have hgs : w6.grownBy (w6.setCell ⟨w4.heap.size, 2, none⟩ (.slice za R.length zc)) (some w4.heap.size) := grown_set (grown_refl _ _) _ _
            have HY7 : Hid (PairsB w.heap.size (w6.setCell ⟨w4.heap.size, 2, none⟩ (.slice za R.length zc)) (.slice xa M.length xc) M) := (HY.out.grown (grown_trans hg5 hg6)).kept hgs (.inr ⟨w4.heap.size, _, _, _, rfl, by omega, hq6, by decide, by decide⟩)
            have hgr7 : wr.grownBy (w6.setCell ⟨w4.heap.size, 2, none⟩ (.slice za R.length zc)) none := grown_new hgr6 hsz4 hgs
            have HPB7 : Hid ((w6.setCell ⟨w4.heap.size, 2, none⟩ (.slice za R.length zc)).heap[pb]? = some (.cells #[.bool false, .slice ta ss.length tc, .slice none 0 0, .slice none 0 0] 29)) := hpb7
            have HN : Hid (((w6.setCell ⟨w4.heap.size, 2, none⟩ (.slice za R.length zc)).alloc (.cells #[.int .i64 (B : Int), .bool false, .slice za R.length zc] 71)).heap[w6.heap.size]? = some (.cells #[.int .i64 (B : Int), .bool false, .slice za R.length zc] 71)) := by
              have := heap_alloc_new (w6.setCell ⟨w4.heap.size, 2, none⟩ (.slice za R.length zc)) (.cells #[.int .i64 (B : Int), .bool false, .slice za R.length zc] 71)
              rw [show (w6.setCell ⟨w4.heap.size, 2, none⟩ (.slice za R.length zc)).heap.size = w6.heap.size by simp [World.setCell]] at this
              exact this
            have hga8 := World.grownBy_alloc (w6.setCell ⟨w4.heap.size, 2, none⟩ (.slice za R.length zc)) (.cells #[.int .i64 (B : Int), .bool false, .slice za R.length zc] 71) none
            have HPB8 : Hid (((w6.setCell ⟨w4.heap.size, 2, none⟩ (.slice za R.length zc)).alloc (.cells #[.int .i64 (B : Int), .bool false, .slice za R.length zc] 71)).heap[pb]? = some (.cells #[.bool false, .slice ta ss.length tc, .slice none 0 0, .slice none 0 0] 29)) := pair_old hga8 HPB7.out
            have HO8 : Hid (OwnS w3.heap.size ((w6.setCell ⟨w4.heap.size, 2, none⟩ (.slice za R.length zc)).alloc (.cells #[.int .i64 (B : Int), .bool false, .slice za R.length zc] 71)) (.slice ta ss.length tc) ss) := HO7.out.alloc _
            have HP8 : Hid (PartS ((w6.setCell ⟨w4.heap.size, 2, none⟩ (.slice za R.length zc)).alloc (.cells #[.int .i64 (B : Int), .bool false, .slice za R.length zc] 71)) (.slice za R.length zc) R) := HP7.out.grown hga8
            have HY8 : Hid (PairsB w.heap.size ((w6.setCell ⟨w4.heap.size, 2, none⟩ (.slice za R.length zc)).alloc (.cells #[.int .i64 (B : Int), .bool false, .slice za R.length zc] 71)) (.slice xa M.length xc) M) := HY7.out.grown hga8
            have hgr8 : wr.grownBy ((w6.setCell ⟨w4.heap.size, 2, none⟩ (.slice za R.length zc)).alloc (.cells #[.int .i64 (B : Int), .bool false, .slice za R.length zc] 71)) none := grown_alloc hgr7 _
            have HS8 : Hid (w3.heap.size ≤ ((w6.setCell ⟨w4.heap.size, 2, none⟩ (.slice za R.length zc)).alloc (.cells #[.int .i64 (B : Int), .bool false, .slice za R.length zc] 71)).heap.size) := Nat.le_trans hszr hgr8.size
            have hl8 : (ss.length + 1) * 40 ≤ 140737488355328 := by omega
            clear hq6 hq7 hpb6 hpb7 hNB HO HPB RM hz HY HS hbitB hbit4 hbit5 hgs HQ5 HPB7 HO7 HP7 HY7
            go_wp2_with (at_builtin; refine wpList_append_step rfl (.tmp 54) (.tmp 56) rfl w3.heap.size (.slice ta ss.length tc) ss rfl HO8.out (.slice za R.length zc) ⟨(B : Int), false, R⟩ HP8.out w6.heap.size (step_news HN.out) rfl hl8 HS8.out ?_; intro v9 w9 ho9 hg9; obtain ⟨va9, vc9, rfl⟩ := ho9.shape; rw [show (ss ++ [(⟨(B : Int), false, R⟩ : Stp)]).length = ss.length + 1 by simp] at ho9; have hpb9 := row_block hg9 HPB8.out (HO8.out.notRow (.inl hpb3)); obtain ⟨⟨l0, l1, l2, l3⟩, n0, n1, n2, n3, _⟩ := quad_room (grown_refl w9 none) hpb9)
            have hNP : NotB w9 pb := notB_of (xs := [.slice ta ss.length tc, .slice none 0 0, .slice none 0 0]) hpb9 proofT (fun q => by simp)
            have HY9 := HY8.out.kept hg9 (HO8.out.rowT (B0 := w.heap.size) (by omega))
            have hg93 : w3.grownBy w9 (some pb) := grown_rowS (grown_any hgr hgr8) HO8.out (Nat.le_refl _) hg9
            go_roundw
            case rel =>
              exact ⟨M, ss ++ [⟨(B : Int), false, R⟩], xa, xc, va9, vc9, rfl, TM.out, q4, by simp; omega, ST2.out, EN.out, HY9.kept (grown_set (grown_refl w9 (some pb)) 1 _) (.inr ⟨pb, _, _, _, rfl, by omega, hpb9, by decide, by decide⟩), by rw [show (ss ++ [(⟨(B : Int), false, R⟩ : Stp)]).length = ss.length + 1 by simp]; exact quad_second hpb9 _, by rw [show (ss ++ [(⟨(B : Int), false, R⟩ : Stp)]).length = ss.length + 1 by simp]; exact ho9.set hNP hpb3 _ _, grown_set hg93 _ _⟩
            case measure => simp [lenR]; omega
        · have hm1 : m.length = 1 := by omega
          obtain ⟨q1, q2⟩ := HFEW.out m (by omega)
          rw [q1, List.append_nil] at hst
          have ES : Hid (stepsL l k = ss) := hst.symm
          have EE : Hid (endL l k = m.getD 0 ([], [])) := by
            show _ = _
            rw [← hend, q2]
          obtain ⟨b, o, rfl, hat⟩ := hpl.at 0 (by omega)
          obtain ⟨vk, vv, c1, c2, s1, s2⟩ := hat
          rw [Nat.zero_mul, Nat.add_zero] at c1 c2
          obtain ⟨b1, b2⟩ := HPAIR.out m hTm 0 (by omega)
          generalize m.getD 0 ([], []) = P at *
          have PC : Hid (Calls Tryd.prog 60 #[.agg #[vk, vv]] wr fun e w' => ∃ vk vv, e = .returned (.agg #[vk, vv]) ∧ Own wr.heap.size w' vk P.1 ∧ Own wr.heap.size w' vv P.2 ∧ wr.grownBy w' none) := rpairCopy_any wr _ P ⟨_, _, rfl, s1.1, s2.1⟩ (by omega) (by omega)
          obtain ⟨ka, kc, rfl⟩ := s1.1.shape
          obtain ⟨na, nc, rfl⟩ := s2.1.shape
          have HO : Hid (OwnS w3.heap.size wr (.slice ta ss.length tc) ss) := hown
          have HPB : Hid (wr.heap[pb]? = some (.cells #[.bool false, .slice ta ss.length tc, .slice none 0 0, .slice none 0 0] 29)) := hpb
          have HRB : Hid (wr.heap[w.heap.size]? = some (.cells #[.bool false, .slice none 0 0, .slice none 0 0, .slice none 0 0] 29)) := row_block hgr B3.out (by simp; omega)
          rw [hm1]
          clear hst hend hown hpb hpl hTm SB RO HMORE HFEW HPAIR s1 s2 q1 q2 hlen hm0 h2 hm1 BITS HBIT B3
          go_wp2_with fail
          refine PC.out.mono ?_
          rintro e w4 ⟨xk, xv, rfl, ok, ov, hg4⟩
          obtain ⟨xa, xc, rfl⟩ := ok.shape
          obtain ⟨ya, yc, rfl⟩ := ov.shape
          have hpb4 := pair_old hg4 HPB.out
          have hrb4 := pair_old hg4 HRB.out
          obtain ⟨⟨y0, y1, y2, y3⟩, f0, f1, f2, f3, _⟩ := quad_room (grown_refl w4 none) hpb4
          have hpb5 := quad_pair hpb4 (.slice xa P.1.length xc) (.slice ya P.2.length yc)
          obtain ⟨⟨m0, m1, m2, m3⟩, _⟩ := quad_room (grown_refl _ none) hpb5
          have hg54 : w4.grownBy ((w4.setCell ⟨pb, 2, none⟩ (.slice xa P.1.length xc)).setCell ⟨pb, 3, none⟩ (.slice ya P.2.length yc)) (some pb) := grown_set (grown_set (grown_refl _ _) _ _) _ _
          have hrb5 := row_block hg54 hrb4 (by simp; omega)
          have hNP : NotB w4 pb := notB_of (xs := [.slice ta ss.length tc, .slice none 0 0, .slice none 0 0]) hpb4 proofT (fun q => by simp)
          have hNP2 := hNP.set 2 (.slice xa P.1.length xc) (fun q => by simp)
          have HO5 : Hid (OwnS w3.heap.size ((w4.setCell ⟨pb, 2, none⟩ (.slice xa P.1.length xc)).setCell ⟨pb, 3, none⟩ (.slice ya P.2.length yc)) (.slice ta ss.length tc) ss) := ((HO.out.grownNone hg4).set hNP hpb3 _ _).set hNP2 hpb3 _ _
          have HK5 : Hid (PartS ((w4.setCell ⟨pb, 2, none⟩ (.slice xa P.1.length xc)).setCell ⟨pb, 3, none⟩ (.slice ya P.2.length yc)) (.slice xa P.1.length xc) P.1) := (ok.partS.set hNP _ _).set hNP2 _ _
          have HV5 : Hid (PartS ((w4.setCell ⟨pb, 2, none⟩ (.slice xa P.1.length xc)).setCell ⟨pb, 3, none⟩ (.slice ya P.2.length yc)) (.slice ya P.2.length yc) P.2) := (ov.partS.set hNP _ _).set hNP2 _ _
          have hg35 : w3.grownBy ((w4.setCell ⟨pb, 2, none⟩ (.slice xa P.1.length xc)).setCell ⟨pb, 3, none⟩ (.slice ya P.2.length yc)) (some pb) := grown_trans (grown_any hgr hg4) hg54
          have hgw5 : w.grownBy ((w4.setCell ⟨pb, 2, none⟩ (.slice xa P.1.length xc)).setCell ⟨pb, 3, none⟩ (.slice ya P.2.length yc)) none := grown_new hgw3 (by omega) hg35
          obtain ⟨W5, hW5⟩ : ∃ W5 : World, W5 = (w4.setCell ⟨pb, 2, none⟩ (.slice xa P.1.length xc)).setCell ⟨pb, 3, none⟩ (.slice ya P.2.length yc) := ⟨_, rfl⟩
          have HW5 : Hid (W5 = (w4.setCell ⟨pb, 2, none⟩ (.slice xa P.1.length xc)).setCell ⟨pb, 3, none⟩ (.slice ya P.2.length yc)) := hW5
          rw [← hW5] at HO5 HK5 HV5 hgw5 hrb5 m0 m1 m2 m3
          obtain ⟨⟨p0, p1, p2, p3⟩, e0, e1, e2, e3, _⟩ := quad_room (grown_refl W5 none) hrb5
          obtain ⟨q, q0, q1, q2, q3⟩ := quad_set hrb5 (.bool false) (.slice ta ss.length tc) (.slice xa P.1.length xc) (.slice ya P.2.length yc)
          obtain ⟨⟨r0, r1, r2, r3⟩, _⟩ := quad_room (grown_refl _ none) q
          have hNR : NotB W5 w.heap.size := notB_of (xs := [.slice none 0 0, .slice none 0 0, .slice none 0 0]) hrb5 proofT (fun q => by simp)
          have PN : Hid (ProofIs ((((W5.setCell ⟨w.heap.size, 0, none⟩ (.bool false)).setCell ⟨w.heap.size, 1, none⟩ (.slice ta ss.length tc)).setCell ⟨w.heap.size, 2, none⟩ (.slice xa P.1.length xc)).setCell ⟨w.heap.size, 3, none⟩ (.slice ya P.2.length yc)) (.agg #[.bool false, .slice ta ss.length tc, .slice xa P.1.length xc, .slice ya P.2.length yc]) ⟨false, ss, P⟩) := ⟨_, _, _, rfl, (HO5.out.quad hNR (by omega)).list, (HK5.out.quad hNR).1, (HV5.out.quad hNR).1⟩
          have hgq := grown_quad hgw5 w.heap.size (Nat.le_refl _) (.bool false) (.slice ta ss.length tc) (.slice xa P.1.length xc) (.slice ya P.2.length yc)
          clear hNR hNP hNP2 HO5 HK5 HV5 hW5 hpb4 hpb5 hrb4 hrb5 hg54 hg35 ok ov q
          go_wp2_with (rw [← HW5.out])
          refine bodyPost_ret (v := .tuple #[.agg #[.bool false, .slice ta ss.length tc, .slice xa P.1.length xc, .slice ya P.2.length yc], .int .i64 0]) (by simp [results, Tryd.results30, go_sem, r0, r1, r2, r3]) rfl ?_
          exact ⟨_, rfl, by rw [ES.out, EE.out]; exact PN.out, hgq⟩
  · have hne : (getE l k != 0) = true := by simpa using hE
    rw [proveF, if_neg hE]
    generalize getE l k = E at *
    clear hv hu hW1 hE
    go_enter Tryd.func30, Tryd.ntmps30
    go_wp2_with fail
    rw [← HW1.out]
    refine PK.out.mono ?_
    rintro e w1 ⟨rfl, hg1⟩
    obtain ⟨⟨y0, y1, y2, y3⟩, f0, f1, f2, f3, BB⟩ := quad_room hg1 B1.out
    obtain ⟨q, q0, q1, q2, q3⟩ := quad_set BB (.bool false) (.slice none 0 0) (.slice none 0 0) (.slice none 0 0)
    obtain ⟨⟨r0, r1, r2, r3⟩, _⟩ := quad_room (grown_refl _ none) q
    go_wp2
    refine bodyPost_ret (v := .tuple #[.agg #[.bool false, .slice none 0 0, .slice none 0 0, .slice none 0 0], .int .i64 E]) (by simp [results, Tryd.results30, go_sem, r0, r1, r2, r3]) rfl ?_
    exact ⟨_, rfl, ⟨_, _, _, rfl, stepsIs_nil _, sliceIs_nil _, sliceIs_nil _⟩, grown_quad (grown_trans hgW hg1) _ (Nat.le_refl _) _ _ _ _⟩
end Go.Proofs.YtkkcjnhfbblgiabDoor
