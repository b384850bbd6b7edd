/-
  The walk of canopykeep.CommitSize, over what the code must keep.
-/
import Derived.Test.YtkheombfjgjedabPart3
import Derived.Test.YtkheombfjgjedabKWrites
import Derived.Test.YtkheombfjgjedabPicked
import Derived.Test.YtkheombfjgjedabPart2
import Derived.BigQuiet
namespace Go.Proofs.Ytkheombfjgjedab
open Go.RowKit
theorem sizeW_next (ws : List Plc) (m : Nat) (h : m < ws.length) : sizeW (ws.take (m + 1)) = sizeW (ws.take m) + (3 + (ws.getD m noPlc).name.length + (ws.getD m noPlc).key.length + (ws.getD m noPlc).value.length) := by
  unfold sizeW
  rw [List.take_succ_eq_append_getElem h, List.map_append, List.sum_append, show ws[m] = ws.getD m noPlc by simp [h]]
  simp
theorem or_nat (x y : Nat) (hx : x < 2 ^ 62) (hy : y < 2 ^ 62) : bits .or .i64 (x : Int) (y : Int) = ((x ||| y : Nat) : Int) := by
  have h := Nat.or_lt_two_pow hx hy
  have e1 : BitVec.ofInt 64 (x : Int) = BitVec.ofNat 64 x := by simp
  have e2 : BitVec.ofInt 64 (y : Int) = BitVec.ofNat 64 y := by simp
  show IntKind.i64.wrap ((BitVec.ofInt 64 (x : Int) ||| BitVec.ofInt 64 (y : Int)).toNat : Int) = _
  rw [e1, e2, BitVec.toNat_or, BitVec.toNat_ofNat, BitVec.toNat_ofNat, Nat.mod_eq_of_lt (by omega), Nat.mod_eq_of_lt (by omega), IntKind.wrap_i64]
  omega
theorem three_or (k u0 u1 u2 : Nat) (hk : k < 2000000) (h0 : u0 = (1 + k) / 65536) (h1 : u1 = (1 + k) / 256 % 256) (h2 : u2 = (1 + k) % 256) :
    bits .or .i64 (bits .or .i64 (IntKind.i64.wrap (IntKind.i64.wrap (u0 : Int) * 65536)) (IntKind.i64.wrap (IntKind.i64.wrap (u1 : Int) * 256))) (IntKind.i64.wrap (u2 : Int)) = 1 + (k : Int) := by
  have w0 : IntKind.i64.wrap (u0 : Int) = (u0 : Int) := by rw [IntKind.wrap_i64]; omega
  have w1 : IntKind.i64.wrap (u1 : Int) = (u1 : Int) := by rw [IntKind.wrap_i64]; omega
  have w2 : IntKind.i64.wrap (u2 : Int) = (u2 : Int) := by rw [IntKind.wrap_i64]; omega
  have v0 : IntKind.i64.wrap ((u0 : Int) * 65536) = ((u0 * 65536 : Nat) : Int) := by rw [IntKind.wrap_i64]; omega
  have v1 : IntKind.i64.wrap ((u1 : Int) * 256) = ((u1 * 256 : Nat) : Int) := by rw [IntKind.wrap_i64]; omega
  have a1 : (u0 * 65536) ||| (u1 * 256) = u0 * 65536 + u1 * 256 := by
    have := Nat.shiftLeft_add_eq_or_of_lt (i := 16) (b := u1 * 256) (by rw [show (2 : Nat) ^ 16 = 65536 from rfl]; omega) u0
    rw [Nat.shiftLeft_eq, show (2 : Nat) ^ 16 = 65536 from rfl] at this
    exact this.symm
  have a2 : (u0 * 65536 + u1 * 256) ||| u2 = u0 * 65536 + u1 * 256 + u2 := by
    have := Nat.shiftLeft_add_eq_or_of_lt (i := 8) (b := u2) (by rw [show (2 : Nat) ^ 8 = 256 from rfl]; omega) (u0 * 256 + u1)
    rw [Nat.shiftLeft_eq, show (2 : Nat) ^ 8 = 256 from rfl, show (u0 * 256 + u1) * 256 = u0 * 65536 + u1 * 256 by rw [Nat.add_mul, Nat.mul_assoc]] at this
    exact this.symm
  rw [w0, w1, w2, v0, v1, or_nat _ _ (by omega) (by omega), a1, or_nat _ _ (by omega) (by omega), a2]
  omega
set_option maxRecDepth 100000 in
set_option maxHeartbeats 2000000 in
theorem commitSize_walk (hE : TpEncOK) (w : World) (v : Value) (l : List Plc) (turn : Int) (hv : PlacesIs w v l) (hl : FitsQ l) (hn0 : -9223372036854775808 ≤ turn) (hn1 : turn ≤ 9223372036854775807) :
    Calls Try.prog 6 #[v, .int .i64 turn] w fun e w' => e = .returned (.bool true) ∧ w.grownBy w' none := by
  have KW : Hid (Calls Try.prog 8 #[v, .int .i64 10] w fun e w' => ∃ v', e = .returned v' ∧ OwnW w.heap.size w' v' ((l.take 10).map writeF) ∧ w.grownBy w' none) := kwrites_any w v l 10 hv hl (by omega)
  have PK : Hid (∀ w', Calls Try.prog 7 #[.int .i64 turn, .int .i64 1048576] w' fun e w'' => ∃ k : Nat, e = .returned (.int .i64 (k : Int)) ∧ (k : Int) < 1048576 ∧ w'' = w') := fun w' => picked_any turn _ w' hn0 hn1 (by omega) (by omega)
  have hok : ∀ x ∈ (l.take 10).map writeF, writeE x = 0 := fun x hx => by
    obtain ⟨p, _, rfl⟩ := List.mem_map.1 hx
    exact writeF_ok p
  have hwl : ((l.take 10).map writeF).length ≤ 10 := by simp; omega
  obtain ⟨a, cap, rfl⟩ := hv.shape
  generalize (l.take 10).map writeF = ws at *
  have HOK : Hid (∀ x ∈ ws, writeE x = 0) := hok
  have HWL : Hid (∀ m, m < ws.length → (ws.getD m noPlc).name.length ≤ 8 ∧ (ws.getD m noPlc).key.length ≤ 16 ∧ (ws.getD m noPlc).value.length ≤ 32) := fun m hm => by
    have h0 := hok ws[m] (List.getElem_mem hm)
    rw [show ws[m] = ws.getD m noPlc by simp [hm]] at h0
    have h2 := (writeE_iff _).1 h0
    have h3 : (ws.getD m noPlc).value.length ≤ 32 := by
      have := h2.2.2
      split at this
      · rw [this]; simp
      · exact this
    exact ⟨by omega, by omega, h3⟩
  have HE : Hid TpEncOK := hE
  clear hv hl hE hok
  go_enter Try.func6, Try.ntmps6
  go_wp2_with fail
  refine KW.out.mono ?_
  rintro e w1 ⟨v1, rfl, h1, hg1⟩
  obtain ⟨ca, cc, rfl⟩ := h1.shape
  have HW1 : Hid (WritesIs w1 (.slice ca ws.length cc) ws) := h1.list
  clear h1
  go_wp2_with fail
  go_loopw [6, 7] (fun nv iv wr => ∃ m : Nat, m ≤ ws.length ∧ iv = .int .i64 (m : Int) ∧ nv = .int .i64 (4 + (sizeW (ws.take m) : Int)) ∧ sizeW (ws.take m) ≤ 100 * m ∧ w1.grownBy wr none) (fun _ iv _ => ws.length - (intOf iv).toNat)
  case atStart => exact ⟨0, by omega, rfl, rfl, by simp [sizeW], grown_refl _ _⟩
  case round =>
    obtain ⟨m, hm, rfl, rfl, hsz, hg⟩ := hrel
    by_cases hlt : m < ws.length
    · have i1 : (m : Int) < (ws.length : Int) := by omega
      obtain ⟨b, o, rfl, hat⟩ := HW1.out.at m hlt
      obtain ⟨vn, vk, vv, x1, x2, x3, x4, s1, s2, s3⟩ := hat.grown hg
      obtain ⟨na, nc, rfl⟩ := s1.shape
      obtain ⟨ka, kc, rfl⟩ := s2.shape
      obtain ⟨va, vc, rfl⟩ := s3.shape
      obtain ⟨b1, b2, b3⟩ := HWL.out m hlt
      have HNX : Hid (sizeW (ws.take (m + 1)) = sizeW (ws.take m) + (3 + (ws.getD m noPlc).name.length + (ws.getD m noPlc).key.length + (ws.getD m noPlc).value.length)) := sizeW_next ws m hlt
      generalize (ws.getD m noPlc).name.length = n1 at *
      generalize (ws.getD m noPlc).key.length = n2 at *
      generalize (ws.getD m noPlc).value.length = n3 at *
      generalize sizeW (ws.take m) = sz at *
      have hgd := grown_drew (grown_refl wr none)
      clear hat s1 s2 s3 x3
      go_upto_region 6 with fail
      go_region
      all_goals (
        go_wp2_with fail
        go_roundw
        case rel => exact ⟨m + 1, by omega, by go_num, by rw [HNX.out]; go_num, by rw [HNX.out]; omega, grown_trans hg hgd⟩
        case measure => simp [intOf]; omega)
    · have i1 : ¬ (m : Int) < (ws.length : Int) := by omega
      obtain rfl : m = ws.length := by omega
      rw [List.take_length] at hsz ⊢
      go_wp2_with fail
      refine (PK.out _).mono ?_
      rintro e w3 ⟨k, rfl, hk, rfl⟩
      by_cases h0 : ws.length = 0
      · have e0 : commitE ⟨1 + (k : Int), ws⟩ = 1 := by
          unfold commitE
          rw [if_pos (by show 1 ≤ 1 + (k : Int) ∧ 1 + (k : Int) ≤ 1048576; omega), if_pos h0]
        have hws : ws = [] := List.eq_nil_of_length_eq_zero h0
        subst hws
        have EN : Hid (Calls Try.prog 9 #[.agg #[.int .i64 (1 + (k : Int)), .slice ca 0 cc]] w3 fun e w'' => ∃ y, e = .returned (.tuple #[y, .int .i64 1]) ∧ SliceIs w'' y [] ∧ w3.grownBy w'' none) := by
          have h := HE.out w3 _ ⟨1 + (k : Int), []⟩ ⟨_, rfl, HW1.out.grown hg⟩ ⟨by show -9223372036854775808 ≤ 1 + (k : Int) ∧ 1 + (k : Int) ≤ 9223372036854775807; omega, ⟨by simp, fun i hi => by simp at hi⟩⟩
          rw [e0, show encF ⟨1 + (k : Int), []⟩ = [] by rw [encF, e0, if_neg (by decide)]] at h
          exact h
        have hk2 : (k : Int) < 2000000 := by omega
        clear h0 e0 hk
        go_wp2_with fail
        refine EN.out.mono ?_
        rintro e w2 ⟨y, rfl, hy, hg2⟩
        obtain ⟨ya, yc, rfl⟩ := hy.shape
        go_wp2
        go_ret
        exact ⟨rfl, grown_trans hg1 (grown_trans hg hg2)⟩
      · have hce : commitE ⟨1 + (k : Int), ws⟩ = 0 := (commit_iff _).2 ⟨by show 1 ≤ 1 + (k : Int) ∧ 1 + (k : Int) ≤ 1048576; omega, by show 1 ≤ ws.length ∧ ws.length ≤ 10; omega, HOK.out⟩
        obtain ⟨z1, z2⟩ := commit_size hce
        have EN : Hid (Calls Try.prog 9 #[.agg #[.int .i64 (1 + (k : Int)), .slice ca ws.length cc]] w3 fun e w'' => ∃ y, e = .returned (.tuple #[y, .int .i64 0]) ∧ SliceIs w'' y (commitB ⟨1 + (k : Int), ws⟩) ∧ w3.grownBy w'' none) := by
          have h := HE.out w3 _ ⟨1 + (k : Int), ws⟩ ⟨_, rfl, HW1.out.grown hg⟩ (commit_fits hce)
          rw [hce, show encF ⟨1 + (k : Int), ws⟩ = commitB ⟨1 + (k : Int), ws⟩ by rw [encF, if_pos hce]] at h
          exact h
        have g0 : (commitB ⟨1 + (k : Int), ws⟩).getD 0 0 = UInt8.ofNat ((1 + k) / 65536) := by show UInt8.ofNat ((1 + (k : Int)).toNat / 65536) = _; rw [show (1 + (k : Int)).toNat = 1 + k by omega]
        have g1 : (commitB ⟨1 + (k : Int), ws⟩).getD 1 0 = UInt8.ofNat ((1 + k) / 256 % 256) := by show UInt8.ofNat ((1 + (k : Int)).toNat / 256 % 256) = _; rw [show (1 + (k : Int)).toNat = 1 + k by omega]
        have g2 : (commitB ⟨1 + (k : Int), ws⟩).getD 2 0 = UInt8.ofNat ((1 + k) % 256) := by show UInt8.ofNat ((1 + (k : Int)).toNat % 256) = _; rw [show (1 + (k : Int)).toNat = 1 + k by omega]
        have g3 : (commitB ⟨1 + (k : Int), ws⟩).getD 3 0 = UInt8.ofNat ws.length := rfl
        have z1' : (commitB ⟨1 + (k : Int), ws⟩).length = 4 + sizeW ws := z1
        have i0 : ¬ (ws.length : Int) = 0 := by omega
        generalize commitB ⟨1 + (k : Int), ws⟩ = B at *
        have hBN : ((B.length : Int) == 4 + (sizeW ws : Int)) = true := by simp; omega
        have hB4 : 4 ≤ B.length := by omega
        have HK : Hid ((k : Int) < 1048576) := hk
        have hk2 : (k : Int) < 2000000 := by omega
        clear hce z1 z1' hk HE HOK HWL h0
        go_wp2_with fail
        refine EN.out.mono ?_
        rintro e w4 ⟨y, rfl, hy, hg4⟩
        obtain ⟨ya, yc, rfl⟩ := hy.shape
        obtain ⟨pb, po, rfl, hbs⟩ := hy.byte 0 (by omega)
        have c0 := hbs 0 (by omega)
        have c1 := hbs 1 (by omega)
        have c2 := hbs 2 (by omega)
        have c3 := hbs 3 (by omega)
        rw [g0] at c0
        rw [g1] at c1
        rw [g2] at c2
        rw [g3] at c3
        obtain ⟨u0, hu0⟩ : ∃ u0, u0 = (UInt8.ofNat ((1 + k) / 65536)).toNat := ⟨_, rfl⟩
        obtain ⟨u1, hu1⟩ : ∃ u1, u1 = (UInt8.ofNat ((1 + k) / 256 % 256)).toNat := ⟨_, rfl⟩
        obtain ⟨u2, hu2⟩ : ∃ u2, u2 = (UInt8.ofNat ((1 + k) % 256)).toNat := ⟨_, rfl⟩
        obtain ⟨u3, hu3⟩ : ∃ u3, u3 = (UInt8.ofNat ws.length).toNat := ⟨_, rfl⟩
        rw [← hu0] at c0
        rw [← hu1] at c1
        rw [← hu2] at c2
        rw [← hu3] at c3
        have hOR : (bits .or .i64 (bits .or .i64 (IntKind.i64.wrap (IntKind.i64.wrap (u0 : Int) * 65536)) (IntKind.i64.wrap (IntKind.i64.wrap (u1 : Int) * 256))) (IntKind.i64.wrap (u2 : Int)) == 1 + (k : Int)) = true := by
          have hkk := HK.out
          rw [three_or k u0 u1 u2 (by omega) (by rw [hu0]; simp; omega) (by rw [hu1]; simp) (by rw [hu2]; simp)]
          simp
        have hU3 : IntKind.i64.wrap (u3 : Int) = (u3 : Int) := by rw [IntKind.wrap_i64, hu3]; simp; omega
        have hu3' : u3 = ws.length := by rw [hu3]; simp; omega
        have hBN3 : ((u3 : Int) == (ws.length : Int)) = true := by rw [hu3']; simp
        have HG4 := grown_trans hg hg4
        clear hy hbs hu0 hu1 hu2 hu3 hu3' g0 g1 g2 g3 hsz hk2 z2
        rw [Nat.add_zero] at c0
        have n0 : 0 < B.length := by omega
        have n1 : 1 < B.length := by omega
        have n2 : 2 < B.length := by omega
        have n3 : 3 < B.length := by omega
        have m0 : (0 : Int) < (B.length : Int) := by omega
        have m1 : (1 : Int) < (B.length : Int) := by omega
        have m2 : (2 : Int) < (B.length : Int) := by omega
        have m3 : (3 : Int) < (B.length : Int) := by omega
        clear HK PK
        go_upto_region 11 with fail
        go_quiet (fail)
        all_goals
          go_wp2
          go_ret
          exact ⟨rfl, grown_trans hg1 (grown_drewN HG4 _)⟩
end Go.Proofs.Ytkheombfjgjedab
