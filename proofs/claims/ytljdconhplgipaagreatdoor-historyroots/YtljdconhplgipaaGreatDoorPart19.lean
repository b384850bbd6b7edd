/-
  Texts of this proof, joined: RKeyF, RKey, RPartOf.
-/
import Derived.Test.YtljdconhplgipaaGreatDoorBase
import Derived.Test.YtljdconhplgipaaGreatDoorKeys
/-
  The walks of the document's answer to P2.1: In, KeyFault.
-/
namespace Go.Proofs.YtljdconhplgipaaGreatDoor
open Go.RowKit

theorem in_any (n lo hi : Int) (w : World) :
    Calls Tryz.prog 20 #[.int .i64 n, .int .i64 lo, .int .i64 hi] w fun e w' => e = .returned (.bool (decide (lo ≤ n ∧ n ≤ hi))) ∧ w' = w := by
  by_cases h1 : lo ≤ n
  · by_cases h2 : n ≤ hi
    · rw [decide_eq_true ⟨h1, h2⟩]
      go_enter Tryz.func20, Tryz.ntmps20
      go_wp2
      go_ret
      exact ⟨rfl, rfl⟩
    · rw [decide_eq_false (fun h => h2 h.2)]
      have h2' : hi < n := by omega
      go_enter Tryz.func20, Tryz.ntmps20
      go_wp2
      go_ret
      exact ⟨rfl, rfl⟩
  · rw [decide_eq_false (fun h => h1 h.1)]
    have h1' : n < lo := by omega
    go_enter Tryz.func20, Tryz.ntmps20
    go_wp2
    go_ret
    exact ⟨rfl, rfl⟩
theorem keyFault_any (w : World) (a : Option Addr) (n cap : Nat) :
    Calls Tryz.prog 63 #[.slice a n cap] w fun e w' => e = .returned (.int .i64 (keyFaultF n)) ∧ w' = w := by
  by_cases h : 1 ≤ n ∧ n ≤ 16
  · rw [keyFaultF, if_pos h]
    go_enter Tryz.func63, Tryz.ntmps63
    go_wp2_with fail
    refine (in_any _ _ _ _).mono ?_
    rintro e w1 ⟨rfl, rfl⟩
    rw [decide_eq_true (show (1 : Int) ≤ (n : Int) ∧ (n : Int) ≤ 16 by omega)]
    go_wp2
    go_ret
    exact ⟨rfl, rfl⟩
  · rw [keyFaultF, if_neg h]
    go_enter Tryz.func63, Tryz.ntmps63
    go_wp2_with fail
    refine (in_any _ _ _ _).mono ?_
    rintro e w1 ⟨rfl, rfl⟩
    rw [decide_eq_false (show ¬ ((1 : Int) ≤ (n : Int) ∧ (n : Int) ≤ 16) by omega)]
    go_wp2
    go_ret
    exact ⟨rfl, rfl⟩
end Go.Proofs.YtljdconhplgipaaGreatDoor

/-
  The walk of the document's answer to P2.1: the bits of a key.
-/
namespace Go.Proofs.YtljdconhplgipaaGreatDoor
open Go.RowKit
def bvals (l : List Bool) : List Value := l.map Value.bool
/-- The slice v of bools is the call's own, and has these. -/
def OwnB (base : Nat) (w : World) (v : Value) (l : List Bool) : Prop := w.ownsRow base 4 1 v l.length (bvals l)
theorem ownB_nil (base : Nat) (w : World) : OwnB base w (.slice none 0 0) [] := World.ownsRow_nil _ _ _ _
theorem OwnB.shape {base : Nat} {w : World} {v : Value} {l : List Bool} (h : OwnB base w v l) : ∃ a cap, v = .slice a l.length cap := by
  rcases h.2 with ⟨rfl, h0⟩ | ⟨g, cap, cur, rfl, _⟩
  · exact ⟨none, 0, by rw [h0]⟩
  · exact ⟨_, cap, rfl⟩
theorem OwnB.grownNone {base : Nat} {w w' : World} {v : Value} {l : List Bool} (h : OwnB base w v l) (hg : w.grownBy w' none) : OwnB base w' v l := by
  refine World.ownsRow.kept h hg ?_
  cases hv : v.ownBlock with
  | none => exact .inl rfl
  | some k => exact .inr (by simp)
theorem OwnB.block {base : Nat} {w : World} {v : Value} {l : List Bool} (h : OwnB base w v l) (hne : l ≠ []) : ∃ g cap, v = .slice (some ⟨g, 0, none⟩) l.length cap ∧ ∀ i, i < l.length → w.cell? ⟨g, i, none⟩ = some (.bool (l.getD i false)) := by
  obtain ⟨h1, h2⟩ := h
  rcases h2 with ⟨rfl, h0⟩ | ⟨g, cap, cur, rfl, hb, hg, hn, hm, hs, ht⟩
  · exact absurd (List.eq_nil_of_length_eq_zero h0) hne
  · refine ⟨g, cap, rfl, fun i hi => ?_⟩
    have hc : cur.toList[i]? = some (.bool (l.getD i false)) := by
      have e : (cur.toList.take (l.length * 1))[i]? = (bvals l)[i]? := by rw [ht]
      rw [List.getElem?_take, if_pos (by omega)] at e
      rw [e, bvals, List.getElem?_map, List.getElem?_eq_getElem hi]
      simp [hi]
    simp [World.cell?, hg]
    simpa using hc
theorem grown_ownB {w W w1 : World} {v : Value} {l : List Bool} (h : w.grownBy W none) (ho : OwnB w.heap.size W v l) (hg : W.grownBy w1 v.ownBlock) : w.grownBy w1 none :=
  ⟨hg.os.trans h.os, hg.tape.trans h.tape, hg.output.trans h.output, Nat.le_trans h.size hg.size, fun i hi hn => (hg.block i (Nat.lt_of_lt_of_le hi h.size) (fun e => by have := (World.ownsRow.lt ho i e.symm).1; omega)).trans (h.block i hi hn)⟩
theorem info4 : (Tryz.prog.info? 4).map (fun i => (i.zero, i.size, i.bytes)) = some (some (.bool false), 1, 1) := by kernel_rfl
/-- append(v, x) of one bool. -/
theorem wpList_append_bool {w0 w : World} {ops : Array Oper} {rest : List Oper} {o : Oper} {a : Act} {Q : Exit → Act → World → Prop} (hgd : o.guard = none) (s x : Operand)
    (ho : o.op = .call { callee := .builtin .append, args := #[s, x], argTypes := #[75, 75] }) (base : Nat) (v : Value) (l : List Bool) (hs : a.eval s = v) (y : Bool) (hw : w = w0.alloc (.cells #[.bool y] 4)) (hown : OwnB base w0 v l)
    (hx : a.eval x = .slice (some ⟨w0.heap.size, 0, none⟩) 1 1) (hl : l.length ≤ 100000) (hbase : base ≤ w0.heap.size)
    (h : ∀ v' w', OwnB base w' v' (l ++ [y]) → w.grownBy w' v.ownBlock → wpList Tryz.prog ops Q rest (a.put o.dst v') w') : wpList Tryz.prog ops Q (o :: rest) a w := by
  subst hw
  obtain ⟨i0, hi, hz0, hz1, hz2⟩ := info_parts info4
  refine wpList_append_own _ hgd s x 75 ho base 4 i0 (.bool false) 1 1 Tryz.underlying75 hi hz0 hz1 hz2 rfl (by decide) v l.length (bvals l) hs (World.ownsRow.alloc hown _) ⟨w0.heap.size, 0, none⟩ 1 1 [.bool y] hx rfl ?_ ?_ ?_ ?_ ?_ ?_
  · intro j u hj
    match j, hj with
    | 0, hj => simp at hj; subst hj; simp [Addr.add]
  · intro u hu; simp at hu; subst hu; rfl
  · unfold maxLen; omega
  · omega
  · simp; omega
  · intro v' w' h1 h2 _
    refine h v' w' ?_ h2
    unfold OwnB
    rw [List.length_append]
    simpa [bvals] using h1
/-- The first bits of a key. -/
def bitsN (k : List UInt8) (n : Nat) : List Bool := (List.range n).map (kbit k)
theorem bitsN_len (k : List UInt8) (n : Nat) : (bitsN k n).length = n := by simp [bitsN]
theorem bitsN_succ (k : List UInt8) (n : Nat) : bitsN k (n + 1) = bitsN k n ++ [kbit k n] := by simp [bitsN, List.range_succ]
theorem bitsN_get (k : List UInt8) (n i : Nat) (h : i < n) : (bitsN k n).getD i false = kbit k i := by simp [bitsN, h]
theorem bit_test (c : UInt8) (j : Nat) (hj : j < 8) : decide (2 ^ (7 - j) ≤ c.toNat % 2 ^ (8 - j)) = c.toNat.testBit (7 - j) :=
  (by decide +kernel : ∀ (c : Fin 256) (j : Fin 8), decide (2 ^ (7 - j.1) ≤ c.1 % 2 ^ (8 - j.1)) = c.1.testBit (7 - j.1)) ⟨c.toNat, c.toNat_lt⟩ ⟨j, hj⟩
theorem bit_rest (c : UInt8) (j : Nat) (hj : j < 8) : (if 2 ^ (7 - j) ≤ c.toNat % 2 ^ (8 - j) then c.toNat % 2 ^ (8 - j) - 2 ^ (7 - j) else c.toNat % 2 ^ (8 - j)) = c.toNat % 2 ^ (7 - j) :=
  (by decide +kernel : ∀ (c : Fin 256) (j : Fin 8), (if 2 ^ (7 - j.1) ≤ c.1 % 2 ^ (8 - j.1) then c.1 % 2 ^ (8 - j.1) - 2 ^ (7 - j.1) else c.1 % 2 ^ (8 - j.1)) = c.1 % 2 ^ (7 - j.1)) ⟨c.toNat, c.toNat_lt⟩ ⟨j, hj⟩
/-- A slice's length. -/
def sliceLenB : Value → Nat | .slice _ n _ => n | _ => 0
/-- 128, 64, .. 1, 0. -/
def powT (j : Nat) : Nat := 2 ^ (8 - j) / 2
theorem powT_eq (j : Nat) (h : j < 8) : powT j = 2 ^ (7 - j) := (by decide : ∀ j : Fin 8, powT j.1 = 2 ^ (7 - j.1)) ⟨j, h⟩
theorem powT_next (j : Nat) (h : j < 8) : powT j / 2 = powT (j + 1) := (by decide : ∀ j : Fin 8, powT j.1 / 2 = powT (j.1 + 1)) ⟨j, h⟩
theorem powT_pos (j : Nat) (h : j < 8) : 0 < powT j ∧ powT j ≤ 128 := (by decide : ∀ j : Fin 8, 0 < powT j.1 ∧ powT j.1 ≤ 128) ⟨j, h⟩
set_option maxRecDepth 100000 in
set_option maxHeartbeats 1000000 in
theorem allBits_any (w : World) (v : Value) (bs : List UInt8) (hv : SliceIs w v bs) (hl : bs.length ≤ 16) :
    Calls Tryz.prog 38 #[v] w fun e w' => ∃ v', e = .returned v' ∧ OwnB w.heap.size w' v' (bitsN bs 145) ∧ w.grownBy w' none := by
  obtain ⟨a, cap, rfl, hc, hrest⟩ := hv
  go_enter Tryz.func38, Tryz.ntmps38
  go_wp2_with fail
  go_loopw [3, 4] (fun ov iv wr => ∃ m : Nat, m ≤ bs.length ∧ iv = .int .i64 (m : Int) ∧ OwnB w.heap.size wr ov (bitsN bs (9 * m)) ∧ w.grownBy wr none) (fun _ iv _ => bs.length - (intOf iv).toNat)
  case atStart => exact ⟨0, by omega, rfl, ownB_nil _ _, grown_refl _ _⟩
  case round =>
    obtain ⟨m, hm, rfl, hown, hg⟩ := hrel
    obtain ⟨oa, ocap, rfl⟩ := hown.shape
    by_cases hlt : m < bs.length
    · obtain ⟨b, o, rfl, hB⟩ : ∃ b o, a = some ⟨b, o, none⟩ ∧ BytesAt w b o bs := by
        rcases hrest with ⟨rfl, _⟩ | h
        · simp at hlt
        · exact h
      have HBB : Hid (BytesAt w b o bs) := hB
      have HS1 : Hid (bitsN bs (9 * m + 1) = bitsN bs (9 * m) ++ [true]) := by
        show _ = _
        rw [bitsN_succ, kbit_head, decide_eq_true hlt]
      have hol : (bitsN bs (9 * m)).length ≤ 200 := by rw [bitsN_len]; omega
      generalize bitsN bs (9 * m) = O at *
      have hsz := hg.size
      clear hB hrest
      have i1 : (m : Int) < (bs.length : Int) := by omega
      go_upto_region 6 with (at_builtin; refine wpList_append_bool (w0 := wr) rfl (.tmp 13) (.tmp 14) rfl w.heap.size (.slice oa O.length ocap) O rfl true rfl hown rfl (by omega) hsz ?_; intro v1 w1 ho1 hg1)
      have hgw := grown_ownB (grown_alloc hg _) (World.ownsRow.alloc hown _) hg1
      rw [← HS1.out] at ho1
      have c0 := (HBB.out.grown hgw (by simp)) m hlt
      have HKB : Hid (∀ j, j < 8 → kbit bs (9 * m + 1 + j) = (bs.getD m 0).toNat.testBit (7 - j)) := by
        intro j hj
        rw [show 9 * m + 1 + j = 9 * m + (1 + j) by omega, kbit_byte bs m (1 + j) hlt (by omega) (by omega), show 8 - (1 + j) = 7 - j by omega]
      generalize bs.getD m 0 = x at *
      have hx : x.toNat < 256 := x.toNat_lt
      clear hown hg hg1 HS1
      go_wp2_with fail
      go_loopw [3, 5, 6] (fun ov nv pv wr => ∃ j : Nat, j ≤ 8 ∧ nv = .int .i64 ((x.toNat % 2 ^ (8 - j) : Nat) : Int) ∧ pv = .int .i64 ((powT j : Nat) : Int) ∧ OwnB w.heap.size wr ov (bitsN bs (9 * m + 1 + j)) ∧ w.grownBy wr none) (fun _ _ pv _ => (intOf pv).toNat)
      case atStart =>
        refine ⟨0, by omega, ?_, rfl, ho1, hgw⟩
        have e : x.toNat % 2 ^ (8 - 0) = x.toNat := Nat.mod_eq_of_lt (by simpa using hx)
        rw [e]
      case round =>
        clear ho1 hgw c0
        obtain ⟨j, hj, rfl, rfl, hown, hg⟩ := hrel
        obtain ⟨oa, ocap, rfl⟩ := hown.shape
        have hsz := hg.size
        have hol : (bitsN bs (9 * m + 1 + j)).length ≤ 200 := by rw [bitsN_len]; omega
        by_cases hlj : j < 8
        · have hpp := powT_pos j hlj
          have HPE : Hid (powT j = 2 ^ (7 - j)) := powT_eq j hlj
          have HPN : Hid (powT j / 2 = powT (j + 1)) := powT_next j hlj
          have hNB : x.toNat % 2 ^ (8 - j) < 256 := Nat.lt_of_le_of_lt (Nat.mod_le _ _) hx
          have HT := bit_test x j hlj
          have HR := bit_rest x j hlj
          rw [← HPE.out] at HT HR
          have HS2 : Hid (bitsN bs (9 * m + 1 + (j + 1)) = bitsN bs (9 * m + 1 + j) ++ [decide (powT j ≤ x.toNat % 2 ^ (8 - j))]) := by
            show _ = _
            rw [← Nat.add_assoc, bitsN_succ, HKB.out j hlj, HT]
          have HR2 : Hid (x.toNat % 2 ^ (8 - (j + 1)) = if powT j ≤ x.toNat % 2 ^ (8 - j) then x.toNat % 2 ^ (8 - j) - powT j else x.toNat % 2 ^ (8 - j)) := by
            show _ = _
            rw [HR, show 8 - (j + 1) = 7 - j by omega, HPE.out]
          clear HT HR
          generalize bitsN bs (9 * m + 1 + j) = O at *
          generalize x.toNat % 2 ^ (8 - j) = R at *
          generalize powT j = P at *
          have tp : (0 : Int) < (P : Int) := by omega
          by_cases hge : P ≤ R
          · have tge : (P : Int) ≤ (R : Int) := by omega
            rw [decide_eq_true hge] at HS2
            rw [if_pos hge] at HR2
            go_wp2_with (at_builtin; refine wpList_append_bool (w0 := wr) rfl (.tmp 25) (.tmp 29) rfl w.heap.size (.slice oa O.length ocap) O rfl true rfl hown rfl (by omega) hsz ?_; intro v1 w1 ho1 hg1)
            have hgw := grown_ownB (grown_alloc hg _) (World.ownsRow.alloc hown _) hg1
            go_roundw
            case rel =>
              have e1 : (R : Int) - (P : Int) = ((x.toNat % 2 ^ (8 - (j + 1)) : Nat) : Int) := by rw [HR2.out]; omega
              have e2 : (P : Int) / 2 = ((powT (j + 1) : Nat) : Int) := by rw [← HPN.out]; omega
              first
                | exact ⟨j + 1, by omega, by rw [e1], by rw [e2], by rw [HS2.out]; exact ho1, hgw⟩
                | ((repeat apply Exists.intro); refine ⟨⟨j + 1, by omega, ?_, ?_, by rw [HS2.out]; exact ho1, hgw⟩, rfl⟩ <;> first | rw [e1] | rw [e2])
            case measure => simp [intOf]; omega
          · have tge : (R : Int) < (P : Int) := by omega
            rw [decide_eq_false hge] at HS2
            rw [if_neg hge] at HR2
            go_wp2_with (at_builtin; refine wpList_append_bool (w0 := wr) rfl (.tmp 25) (.tmp 29) rfl w.heap.size (.slice oa O.length ocap) O rfl false rfl hown rfl (by omega) hsz ?_; intro v1 w1 ho1 hg1)
            have hgw := grown_ownB (grown_alloc hg _) (World.ownsRow.alloc hown _) hg1
            go_roundw
            case rel =>
              have e2 : (P : Int) / 2 = ((powT (j + 1) : Nat) : Int) := by rw [← HPN.out]; omega
              first
                | exact ⟨j + 1, by omega, by rw [HR2.out], by rw [e2], by rw [HS2.out]; exact ho1, hgw⟩
                | ((repeat apply Exists.intro); refine ⟨⟨j + 1, by omega, ?_, ?_, by rw [HS2.out]; exact ho1, hgw⟩, rfl⟩ <;> first | rw [HR2.out] | rw [e2])
            case measure => simp [intOf]; omega
        · obtain rfl : j = 8 := by omega
          have e0 : powT 8 = 0 := rfl
          rw [e0]
          go_wp2_with fail
          go_roundw
          case rel =>
            have ho2 : OwnB w.heap.size wr (.slice oa (bitsN bs (9 * m + 1 + 8)).length ocap) (bitsN bs (9 * (m + 1))) := hown
            first
              | exact ⟨m + 1, by omega, by go_num, ho2, hg⟩
              | ((repeat apply Exists.intro); refine ⟨⟨m + 1, by omega, ?_, ho2, hg⟩, rfl⟩; go_num)
          case measure => simp [intOf]; omega
    · obtain rfl : m = bs.length := by omega
      clear hrest hlt
      go_wp2_with fail
      go_loopw [3] (fun ov wr => ∃ n : Nat, 9 * bs.length ≤ n ∧ n ≤ 145 ∧ OwnB w.heap.size wr ov (bitsN bs n) ∧ w.grownBy wr none) (fun ov _ => 145 - sliceLenB ov)
      case atStart => exact ⟨9 * bs.length, by omega, by omega, hown, hg⟩
      case round =>
        clear hown hg
        obtain ⟨n, hn1, hn2, hown, hg⟩ := hrel
        obtain ⟨oa, ocap, rfl⟩ := hown.shape
        have hsz := hg.size
        have hol := bitsN_len bs n
        by_cases hlt : n < 145
        · have HS : Hid (bitsN bs (n + 1) = bitsN bs n ++ [false]) := by
            show _ = _
            rw [bitsN_succ, kbit_past bs n (by omega)]
          have HOL : Hid ((bitsN bs n).length = n) := hol
          generalize bitsN bs n = O at *
          have t1 : (O.length : Int) < 145 := by omega
          have t2 : O.length ≤ 1000 := by omega
          clear hol
          go_wp2_with (at_builtin; refine wpList_append_bool (w0 := wr) rfl (.tmp 40) (.tmp 41) rfl w.heap.size (.slice oa O.length ocap) O rfl false rfl hown rfl (by omega) hsz ?_; intro v1 w1 ho1 hg1)
          have hgw := grown_ownB (grown_alloc hg _) (World.ownsRow.alloc hown _) hg1
          obtain ⟨va, vcap, rfl⟩ := ho1.shape
          go_roundw
          case rel =>
            first
              | exact ⟨n + 1, by omega, by omega, by rw [HS.out]; exact ho1, hgw⟩
              | ((repeat apply Exists.intro); exact ⟨⟨n + 1, by omega, by omega, by rw [HS.out]; exact ho1, hgw⟩, rfl⟩)
          case measure => have := HOL.out; simp [sliceLenB]; omega
        · obtain rfl : n = 145 := by omega
          have t1 : ¬ ((bitsN bs 145).length : Int) < 145 := by omega
          go_wp2
          go_ret
          exact ⟨_, rfl, hown, hg⟩
end Go.Proofs.YtljdconhplgipaaGreatDoor

/-
  The walk of the document's answer to P2.3: partOf.
-/
namespace Go.Proofs.YtljdconhplgipaaGreatDoor
open Go.RowKit
set_option maxRecDepth 100000 in
set_option maxHeartbeats 1000000 in
theorem partOf_any (w : World) (v u : Value) (a b : List UInt8) (hv : SliceIs w v a) (hu : SliceIs w u b) (ha : a.length ≤ 16) (hb : b.length ≤ 16) :
    Calls Tryz.prog 37 #[v, u] w fun e w' => e = .returned (.int .i64 (partK a b)) ∧ w.grownBy w' none := by
  go_enter Tryz.func37, Tryz.ntmps37
  go_wp2_with fail
  refine (allBits_any _ _ _ hv ha).mono ?_
  rintro e w1 ⟨v1, rfl, ho1, hg1⟩
  go_wp2_with fail
  refine (allBits_any _ _ _ (hu.grown hg1) hb).mono ?_
  rintro e w2 ⟨v2, rfl, ho2, hg2⟩
  obtain ⟨g1, cap1, rfl, hc1⟩ := (ho1.grownNone hg2).block (by intro e; have := bitsN_len a 145; rw [e] at this; simp at this)
  obtain ⟨g2, cap2, rfl, hc2⟩ := ho2.block (by intro e; have := bitsN_len b 145; rw [e] at this; simp at this)
  have hgw := grown_trans hg1 hg2
  clear ho1 ho2 hg1 hg2 hv hu
  rw [bitsN_len] at hc1 hc2 ⊢
  rw [bitsN_len]
  have HC1 : Hid (∀ i, i < 145 → w2.cell? ⟨g1, i, none⟩ = some (.bool (kbit a i))) := fun i hi => by rw [hc1 i hi, bitsN_get _ _ _ hi]
  have HC2 : Hid (∀ i, i < 145 → w2.cell? ⟨g2, i, none⟩ = some (.bool (kbit b i))) := fun i hi => by rw [hc2 i hi, bitsN_get _ _ _ hi]
  clear hc1 hc2
  go_wp2_with fail
  go_loopw [7] (fun iv wr => ∃ m : Nat, m ≤ 145 ∧ iv = .int .i64 (m : Int) ∧ w2.grownBy wr none ∧ ∀ j, j < m → kbit a j = kbit b j) (fun iv _ => 145 - (intOf iv).toNat)
  case atStart => exact ⟨0, by omega, rfl, grown_refl _ _, fun j hj => by omega⟩
  case round =>
    obtain ⟨m, hm, rfl, hgr, hsame⟩ := hrel
    have HSame : Hid (∀ j, j < m → kbit a j = kbit b j) := hsame
    have hgw2 := grown_trans hgw hgr
    clear hsame
    by_cases hlt : m < 145
    · have c1 := hgr.cell (HC1.out m hlt) (by simp)
      have c2 := hgr.cell (HC2.out m hlt) (by simp)
      have t1 : (m : Int) < 145 := by omega
      by_cases he : kbit a m = kbit b m
      · have HE : Hid (kbit a m = kbit b m) := he
        rw [he] at c1
        clear he
        generalize kbit b m = y at c1 c2
        go_wp2_with fail
        go_region
        all_goals go_wp2_with fail
        go_roundw
        case rel =>
          have hs : ∀ j, j < m + 1 → kbit a j = kbit b j := fun j hj => by
            by_cases hjm : j = m
            · subst hjm; exact HE.out
            · exact HSame.out j (by omega)
          first
            | exact ⟨m + 1, by omega, by go_num, grown_drew hgr, hs⟩
            | ((repeat apply Exists.intro); refine ⟨⟨m + 1, by omega, ?_, grown_drew hgr, hs⟩, rfl⟩; go_num)
        case measure => simp [intOf]; omega
      · have HP : Hid (partK a b = (m : Int)) := partK_of a b m hlt HSame.out he
        generalize kbit a m = x at *
        generalize kbit b m = y at *
        have he2 : (!x == y) = true := by cases x <;> cases y <;> simp_all
        clear he
        go_wp2_with fail
        go_region
        all_goals go_wp2
        go_ret
        exact ⟨by rw [HP.out]; rfl, grown_drew hgw2⟩
    · obtain rfl : m = 145 := by omega
      have HP : Hid (partK a b = -1) := partK_none a b HSame.out
      go_wp2
      go_ret
      exact ⟨by rw [HP.out]; rfl, hgw2⟩
end Go.Proofs.YtljdconhplgipaaGreatDoor
