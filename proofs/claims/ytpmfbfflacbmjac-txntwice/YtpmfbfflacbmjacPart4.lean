/-
  Texts of this proof, joined: TPairP, CmpB, TCheckP.
-/
import Derived.Test.YtpmfbfflacbmjacCheckP
import Derived.Test.YtpmfbfflacbmjacPairMem
import Derived.Test.YtpmfbfflacbmjacPart1
import Derived.Test.YtpmfbfflacbmjacBase
import Derived.Lib.BytesEntry
import Derived.Test.YtpmfbfflacbmjacPart3
/-
  tree.checkPair and tree.checkWith, as they landed.
-/
namespace Go.Proofs.Ytpmfbfflacbmjac
open Go.RowKit
theorem checkPair_any (w : World) (ak av : Option Addr) (p : Pr) (ck cv : Nat) :
    Calls Try.prog 74 #[.agg #[.slice ak p.1.length ck, .slice av p.2.length cv]] w fun e w' => e = .returned (.int .i64 (pairFaultF p)) ∧ w.grownBy w' none := by
  by_cases h : 32 < p.2.length
  · rw [pairFaultF, if_pos h]
    have t1 : (p.2.length : Int) > 32 := by omega
    go_enter Try.func74, Try.ntmps74
    go_wp2
    go_ret
    exact ⟨rfl, World.grownBy_alloc _ _ _⟩
  · rw [pairFaultF, if_neg h]
    have t1 : ¬ (p.2.length : Int) > 32 := by omega
    have CK : Hid CheckOK := check_ok
    go_enter Try.func74, Try.ntmps74
    go_wp2_with fail
    refine (CK.out _ _ _ _).mono ?_
    rintro e w1 ⟨rfl, hg1⟩
    go_wp2
    go_ret
    exact ⟨rfl, grown_trans (World.grownBy_alloc _ _ _) hg1⟩
end Go.Proofs.Ytpmfbfflacbmjac

/-
  The walk of bytes.Compare, over two slices as they are handed over.
-/
namespace Go.Proofs.Ytpmfbfflacbmjac
open Go.RowKit
/-- -1, 0 or 1. -/
def cmpF (a b : List UInt8) : Int := if klt a b = true then -1 else if a = b then 0 else 1
theorem cmp_klt : ∀ a b : List UInt8, Lib.compareBytes a b = cmpF a b
  | [], [] => rfl
  | [], y :: b => by
    have h : klt [] (y :: b) = true := by
      cases h : klt [] (y :: b) with
      | true => rfl
      | false => have := klt_total _ _ h (by simp); rw [klt_nil] at this; cases this
    rw [cmpF, if_pos h]; rfl
  | x :: a, [] => by rw [cmpF, if_neg (by rw [klt_nil]; simp), if_neg (by simp)]; rfl
  | x :: a, y :: b => by
    have ih := cmp_klt a b
    rw [Lib.compareBytes, ih]
    unfold cmpF
    rw [klt_cons]
    by_cases h1 : x < y
    · simp [h1]
    · by_cases h2 : y < x
      · have h3 : x ≠ y := by intro e; subst e; exact h1 h2
        simp [h1, h2, h3]
      · have h3 : x = y := by
          have e1 := UInt8.not_lt.1 h1
          have e2 := UInt8.not_lt.1 h2
          exact UInt8.le_antisymm e2 e1
        subst h3
        simp [h1]
theorem cmpF_lt (a b : List UInt8) (h : klt a b = true) : cmpF a b = -1 := by rw [cmpF, if_pos h]
theorem cmpF_eq (a : List UInt8) : cmpF a a = 0 := by rw [cmpF, if_neg (by rw [klt_irrefl]; simp), if_pos rfl]
theorem cmpF_gt (a b : List UInt8) (h : klt a b = false) (hne : a ≠ b) : cmpF a b = 1 := by rw [cmpF, if_neg (by rw [h]; simp), if_neg hne]
theorem cmpF_range (a b : List UInt8) : -1 ≤ cmpF a b ∧ cmpF a b ≤ 1 := by
  unfold cmpF
  by_cases h1 : klt a b = true
  · rw [if_pos h1]; omega
  · rw [if_neg h1]
    by_cases h2 : a = b
    · rw [if_pos h2]; omega
    · rw [if_neg h2]; omega
theorem cmpF_neg (a b : List UInt8) : decide (cmpF a b < 0) = klt a b := by
  cases h : klt a b with
  | true => rw [cmpF_lt a b h]; rfl
  | false =>
    by_cases h2 : a = b
    · subst h2; rw [cmpF_eq]; rfl
    · rw [cmpF_gt a b h h2]; rfl
theorem cmpF_zero (a b : List UInt8) : (cmpF a b == 0) = decide (a = b) := by
  by_cases h2 : a = b
  · subst h2; rw [cmpF_eq]; simp
  · cases h : klt a b with
    | true => rw [cmpF_lt a b h]; simp [h2]
    | false => rw [cmpF_gt a b h h2]; simp [h2]
theorem run_bytesOf (w : World) (v : Value) (a : List UInt8) (h : SliceIs w v a) : (Extern.Bytes.bytesOf v).run Try.prog w = .ok ⟨a.toArray⟩ w := by
  obtain ⟨ad, cap, rfl, hc, h⟩ := h
  have key : ∀ x : Addr, (∀ j y, (a.map fun c => (c.toNat : Int))[j]? = some y → w.cell? (x.add j) = some (.int .u8 y)) → (Extern.Bytes.bytesOf (.slice (some x) a.length cap)).run Try.prog w = .ok ⟨a.toArray⟩ w := by
    intro x hx
    have hl := Lib.run_loadBytesX (P := Try.prog) w (a.map fun c => (c.toNat : Int)) x .empty hx
    rw [List.length_map] at hl
    have e : (⟨ByteArray.empty.data ++ (Lib.bytesOf (a.map fun c => (c.toNat : Int))).toArray⟩ : ByteArray) = ⟨a.toArray⟩ := by
      apply ByteArray.ext
      show (#[] : Array UInt8) ++ (Lib.bytesOf (a.map fun c => (c.toNat : Int))).toArray = a.toArray
      simp only [Lib.bytesOf, List.map_map, Array.empty_append, Array.mk.injEq]
      congr 1
      exact (List.map_congr_left fun c _ => by simp).trans (List.map_id a)
    rw [e] at hl
    simpa only [Extern.Bytes.bytesOf] using hl
  rcases h with ⟨rfl, h⟩ | ⟨b, o, rfl, h⟩
  · cases ad with
    | none => rfl
    | some x => exact key x fun j y hy => by simp at hy
  · refine key ⟨b, o, none⟩ fun j y hy => ?_
    rw [List.getElem?_map] at hy
    cases hj : a[j]? with
    | none => rw [hj] at hy; simp at hy
    | some c =>
      rw [hj] at hy
      simp at hy
      subst hy
      have hlt : j < a.length := (List.getElem?_eq_some_iff.1 hj).1
      rw [addr_add, h j hlt]
      simp [hj]
theorem run_compare (w : World) (v u : Value) (a b : List UInt8) (hv : SliceIs w v a) (hu : SliceIs w u b) :
    (Extern.BytealgCompare.compare #[v, u]).run Try.prog w = .ok (.int .i64 (cmpF a b)) w := by
  change Sem.run Try.prog (do pure (goInt (Extern.BytealgCompare.cmp (← Extern.Bytes.bytesOf v) (← Extern.Bytes.bytesOf u)))) w = _
  simp only [Sem.run_bind, Sem.run_pure, run_bytesOf w v a hv, run_bytesOf w u b hu, Result.andThen]
  rw [Lib.cmp_eq, cmp_klt]
  rfl
set_option maxRecDepth 100000 in
set_option maxHeartbeats 1000000 in
theorem compare_any (w : World) (v u : Value) (a b : List UInt8) (hv : SliceIs w v a) (hu : SliceIs w u b) :
    Calls Try.prog 52 #[v, u] w fun e w' => e = .returned (.int .i64 (cmpF a b)) ∧ w' = w := by
  have hrun := run_compare w v u a b hv hu
  obtain ⟨va, vc, rfl⟩ : ∃ x c, v = .slice x a.length c := by obtain ⟨x, c, e, _⟩ := hv; exact ⟨x, c, e⟩
  obtain ⟨ua, uc, rfl⟩ : ∃ x c, u = .slice x b.length c := by obtain ⟨x, c, e, _⟩ := hu; exact ⟨x, c, e⟩
  have HR : Hid ((Extern.BytealgCompare.compare #[.slice va a.length vc, .slice ua b.length uc]).run Try.prog w = .ok (.int .i64 (cmpF a b)) w) := hrun
  clear hrun hv hu
  go_enter Try.func52, Try.ntmps52
  go_wp2
  rw [run_callFunc_extern Try.func70 (by kernel_rfl) (by kernel_rfl) (by kernel_rfl) (e := Extern.BytealgCompare.compare) (by kernel_rfl), HR.out]
  simp only [Result.andThen]
  rw [Oper.upon_value]
  go_wp2
  go_ret
  exact ⟨rfl, rfl⟩
end Go.Proofs.Ytpmfbfflacbmjac

/-
  tree.Check, as it landed, keeps P3.1.
-/
namespace Go.Proofs.Ytpmfbfflacbmjac
open Go.RowKit
set_option maxRecDepth 100000 in
set_option maxHeartbeats 1000000 in
theorem tcheck_ok : TCheckOK := by
  intro w v l hv hl
  obtain ⟨a, cap, rfl⟩ := hv.shape
  have hll := hl.len
  by_cases h60 : 60 < l.length
  · rw [pairsFault_long l h60]
    have t1 : (l.length : Int) > 60 := by omega
    go_enter Try.func58, Try.ntmps58
    go_wp2
    go_ret
    exact ⟨rfl, grown_refl _ _⟩
  · have t1 : ¬ (l.length : Int) > 60 := by omega
    go_enter Try.func58, Try.ntmps58
    go_wp2_with fail
    go_loopw [11] (fun i wr => ∃ m : Nat, m ≤ l.length ∧ i = .int .i64 (m : Int) ∧ w.grownBy wr none ∧ ∀ j, j < m → faultAt l j = 0) (fun i _ => l.length - (intOf i).toNat)
    case atStart => exact ⟨0, by omega, rfl, grown_refl _ _, fun j hj => by omega⟩
    case round =>
      obtain ⟨m, hm, rfl, hgr, hok⟩ := hrel
      have HOK : Hid (∀ j, j < m → faultAt l j = 0) := hok
      clear hok
      by_cases hlt : m < l.length
      · obtain ⟨b, o, rfl, hat⟩ := hv.at m hlt
        obtain ⟨vk, vv, c1, c2, s1, s2⟩ := hat.grown hgr
        generalize hP : l.getD m ([], []) = P at s1 s2
        have HA : Hid (faultAt l m = if pairFaultF P = 0 then (if 0 < m ∧ klt (l.getD (m - 1) ([], [])).1 P.1 = false then 3 else 0) else pairFaultF P) := by
          show _ = _
          unfold faultAt
          rw [hP]
        obtain ⟨ak, ck, rfl, hck, hrk⟩ := s1
        obtain ⟨av, cv, rfl, hcv, hrv⟩ := s2
        have s1 : SliceIs wr (.slice ak P.1.length ck) P.1 := ⟨ak, ck, rfl, hck, hrk⟩
        clear hrk hrv hat hP
        have i1 : (m : Int) < (l.length : Int) := by omega
        go_wp2_with fail
        have hga : wr.grownBy (wr.alloc (.cells #[.slice ak P.1.length ck, .slice av P.2.length cv] 80)) none := World.grownBy_alloc _ _ _
        refine (checkPair_any _ _ _ P _ _).mono ?_
        rintro e w1 ⟨rfl, hg1⟩
        have hg2 := grown_trans hga hg1
        obtain ⟨cA, _, _, _⟩ := pair_room hg1 (heap_alloc_new wr (.cells #[.slice ak P.1.length ck, .slice av P.2.length cv] 80))
        by_cases hf : pairFaultF P = 0
        · rw [hf]
          have s1 := s1.grown hg2
          have hgw := grown_trans hgr hg2
          clear c1 c2
          by_cases h0 : m = 0
          · subst h0
            have HZ : Hid (faultAt l 0 = 0) := by show _ = _; rw [HA.out, if_pos hf, if_neg (by simp)]
            go_wp2_with fail
            go_quiet (fail)
            all_goals go_wp2_with fail
            go_roundw
            case rel =>
              have hs : ∀ j, j < 0 + 1 → faultAt l j = 0 := fun j hj => by
                obtain rfl : j = 0 := by omega
                exact HZ.out
              exact ⟨1, by omega, rfl, grown_drewN hgw _, hs⟩
            case measure => simp [intOf]; omega
          · obtain ⟨n, rfl⟩ : ∃ n, m = n + 1 := ⟨m - 1, by omega⟩
            obtain ⟨b2, o2, e, hat⟩ := hv.at n (by omega)
            cases e
            obtain ⟨qk, qv, d1, d2, r1, r2⟩ := hat.grown hgw
            clear d2 r2 hat
            have HA2 : Hid (faultAt l (n + 1) = if klt (l.getD n ([], [])).1 P.1 = false then 3 else 0) := by
              show _ = _
              rw [HA.out, if_pos hf]
              simp
            generalize (l.getD n ([], [])).1 = q at *
            have i0 : IntKind.i64.wrap (n : Int) = (n : Int) := by rw [IntKind.wrap_i64]; omega
            have R1 : Hid (SliceIs w1 qk q) := r1
            have S1 : Hid (SliceIs w1 (.slice ak P.1.length ck) P.1) := s1
            have i2 : (n : Int) < (l.length : Int) := by omega
            have i3 : ((n + 1 : Nat) : Int) > 0 := by omega
            have hcr := cmpF_neg q P.1
            have CM : Hid (∀ k, Calls Try.prog 52 #[qk, .slice ak P.1.length ck] (w1.drewN k) fun e w' => e = .returned (.int .i64 (cmpF q P.1)) ∧ w' = w1.drewN k) := fun k => compare_any _ _ _ _ _ (R1.out.drewN k) (S1.out.drewN k)
            generalize cmpF q P.1 = z at *
            have HCR : Hid (decide (z < 0) = klt q P.1) := hcr
            clear s1 r1 hcr
            go_wp2_with fail
            go_quiet (first | (go_at_call 52; exact Calls.quiet_of_same (CM.out _)))
            cases hk : klt q P.1 with
            | true =>
              have HZ : Hid (faultAt l (n + 1) = 0) := by show _ = _; rw [HA2.out, hk]; simp
              have hz : z < 0 := by have := HCR.out; rw [hk] at this; simpa using this
              clear hk
              go_wp2_with fail
              go_roundw
              case rel =>
                have hs : ∀ j, j < n + 1 + 1 → faultAt l j = 0 := fun j hj => by
                  by_cases hjm : j = n + 1
                  · subst hjm; exact HZ.out
                  · exact HOK.out j (by omega)
                first
                  | exact ⟨n + 1 + 1, by omega, by go_num, grown_drewN hgw _, hs⟩
                  | ((repeat apply Exists.intro); refine ⟨⟨n + 1 + 1, by omega, ?_, grown_drewN hgw _, hs⟩, rfl⟩; go_num)
              case measure => simp [intOf]; omega
            | false =>
              have HZ : Hid (pairsFaultF l = 3) := by
                have e : faultAt l (n + 1) = 3 := by rw [HA2.out, hk]; simp
                show _ = _
                rw [← e]
                exact pairsFault_at l (n + 1) hlt (by omega) HOK.out (by rw [e]; decide)
              have hz : 0 ≤ z := by have := HCR.out; rw [hk] at this; simpa using this
              clear hk
              go_wp2
              go_ret
              exact ⟨by rw [HZ.out]; rfl, grown_drewN hgw _⟩
        · have HF : Hid (pairsFaultF l = pairFaultF P) := by
            have e : faultAt l m = pairFaultF P := by rw [HA.out, if_neg hf]
            show _ = _
            rw [← e]
            exact pairsFault_at l m hlt (by omega) HOK.out (by rw [e]; exact hf)
          generalize pairFaultF P = z at *
          have hz : (z != 0) = true := by simpa using hf
          go_wp2
          go_ret
          exact ⟨by rw [HF.out]; rfl, grown_trans hgr hg2⟩
      · obtain rfl : m = l.length := by omega
        have HP : Hid (pairsFaultF l = 0) := pairsFault_none l (by omega) HOK.out
        go_wp2
        go_ret
        exact ⟨by rw [HP.out]; rfl, hgr⟩
end Go.Proofs.Ytpmfbfflacbmjac
