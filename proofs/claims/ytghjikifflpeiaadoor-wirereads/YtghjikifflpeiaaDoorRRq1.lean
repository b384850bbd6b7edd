/-
  The document's answer: named, RequestFault.
-/
import Derived.Test.YtghjikifflpeiaaDoorRqBox
import Derived.Test.YtghjikifflpeiaaDoorRName
namespace Go.Proofs.YtghjikifflpeiaaDoor
open Go.RowKit
theorem named_any (k : Int) (w : World) : Calls Tryd.prog 33 #[.int .i64 k] w fun e w' => e = .returned (.bool (namedK k)) ∧ w' = w := by
  by_cases h : 2 ≤ k ∧ k ≤ 5
  · have HN : Hid (namedK k = true) := by show _ = _; rw [namedK, decide_eq_true h]; rfl
    have IN : Hid (Calls Tryd.prog 32 #[.int .i64 k, .int .i64 2, .int .i64 5] w fun e w' => e = .returned (.bool true) ∧ w' = w) := by
      have := in_any k 2 5 w
      rw [decide_eq_true h] at this
      exact this
    clear h
    generalize namedK k = z at *
    go_enter Tryd.func33, Tryd.ntmps33
    go_wp2_with fail
    refine IN.out.mono ?_
    rintro e w1 ⟨rfl, rfl⟩
    go_wp2
    go_ret
    exact ⟨by rw [HN.out]; rfl, rfl⟩
  · have HN : Hid (namedK k = (k == 8)) := by show _ = _; rw [namedK, decide_eq_false h]; exact (by rw [Bool.false_or]; rfl)
    have IN : Hid (Calls Tryd.prog 32 #[.int .i64 k, .int .i64 2, .int .i64 5] w fun e w' => e = .returned (.bool false) ∧ w' = w) := by
      have := in_any k 2 5 w
      rw [decide_eq_false h] at this
      exact this
    clear h
    generalize namedK k = z at *
    go_enter Tryd.func33, Tryd.ntmps33
    go_wp2_with fail
    refine IN.out.mono ?_
    rintro e w1 ⟨rfl, rfl⟩
    go_wp2
    go_ret
    exact ⟨by rw [HN.out]; rfl, rfl⟩
set_option maxRecDepth 100000 in
set_option maxHeartbeats 4000000 in
theorem requestFault_any (w : World) (v : Value) (r : Rq) (hv : RqIs w v r) (hf : RqFits r) :
    Calls Tryd.prog 11 #[v] w fun e w' => e = .returned (.int .i64 (reqE r)) ∧ w.grownBy w' none := by
  obtain ⟨n1, n2, k1, k2, l1, l2, v1, v2, rfl⟩ := hv.agg
  obtain ⟨W0, HW0, hg0, B0⟩ := alloc_namedR w (.cells #[.int .i64 r.kind, .slice n1 r.name.length n2, .slice k1 r.key.length k2, .slice l1 r.last.length l2, .slice v1 r.value.length v2] 24)
  obtain ⟨⟨c0, c1, c2, c3, c4⟩, hfz, _⟩ := five_room (grown_refl W0 none) B0.out
  clear hfz
  have IN : Hid (Calls Tryd.prog 32 #[.int .i64 r.kind, .int .i64 1, .int .i64 8] W0 fun e w' => e = .returned (.bool (decide (1 ≤ r.kind ∧ r.kind ≤ 8))) ∧ w' = W0) := in_any _ _ _ _
  have NA : Hid (Calls Tryd.prog 33 #[.int .i64 r.kind] W0 fun e w' => e = .returned (.bool (namedK r.kind)) ∧ w' = W0) := named_any _ _
  have NM : Hid (Calls Tryd.prog 34 #[.slice n1 r.name.length n2] W0 fun e w' => e = .returned (.int .i64 (nameFaultF r.name.length)) ∧ w' = W0) := nameFault_any _ _ _ _
  have KC : Hid (Calls Tryd.prog 35 #[.slice k1 r.key.length k2] W0 fun e w' => e = .returned (.int .i64 (keyFaultF r.key.length)) ∧ w' = W0) := keyFault_any _ _ _ _
  have LC : Hid (Calls Tryd.prog 35 #[.slice l1 r.last.length l2] W0 fun e w' => e = .returned (.int .i64 (keyFaultF r.last.length)) ∧ w' = W0) := keyFault_any _ _ _ _
  obtain ⟨Z, hZ⟩ : ∃ Z, Z = reqE r := ⟨_, rfl⟩
  have HZ : Hid (Z = if 1 ≤ r.kind ∧ r.kind ≤ 8 then (if rqParts r = 0 then (if 32 < r.value.length then 1 else rqForm r) else rqParts r) else 5) := hZ
  have HP : Hid (rqParts r = if namedK r.kind = true then (if nameFaultF r.name.length = 0 then (if keyFaultF r.key.length = 0 then (if r.kind = 3 then keyFaultF r.last.length else 0) else keyFaultF r.key.length) else nameFaultF r.name.length) else 0) := rfl
  have HF : Hid (rqForm r = if namedK r.kind = false ∧ 0 < r.name.length + r.key.length then 4 else if (r.kind ≠ 3 ∧ 0 < r.last.length) ∨ (r.kind ≠ 4 ∧ 0 < r.value.length) then 4 else 0) := rfl
  have h3N : r.kind = 3 → namedK r.kind = true := fun h => by rw [h]; decide
  have H3N : Hid (r.kind = 3 → namedK r.kind = true) := h3N
  rw [← hZ]
  obtain ⟨p0, p1, p2, p3, p4⟩ := hf
  clear hZ hv h3N p0
  generalize rqParts r = RP at *
  generalize rqForm r = RF at *
  generalize r.kind = K at *
  generalize r.name.length = n at *
  generalize r.key.length = q at *
  generalize r.last.length = l at *
  generalize r.value.length = x at *
  generalize nameFaultF n = NF at *
  generalize keyFaultF q = QF at *
  generalize keyFaultF l = LF at *
  generalize hNK : namedK K = NK at *
  clear hNK
  by_cases hk : 1 ≤ K ∧ K ≤ 8
  · rw [decide_eq_true hk] at IN
    have HZ1 : Hid (Z = if RP = 0 then (if 32 < x then 1 else RF) else RP) := by show _ = _; rw [HZ.out, if_pos hk]
    clear hk HZ
    go_enter Tryd.func11, Tryd.ntmps11
    go_upto_region 1 with fail
    rw [← HW0.out]
    obtain ⟨IB, hIB⟩ : ∃ IB, IB = w.heap.size := ⟨_, rfl⟩
    rw [← hIB] at B0 c0 c1 c2 c3 c4 ⊢
    clear hIB HW0
    go_wp2_with fail
    refine IN.out.mono ?_
    rintro e w1 ⟨rfl, hw⟩
    rw [hw]
    clear hw
    go_wp2_with fail
    refine NA.out.mono ?_
    rintro e w1 ⟨rfl, hw⟩
    rw [hw]
    clear hw
    cases NK with
    | true =>
      by_cases hN : NF = 0
      · have hNb : (NF == 0) = true := by simp [hN]
        by_cases hQ : QF = 0
        · have hQb : (QF == 0) = true := by simp [hQ]
          by_cases hk3 : K = 3
          · subst hk3
            have HP1 : Hid (RP = LF) := by show _ = _; rw [HP.out, if_pos rfl, if_pos hN, if_pos hQ, if_pos rfl]
            clear HP
            go_wp2_with fail
            refine NM.out.mono ?_
            rintro e w1 ⟨rfl, hw⟩
            rw [hw]
            clear hw
            go_wp2_with fail
            refine KC.out.mono ?_
            rintro e w1 ⟨rfl, hw⟩
            rw [hw]
            clear hw
            go_wp2_with fail
            refine LC.out.mono ?_
            rintro e w1 ⟨rfl, hw⟩
            rw [hw]
            clear hw
            by_cases hL : LF = 0
            · have hLb : (LF != 0) = false := by simp [hL]
              have HP0 : Hid (RP = 0) := by show _ = _; rw [HP1.out, hL]
              clear hL hN hQ HP1
              have HZ2 : Hid (Z = if 32 < x then 1 else RF) := by show _ = _; rw [HZ1.out, if_pos HP0.out]
              clear HZ1 NM KC LC IN
              by_cases h32 : 32 < x
              · have HR : Hid (Z = 1) := by show _ = _; rw [HZ2.out, if_pos h32]
                have i1 : (x : Int) > 32 := by omega
                clear h32
                go_wp2
                go_ret
                exact ⟨by rw [HR.out]; rfl, hg0⟩
              · have HZ3 : Hid (Z = RF) := by show _ = _; rw [HZ2.out, if_neg h32]
                have i1 : ¬ (x : Int) > 32 := by omega
                clear h32 HZ2
                have HF1 : Hid (RF = if ((3 : Int) ≠ 3 ∧ 0 < l) ∨ ((3 : Int) ≠ 4 ∧ 0 < x) then 4 else 0) := by show _ = _; rw [HF.out, if_neg (by simp)]
                go_wp2_with fail
                refine NA.out.mono ?_
                rintro e w1 ⟨rfl, hw⟩
                rw [hw]
                clear hw
                by_cases hx : 0 < x
                · have i3 : (x : Int) > 0 := by omega
                  have HR : Hid (Z = 4) := by show _ = _; rw [HZ3.out, HF1.out, if_pos (.inr ⟨by decide, hx⟩)]
                  clear hx
                  go_wp2
                  go_ret
                  exact ⟨by rw [HR.out]; rfl, hg0⟩
                · have i3 : ¬ (x : Int) > 0 := by omega
                  have HR : Hid (Z = 0) := by show _ = _; rw [HZ3.out, HF1.out, if_neg (by rintro (⟨h, _⟩ | ⟨_, h⟩); exact h rfl; exact hx h)]
                  clear hx
                  go_wp2
                  go_ret
                  exact ⟨by rw [HR.out]; rfl, hg0⟩
            · have hLb : (LF != 0) = true := by simp [hL]
              have HR : Hid (Z = LF) := by show _ = _; rw [HZ1.out, HP1.out, if_neg hL]
              clear hL hN hQ HP1
              go_wp2
              go_ret
              exact ⟨by rw [HR.out]; rfl, hg0⟩
          · have hk3b : (K == 3) = false := by simp [hk3]
            have hk3c : (K != 3) = true := by simp [hk3]
            have HP0 : Hid (RP = 0) := by show _ = _; rw [HP.out, if_pos rfl, if_pos hN, if_pos hQ, if_neg hk3]
            have hQc : (QF != 0) = false := by simp [hQ]
            clear HP hN hQ
            go_wp2_with fail
            refine NM.out.mono ?_
            rintro e w1 ⟨rfl, hw⟩
            rw [hw]
            clear hw
            go_wp2_with fail
            refine KC.out.mono ?_
            rintro e w1 ⟨rfl, hw⟩
            rw [hw]
            clear hw
            have HZ2 : Hid (Z = if 32 < x then 1 else RF) := by show _ = _; rw [HZ1.out, if_pos HP0.out]
            clear HZ1 NM KC LC IN
            by_cases h32 : 32 < x
            · have HR : Hid (Z = 1) := by show _ = _; rw [HZ2.out, if_pos h32]
              have i1 : (x : Int) > 32 := by omega
              clear h32
              go_wp2
              go_ret
              exact ⟨by rw [HR.out]; rfl, hg0⟩
            · have HZ3 : Hid (Z = RF) := by show _ = _; rw [HZ2.out, if_neg h32]
              have i1 : ¬ (x : Int) > 32 := by omega
              clear h32 HZ2
              have HF1 : Hid (RF = if (K ≠ 3 ∧ 0 < l) ∨ (K ≠ 4 ∧ 0 < x) then 4 else 0) := by show _ = _; rw [HF.out, if_neg (by simp)]
              go_wp2_with fail
              refine NA.out.mono ?_
              rintro e w1 ⟨rfl, hw⟩
              rw [hw]
              clear hw
              by_cases hl : 0 < l
              · have i3 : decide ((l : Int) > 0) = true := decide_eq_true (by omega)
                have i4 : (l : Int) > 0 := by omega
                have HR : Hid (Z = 4) := by show _ = _; rw [HZ3.out, HF1.out, if_pos (.inl ⟨hk3, hl⟩)]
                clear hl
                go_wp2
                go_ret
                exact ⟨by rw [HR.out]; rfl, hg0⟩
              · have i3 : decide ((l : Int) > 0) = false := decide_eq_false (by omega)
                have i4 : ¬ (l : Int) > 0 := by omega
                by_cases hk4 : K = 4
                · have hk4b : (K != 4) = false := by simp [hk4]
                  have HR : Hid (Z = 0) := by show _ = _; rw [HZ3.out, HF1.out, if_neg (by rintro (⟨_, h⟩ | ⟨h, _⟩); exact hl h; exact h hk4)]
                  clear hl hk4
                  go_wp2
                  go_ret
                  exact ⟨by rw [HR.out]; rfl, hg0⟩
                · have hk4b : (K != 4) = true := by simp [hk4]
                  by_cases hx : 0 < x
                  · have i5 : (x : Int) > 0 := by omega
                    have HR : Hid (Z = 4) := by show _ = _; rw [HZ3.out, HF1.out, if_pos (.inr ⟨hk4, hx⟩)]
                    clear hl hk4 hx
                    go_wp2
                    go_ret
                    exact ⟨by rw [HR.out]; rfl, hg0⟩
                  · have i5 : ¬ (x : Int) > 0 := by omega
                    have HR : Hid (Z = 0) := by show _ = _; rw [HZ3.out, HF1.out, if_neg (by rintro (⟨_, h⟩ | ⟨_, h⟩); exact hl h; exact hx h)]
                    clear hl hk4 hx
                    go_wp2
                    go_ret
                    exact ⟨by rw [HR.out]; rfl, hg0⟩
        · have hQb : (QF == 0) = false := by simp [hQ]
          have hQc : (QF != 0) = true := by simp [hQ]
          have HR : Hid (Z = QF) := by
            have : RP = QF := by rw [HP.out, if_pos rfl, if_pos hN, if_neg hQ]
            show _ = _; rw [HZ1.out, this, if_neg hQ]
          clear HP hN hQ
          go_wp2_with fail
          refine NM.out.mono ?_
          rintro e w1 ⟨rfl, hw⟩
          rw [hw]
          clear hw
          go_wp2_with fail
          refine KC.out.mono ?_
          rintro e w1 ⟨rfl, hw⟩
          rw [hw]
          clear hw
          go_wp2
          go_ret
          exact ⟨by rw [HR.out]; rfl, hg0⟩
      · have hNb : (NF == 0) = false := by simp [hN]
        have hNc : (NF != 0) = true := by simp [hN]
        have HR : Hid (Z = NF) := by
          have : RP = NF := by rw [HP.out, if_pos rfl, if_neg hN]
          show _ = _; rw [HZ1.out, this, if_neg hN]
        clear HP hN
        go_wp2_with fail
        refine NM.out.mono ?_
        rintro e w1 ⟨rfl, hw⟩
        rw [hw]
        clear hw
        go_wp2
        go_ret
        exact ⟨by rw [HR.out]; rfl, hg0⟩
    | false =>
      have hk3 : ¬ K = 3 := fun h => by have := H3N.out h; cases this
      have hk3b : (K == 3) = false := by simp [hk3]
      have hk3c : (K != 3) = true := by simp [hk3]
      have HP0 : Hid (RP = 0) := by show _ = _; rw [HP.out, if_neg (by simp)]
      clear HP
      have HZ2 : Hid (Z = if 32 < x then 1 else RF) := by show _ = _; rw [HZ1.out, if_pos HP0.out]
      clear HZ1 NM KC LC IN
      by_cases h32 : 32 < x
      · have HR : Hid (Z = 1) := by show _ = _; rw [HZ2.out, if_pos h32]
        have i1 : (x : Int) > 32 := by omega
        clear h32
        go_wp2
        go_ret
        exact ⟨by rw [HR.out]; rfl, hg0⟩
      · have HZ3 : Hid (Z = RF) := by show _ = _; rw [HZ2.out, if_neg h32]
        have i1 : ¬ (x : Int) > 32 := by omega
        clear h32 HZ2
        by_cases hnq : 0 < n + q
        · have HR : Hid (Z = 4) := by show _ = _; rw [HZ3.out, HF.out, if_pos ⟨rfl, hnq⟩]
          have i2 : (n : Int) + (q : Int) > 0 := by omega
          clear hnq
          go_wp2_with fail
          refine NA.out.mono ?_
          rintro e w1 ⟨rfl, hw⟩
          rw [hw]
          clear hw
          go_wp2
          go_ret
          exact ⟨by rw [HR.out]; rfl, hg0⟩
        · have HF1 : Hid (RF = if (K ≠ 3 ∧ 0 < l) ∨ (K ≠ 4 ∧ 0 < x) then 4 else 0) := by show _ = _; rw [HF.out, if_neg (fun h => hnq h.2)]
          have i2 : ¬ (n : Int) + (q : Int) > 0 := by omega
          clear hnq
          go_wp2_with fail
          refine NA.out.mono ?_
          rintro e w1 ⟨rfl, hw⟩
          rw [hw]
          clear hw
          by_cases hl : 0 < l
          · have i3 : decide ((l : Int) > 0) = true := decide_eq_true (by omega)
            have i4 : (l : Int) > 0 := by omega
            have HR : Hid (Z = 4) := by show _ = _; rw [HZ3.out, HF1.out, if_pos (.inl ⟨hk3, hl⟩)]
            clear hl
            go_wp2
            go_ret
            exact ⟨by rw [HR.out]; rfl, hg0⟩
          · have i3 : decide ((l : Int) > 0) = false := decide_eq_false (by omega)
            have i4 : ¬ (l : Int) > 0 := by omega
            by_cases hk4 : K = 4
            · have hk4b : (K != 4) = false := by simp [hk4]
              have HR : Hid (Z = 0) := by show _ = _; rw [HZ3.out, HF1.out, if_neg (by rintro (⟨_, h⟩ | ⟨h, _⟩); exact hl h; exact h hk4)]
              clear hl hk4
              go_wp2
              go_ret
              exact ⟨by rw [HR.out]; rfl, hg0⟩
            · have hk4b : (K != 4) = true := by simp [hk4]
              by_cases hx : 0 < x
              · have i5 : (x : Int) > 0 := by omega
                have HR : Hid (Z = 4) := by show _ = _; rw [HZ3.out, HF1.out, if_pos (.inr ⟨hk4, hx⟩)]
                clear hl hk4 hx
                go_wp2
                go_ret
                exact ⟨by rw [HR.out]; rfl, hg0⟩
              · have i5 : ¬ (x : Int) > 0 := by omega
                have HR : Hid (Z = 0) := by show _ = _; rw [HZ3.out, HF1.out, if_neg (by rintro (⟨_, h⟩ | ⟨_, h⟩); exact hl h; exact hx h)]
                clear hl hk4 hx
                go_wp2
                go_ret
                exact ⟨by rw [HR.out]; rfl, hg0⟩
  · rw [decide_eq_false hk] at IN
    have HR : Hid (Z = 5) := by show _ = _; rw [HZ.out, if_neg hk]
    clear hk HZ
    go_enter Tryd.func11, Tryd.ntmps11
    go_upto_region 1 with fail
    rw [← HW0.out]
    go_wp2_with fail
    refine IN.out.mono ?_
    rintro e w1 ⟨rfl, hw⟩
    rw [hw]
    clear hw
    go_wp2
    go_ret
    exact ⟨by rw [HR.out]; rfl, hg0⟩
end Go.Proofs.YtghjikifflpeiaaDoor
