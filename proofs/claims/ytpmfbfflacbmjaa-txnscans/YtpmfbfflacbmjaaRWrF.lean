/-
  The walk of the document's answer to P5.4: writeFault.
-/
import Derived.Test.YtpmfbfflacbmjaaWrMem
import Derived.Test.YtpmfbfflacbmjaaPart16
namespace Go.Proofs.Ytpmfbfflacbmjaa
open Go.RowKit
set_option maxRecDepth 100000 in
set_option maxHeartbeats 2000000 in
theorem writeFault_any (w : World) (v : Value) (p : Plc) (hv : WriteIs w v p) :
    Calls Try.prog 36 #[v] w fun e w' => e = .returned (.int .i64 (writeE p)) ∧ w.grownBy w' none := by
  obtain ⟨na, nc, ka, kc, va, vc, rfl⟩ := hv.aggW
  obtain ⟨W1, hW1⟩ : ∃ W1 : World, W1 = w.alloc (.cells #[.slice na p.name.length nc, .slice ka p.key.length kc, .bool p.gone, .slice va p.value.length vc] 39) := ⟨_, rfl⟩
  have hgW : w.grownBy W1 none := by rw [hW1]; exact World.grownBy_alloc _ _ _
  have HW1 : Hid (W1 = w.alloc (.cells #[.slice na p.name.length nc, .slice ka p.key.length kc, .bool p.gone, .slice va p.value.length vc] 39)) := hW1
  obtain ⟨⟨a0, a1, a2, a3⟩, _⟩ := quad_room (grown_refl W1 none) (by rw [hW1]; exact heap_alloc_new w _ : W1.heap[w.heap.size]? = some (.cells #[.slice na p.name.length nc, .slice ka p.key.length kc, .bool p.gone, .slice va p.value.length vc] 39))
  have PFA : Hid (∀ w', Calls Try.prog 72 #[.agg #[.slice ka p.key.length kc, .slice va p.value.length vc]] w' fun e w'' => e = .returned (.int .i64 (pairFaultF (p.key, p.value))) ∧ w'.grownBy w'' none) := fun w' => rpairFault_any w' ka va (p.key, p.value) kc vc
  have HE : Hid (writeE p = if nameFaultF p.name.length = 0 then (if p.gone = true then (if keyFaultF p.key.length = 0 then (if 0 < p.value.length then 4 else 0) else keyFaultF p.key.length) else pairFaultF (p.key, p.value)) else nameFaultF p.name.length) := rfl
  generalize writeE p = WE at *
  generalize pairFaultF (p.key, p.value) = PF at *
  have NF : Hid (∀ w', Calls Try.prog 53 #[.slice na p.name.length nc] w' fun e w'' => e = .returned (.int .i64 (nameFaultF p.name.length)) ∧ w'' = w') := fun w' => nameFault_any w' na _ nc
  have KF : Hid (∀ w', Calls Try.prog 54 #[.slice ka p.key.length kc] w' fun e w'' => e = .returned (.int .i64 (keyFaultF p.key.length)) ∧ w'' = w') := fun w' => keyFault_any w' ka _ kc
  generalize nameFaultF p.name.length = NE at *
  generalize keyFaultF p.key.length = KE at *
  generalize p.name.length = n1 at *
  generalize p.key.length = n2 at *
  generalize p.value.length = n3 at *
  generalize p.gone = go at *
  clear hv hW1
  by_cases h1 : NE = 0
  · subst h1
    cases go with
    | true =>
      by_cases h2 : KE = 0
      · subst h2
        by_cases h3 : 0 < n3
        · obtain rfl : WE = 4 := by rw [HE.out]; simp [h3]
          have i3 : (n3 : Int) > 0 := by omega
          clear HE
          go_enter Try.func36, Try.ntmps36
          go_wp2_with fail
          rw [← HW1.out]
          refine (NF.out _).mono ?_
          rintro e w1 ⟨rfl, rfl⟩
          go_wp2_with fail
          refine (KF.out _).mono ?_
          rintro e w2 ⟨rfl, rfl⟩
          go_wp2
          go_ret
          exact ⟨rfl, hgW⟩
        · obtain rfl : WE = 0 := by rw [HE.out]; simp [h3]
          have i3 : ¬ ((n3 : Int) > 0) := by omega
          clear HE
          go_enter Try.func36, Try.ntmps36
          go_wp2_with fail
          rw [← HW1.out]
          refine (NF.out _).mono ?_
          rintro e w1 ⟨rfl, rfl⟩
          go_wp2_with fail
          refine (KF.out _).mono ?_
          rintro e w2 ⟨rfl, rfl⟩
          go_wp2
          go_ret
          exact ⟨rfl, hgW⟩
      · obtain rfl : WE = KE := by rw [HE.out]; simp [h2]
        have hz : (WE == 0) = false := by simpa using h2
        clear HE
        go_enter Try.func36, Try.ntmps36
        go_wp2_with fail
        rw [← HW1.out]
        refine (NF.out _).mono ?_
        rintro e w1 ⟨rfl, rfl⟩
        go_wp2_with fail
        refine (KF.out _).mono ?_
        rintro e w2 ⟨rfl, rfl⟩
        go_wp2
        go_ret
        exact ⟨rfl, hgW⟩
    | false =>
      obtain rfl : WE = PF := by rw [HE.out]; simp
      clear HE
      go_enter Try.func36, Try.ntmps36
      go_wp2_with fail
      rw [← HW1.out]
      refine (NF.out _).mono ?_
      rintro e w1 ⟨rfl, rfl⟩
      go_wp2_with fail
      refine (PFA.out _).mono ?_
      rintro e w2 ⟨rfl, hg2⟩
      go_wp2
      go_ret
      exact ⟨rfl, grown_trans hgW hg2⟩
  · obtain rfl : WE = NE := by rw [HE.out, if_neg h1]
    have hz : (WE == 0) = false := by simpa using h1
    clear HE
    go_enter Try.func36, Try.ntmps36
    go_wp2_with fail
    rw [← HW1.out]
    refine (NF.out _).mono ?_
    rintro e w1 ⟨rfl, rfl⟩
    go_wp2
    go_ret
    exact ⟨rfl, hgW⟩
end Go.Proofs.Ytpmfbfflacbmjaa
