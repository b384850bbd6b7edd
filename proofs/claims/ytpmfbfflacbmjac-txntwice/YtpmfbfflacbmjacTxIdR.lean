/-
  The walk of slices.IndexFunc at reads, whatever is asked of them.
-/
import Derived.Test.YtpmfbfflacbmjacPart2
import Derived.Test.YtpmfbfflacbmjacIdxF
namespace Go.Proofs.Ytpmfbfflacbmjac
open Go.RowKit
set_option maxRecDepth 100000 in
set_option maxHeartbeats 2000000 in
theorem indexR_any (w : World) (v : Value) (l : List Rd) (p : Rd → Bool) (g : Nat) (lb : Array Value) (eg : ∀ args w, (callFunc g args).run Try.prog w = .ok (.enter g args) w) (hv : ReadsIs w v l) (hl : l.length ≤ 140737488355328)
    (hp : ∀ W x r, w.grownBy W none → ReadIs W x r → Calls Try.prog g (#[x] ++ lb) W fun e w' => e = .returned (.bool (p r)) ∧ W.grownBy w' none) :
    Calls Try.prog 50 #[v, .func (.func g) #[] lb] w fun e w' => e = .returned (.int .i64 (firstP p l)) ∧ w.grownBy w' none := by
  obtain ⟨a, cap, rfl⟩ := hv.shape
  have HV : Hid (ReadsIs w (.slice a l.length cap) l) := hv
  have HP : Hid (∀ W x r, w.grownBy W none → ReadIs W x r → Calls Try.prog g (#[x] ++ lb) W fun e w' => e = .returned (.bool (p r)) ∧ W.grownBy w' none) := hp
  obtain ⟨Z, hZ⟩ : ∃ Z, Z = firstP p l := ⟨_, rfl⟩
  have HZ1 : Hid (∀ m, m < l.length → (l.take m).any p = false → p (l.getD m noRd) = true → Z = (m : Int)) := fun m h1 h2 h3 => by rw [hZ]; exact firstP_hit p noRd l m h1 h2 h3
  have HZ2 : Hid (l.any p = false → Z = -1) := fun h => by rw [hZ]; exact firstP_none p l h
  rw [← hZ]
  clear hv hp hZ
  go_enter Try.func50, Try.ntmps50
  go_wp2_with fail
  go_loopw [5, 8] (fun _ i wr => ∃ m : Nat, m ≤ l.length ∧ i = .int .i64 (m : Int) ∧ (l.take m).any p = false ∧ w.grownBy wr none) (fun _ i _ => l.length - (intOf i).toNat)
  case atStart => exact ⟨0, by omega, rfl, by simp, grown_refl _ _⟩
  case round =>
    obtain ⟨m, hm, rfl, han, hg⟩ := hrel
    by_cases hlt : m < l.length
    · have i1 : (m : Int) < (l.length : Int) := by omega
      obtain ⟨b, o, rfl, u1, u2, u3, u4, u5, u6, ⟨c1, c2, c3, c4⟩, hr⟩ := reads_cells HV.out m hlt
      have z1 := hg.cell c1 (by simp)
      have z2 := hg.cell c2 (by simp)
      have z3 := hg.cell c3 (by simp)
      have z4 := hg.cell c4 (by simp)
      have hcall := HP.out wr _ _ hg (hr.grown hg)
      have HA : Hid ((l.take (m + 1)).any p = ((l.take m).any p || p (l.getD m noRd))) := any_takeS noRd p l m hlt
      have HZ3 : Hid (p (l.getD m noRd) = true → Z = (m : Int)) := fun h => HZ1.out m hlt han h
      have HAN : Hid ((l.take m).any p = false) := han
      clear han hr c1 c2 c3 c4
      have HC : Hid (Calls Try.prog g (#[.agg #[.slice u1 (l.getD m noRd).name.length u2, .slice u3 (l.getD m noRd).key.length u4, .bool (l.getD m noRd).wide, .slice u5 (l.getD m noRd).last.length u6]] ++ lb) wr fun e w' => e = .returned (.bool (p (l.getD m noRd))) ∧ wr.grownBy w' none) := hcall
      clear hcall
      generalize p (l.getD m noRd) = B at *
      generalize (l.getD m noRd).name.length = n1 at *
      generalize (l.getD m noRd).key.length = n2 at *
      generalize (l.getD m noRd).last.length = n3 at *
      generalize (l.getD m noRd).wide = g1 at *
      cases B with
      | true =>
        have HZ : Hid (Z = (m : Int)) := HZ3.out rfl
        clear HZ3 HA
        go_wp2_with fail
        refine HC.out.mono ?_
        rintro e w2 ⟨rfl, hg2⟩
        go_wp2
        go_ret
        exact ⟨ret_intX HZ.out, grown_trans hg hg2⟩
      | false =>
        have HN : Hid ((l.take (m + 1)).any p = false) := by show _ = _; rw [HA.out, HAN.out]; rfl
        clear HZ3 HA
        go_wp2_with fail
        refine HC.out.mono ?_
        rintro e w2 ⟨rfl, hg2⟩
        go_wp2_with fail
        go_roundw
        case rel => exact ⟨m + 1, by omega, by go_num, HN.out, grown_trans hg hg2⟩
        case measure => simp [intOf]; omega
    · obtain rfl : m = l.length := by omega
      have i1 : ¬ (l.length : Int) < (l.length : Int) := by omega
      rw [List.take_length] at han
      have HZ : Hid (Z = -1) := HZ2.out han
      clear han
      go_wp2
      go_ret
      exact ⟨ret_intX HZ.out, hg⟩
end Go.Proofs.Ytpmfbfflacbmjac
