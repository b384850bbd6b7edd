/-
  Texts of this proof, joined: LTens, LSameT.
-/
import Derived.Test.YtpmfbfflacbmjaaPart20
import Derived.Test.YtpmfbfflacbmjaaPart4
import Derived.Test.YtpmfbfflacbmjaaPart21
import Derived.Deep.RegionHeld3
import Derived.Deep.RegionWith
import Derived.Handy
/-
  The walks of canopylaw's tenants and sameTenants.
-/
namespace Go.Proofs.Ytpmfbfflacbmjaa
open Go.RowKit
set_option maxRecDepth 100000 in
theorem tenants_any (w : World) (v : Value) (l : FL) (hv : TensIs w v l) (hl : FitsT l) :
    Calls Try.prog 20 #[v] w fun e w' => ∃ v', e = .returned v' ∧ OwnT w.heap.size w' v' l ∧ w.grownBy w' none := by
  have FC : Hid (Calls Try.prog 51 #[v] w fun e w' => ∃ v', e = .returned v' ∧ OwnT w.heap.size w' v' l ∧ w.grownBy w' none) := forestCopy_any w v l hv hl
  clear hv hl
  go_enter Try.func20, Try.ntmps20
  go_wp2_with fail
  refine FC.out.mono ?_
  rintro e w1 ⟨v1, rfl, h1, hg1⟩
  go_wp2
  go_ret
  exact ⟨_, rfl, h1, hg1⟩
end Go.Proofs.Ytpmfbfflacbmjaa

/-
  The walk of canopylaw's sameTenants: tenants that are the same.
-/
namespace Go.Proofs.Ytpmfbfflacbmjaa
open Go.RowKit
set_option maxRecDepth 100000 in
set_option maxHeartbeats 2000000 in
theorem sameTenants_same (w : World) (v u : Value) (l : FL) (hv : TensIs w v l) (hu : TensIs w u l) (hl : FitsT l) :
    Calls Try.prog 27 #[v, u] w fun e w' => e = .returned (.bool true) ∧ w.grownBy w' none := by
  obtain ⟨a, cap, rfl⟩ := hv.shape
  obtain ⟨a2, cap2, rfl⟩ := hu.shape
  have hmany := hl.many
  have HF : Hid (FitsT l) := hl
  clear hl
  go_enter Try.func27, Try.ntmps27
  go_wp2_with fail
  go_loopw [5] (fun i wr => ∃ m : Nat, m ≤ l.length ∧ i = .int .i64 (m : Int) ∧ w.grownBy wr none) (fun i _ => l.length - (intOf i).toNat)
  case atStart => exact ⟨0, by omega, rfl, grown_refl _ _⟩
  case round =>
    obtain ⟨m, hm, rfl, hg⟩ := hrel
    by_cases hlt : m < l.length
    · obtain ⟨b, o, rfl, hat⟩ := hv.at m hlt
      obtain ⟨b2, o2, rfl, hat2⟩ := hu.at m hlt
      obtain ⟨vn, vp, c1, c2, s1, s2⟩ := hat.grown hg
      obtain ⟨un, up, d1, d2, r1, r2⟩ := hat2.grown hg
      obtain ⟨hl1, hl2⟩ := HF.out.each m hlt
      have hl2' := hl2.len
      generalize l.getD m ([], []) = P at *
      have SB : Hid (∀ w', wr.grownBy w' none → Calls Try.prog 57 #[vn, un] w' fun e w'' => e = .returned (.bool true) ∧ w'' = w') := fun w' hg' => by
        have := sameBytes_any w' vn un P.1 P.1 (s1.grown hg') (r1.grown hg')
        rw [decide_eq_true rfl] at this
        exact this
      have SP : Hid (∀ w', wr.grownBy w' none → Calls Try.prog 26 #[vp, up] w' fun e w'' => e = .returned (.bool true) ∧ w'.grownBy w'' none) := fun w' hg' => by
        have := samePairs_any w' vp up P.2 P.2 (s2.grown hg') (r2.grown hg') hl2'
        rw [decide_eq_true rfl] at this
        exact this
      obtain ⟨ak, ck, rfl⟩ := s1.shape
      obtain ⟨av, cv, rfl⟩ := s2.shape
      obtain ⟨bk, ek, rfl⟩ := r1.shape
      obtain ⟨bv, ev, rfl⟩ := r2.shape
      have i1 : (m : Int) < (l.length : Int) := by omega
      have hgd := grown_drew (grown_refl wr none)
      have e1 := hgd.cell c1 (by simp)
      have e2 := hgd.cell c2 (by simp)
      have e3 := hgd.cell d1 (by simp)
      have e4 := hgd.cell d2 (by simp)
      generalize P.1.length = n1 at *
      generalize P.2.length = n2 at *
      clear hat hat2 s1 s2 r1 r2 hl1 hl2 hl2'
      go_upto_region 6 with fail
      go_region_held3 (fun w' => w'.cell? ⟨b, o + m * 2, none⟩ = some (.slice ak n1 ck) ∧ w'.cell? ⟨b, o + m * 2 + 1, none⟩ = some (.slice av n2 cv) ∧ w'.cell? ⟨b2, o2 + m * 2, none⟩ = some (.slice bk n1 ek) ∧ w'.cell? ⟨b2, o2 + m * 2 + 1, none⟩ = some (.slice bv n2 ev))
        (first | with_reducible exact ⟨e1, e2, e3, e4⟩ | with_reducible exact ⟨f1, f2, f3, f4⟩)
        (first
          | (go_at_call 57; with_reducible refine (SB.out _ hgd).mono ?_; rintro e w2 ⟨rfl, rfl⟩)
          | (go_at_call 26; with_reducible refine (SP.out _ hgd).mono ?_; rintro e w2 ⟨rfl, hg2⟩; have hgd2 := grown_trans hgd hg2; have f1 := hgd2.cell c1 (by simp); have f2 := hgd2.cell c2 (by simp); have f3 := hgd2.cell d1 (by simp); have f4 := hgd2.cell d2 (by simp)))
      all_goals (
        go_wp2_with fail
        go_roundw
        case rel => exact ⟨m + 1, by omega, by go_num, grown_trans hg hgd2⟩
        case measure => simp [intOf]; omega)
    · obtain rfl : m = l.length := by omega
      go_wp2
      go_ret
      exact ⟨rfl, hg⟩
end Go.Proofs.Ytpmfbfflacbmjaa
