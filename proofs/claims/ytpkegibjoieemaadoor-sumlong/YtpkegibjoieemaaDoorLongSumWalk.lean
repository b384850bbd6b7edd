/-
  The walk of canopykeep.SumLong.
-/
import Derived.Test.YtpkegibjoieemaaDoorKeep
namespace Go.Proofs.YtpkegibjoieemaaDoor
open Go.RowKit
set_option maxRecDepth 100000 in
set_option maxHeartbeats 1000000 in
theorem sumLong_walk (w : World) (v : Value) (bs : List UInt8) (n : Int) (hn0 : -9223372036854775808 ≤ n) (hn1 : n ≤ 9223372036854775807) (hv : SliceIs w v bs) (hl : bs.length ≤ maxLen) (ht : Tabs w) :
    Calls Tryd.prog 6 #[v, .int .i64 n] w fun e w' => e = .returned (.bool true) ∧ w.grownBy w' none := by
  have hs := some_any w v bs 600 (by omega) hv hl
  go_enter Tryd.func6, Tryd.ntmps6
  go_wp2_with fail
  refine hs.mono ?_
  rintro e w1 ⟨v1, rfl, ho1, hg1⟩
  clear hs hv
  go_wp2_with fail
  refine (sum_any w1 v1 _ ho1.slice (by simp; omega) (ht.grownNone hg1)).mono ?_
  rintro e w2 ⟨nb, _, rfl, _, hg2⟩
  have g2 := grown_trans hg1 hg2
  clear hg1 hg2 ho1
  go_wp2_with fail
  refine (picked_any n 400 _ hn0 hn1 (by omega) (by omega)).mono ?_
  rintro e w3 ⟨k, rfl, hk, rfl⟩
  have hmk := fun W => make_bytes W (k : Int) k rfl (by omega)
  have hmk2 := fun W => make_bytes W 4001 4001 rfl (by omega)
  go_wp2_with fail
  clear hmk
  have hb := (Bytes.new w3 5 (zeros k)).slice k (by simp [zeros_len])
  rw [zeros_len] at hb
  have g3 := grown_alloc g2 (.cells (bytesOf (zeros k)) 5)
  refine (sum_any _ _ _ hb (by rw [zeros_len]; omega) (ht.grownNone g3)).mono ?_
  rintro e w4 ⟨nb2, _, rfl, _, hg4⟩
  have g4 := grown_trans g3 hg4
  clear g2 g3 hg4 hb
  go_wp2_with fail
  refine (sum_long _ _ 4001 4001 (by omega)).mono ?_
  rintro e w5 ⟨rfl, rfl⟩
  go_wp2
  go_ret
  exact ⟨rfl, grown_alloc g4 _⟩
end Go.Proofs.YtpkegibjoieemaaDoor
