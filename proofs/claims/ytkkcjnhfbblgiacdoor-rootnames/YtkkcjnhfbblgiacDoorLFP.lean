/-
  The contracts of forest.Root, Prove and Verify at forests, as canopykeep's laws use them.
-/
import Derived.Test.YtkkcjnhfbblgiacDoorLFK
import Derived.Test.YtkkcjnhfbblgiacDoorPart7
import Derived.Test.YtkkcjnhfbblgiacDoorPart13
import Derived.Test.YtkkcjnhfbblgiacDoorProofBut
import Derived.Test.YtkkcjnhfbblgiacDoorPart2
namespace Go.Proofs.YtkkcjnhfbblgiacDoor
open Go.RowKit
theorem FRootOK.of (hR : FRootOK) (w : World) (v : Value) (f : FL) (hv : TensIs w v f) (hF : Forest f) (ht : Tabs w) :
    Calls Tryd.prog 8 #[v] w fun e w' => ∃ xa xc, e = .returned (.tuple #[.slice xa 32 xc, .int .i64 0]) ∧ SliceIs w' (.slice xa 32 xc) (rootL (rootsF f)) ∧ w.grownBy w' none := by
  refine (hR w v f hv hF.fits ht).mono ?_
  rintro e w' ⟨x, rfl, hx, hg⟩
  rw [frootF, if_pos ((forest_iff f).2 hF)] at hx
  obtain ⟨xa, xc, rfl⟩ := hx.shape
  rw [rootL_len] at hx ⊢
  rw [(forest_iff f).2 hF]
  exact ⟨xa, xc, rfl, hx, hg⟩
theorem FProveOK.of (hP : FProveOK) (w : World) (v r u : Value) (f : FL) (n k : List UInt8) (hv : TensIs w v f) (hr : SliceIs w r n) (hu : SliceIs w u k) (hF : Forest f) (hn : 1 ≤ n.length ∧ n.length ≤ 8) (hk : 1 ≤ k.length ∧ k.length ≤ 16) (ht : Tabs w) :
    Calls Tryd.prog 9 #[v, r, u] w fun e w' => ∃ x y, e = .returned (.tuple #[x, y, .int .i64 0]) ∧ ProofIs w' x (proveL (rootsF f) n) ∧ ProofIs w' y (proveL (ofF f n) k) ∧ w.grownBy w' none := by
  obtain ⟨e1, e2, e3⟩ := fprove_ok hF n k hn hk
  have := hP w v r u f n k hv hr hu hF.fits (by omega) (by omega) ht
  rw [e1, e2, e3] at this
  exact this
theorem FVerifyOK.of (hV : FVerifyOK) (w : World) (r m u o i : Value) (f : FL) (n k : List UInt8) (hF : Forest f) (hn : 1 ≤ n.length ∧ n.length ≤ 8) (hk : 1 ≤ k.length ∧ k.length ≤ 16) (hr : SliceIs w r (rootL (rootsF f))) (hm : SliceIs w m n) (hu : SliceIs w u k) (ho : ProofIs w o (proveL (rootsF f) n)) (hi : ProofIs w i (proveL (ofF f n) k)) (ht : Tabs w) :
    Calls Tryd.prog 10 #[r, m, u, o, i] w fun e w' => ∃ xa xc, e = .returned (.tuple #[.agg #[.bool (getF (ofF f n) k).isSome, .slice xa ((getF (ofF f n) k).getD []).length xc], .int .i64 0]) ∧ SliceIs w' (.slice xa ((getF (ofF f n) k).getD []).length xc) ((getF (ofF f n) k).getD []) ∧ w.grownBy w' none := by
  obtain ⟨e1, e2, e3⟩ := fprove_holds hF n k hn hk _ rfl
  refine (hV w r m u o i _ n k _ _ hr hm hu ho hi (prove_fits (roots_tree hF) n) (prove_fits (of_tree hF n) k) ht).mono ?_
  rintro e w' ⟨x, rfl, hx, hg⟩
  rw [e3] at hx
  obtain ⟨xa, xc, rfl⟩ := hx.shape
  rw [e1, e2]
  exact ⟨xa, xc, rfl, hx, hg⟩
end Go.Proofs.YtkkcjnhfbblgiacDoor
