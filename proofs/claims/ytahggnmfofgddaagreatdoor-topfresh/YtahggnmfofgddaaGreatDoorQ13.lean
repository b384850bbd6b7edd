/-
  Texts of this proof, joined, with few blanks: TPairP.
-/
import Derived.Test.YtahggnmfofgddaaGreatDoorQ2
set_option maxRecDepth 100000
set_option maxHeartbeats 8000000
namespace Go.Proofs.YtahggnmfofgddaaGreatDoor
open Go.RowKit
theorem GW(w:World)(ak av:Option Addr)(p:Pr)(ck cv:Nat):Calls Tryz.prog 50 #[.agg #[.slice ak p.1.length ck,.slice av p.2.length cv]] w fun e w'=>e=.returned (.int .i64 (QN p))∧w.grownBy w' none:=by
 by_cases h:32<p.2.length;·rw[QN,if_pos h];(have t1:(p.2.length:Int)>32:=by omega);go_enter Tryz.func50,Tryz.ntmps50;go_wp2;go_ret;exact⟨rfl,World.grownBy_alloc _ _ _⟩
 ·rw[QN,if_neg h];(have t1:¬(p.2.length:Int)>32:=by omega);have CK:Hid Tq:=Yw;go_enter Tryz.func50,Tryz.ntmps50;go_wp2_with fail;refine(CK.out _ _ _ _).mono ?_;rintro e w1⟨rfl,hg1⟩;go_wp2;go_ret;exact⟨rfl,Qa (World.grownBy_alloc _ _ _) hg1⟩
end Go.Proofs.YtahggnmfofgddaaGreatDoor
