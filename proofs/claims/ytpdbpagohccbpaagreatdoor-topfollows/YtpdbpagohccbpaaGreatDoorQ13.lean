/-
  Texts of this proof, joined, with few blanks: TPairP.
-/
import Derived.Test.YtpdbpagohccbpaaGreatDoorQ2
set_option maxRecDepth 100000
set_option maxHeartbeats 8000000
namespace Go.Proofs.YtpdbpagohccbpaaGreatDoor
open Go.RowKit
theorem Gm(w:World)(ak av:Option Addr)(p:Pr)(ck cv:Nat):Calls Tryz.prog 113 #[.agg #[.slice ak p.1.length ck,.slice av p.2.length cv]] w fun e w'=>e=.returned (.int .i64 (QQ p))∧w.grownBy w' none:=by
 by_cases h:32<p.2.length;·rw[QQ,if_pos h];(have c:(p.2.length:Int)>32:=by omega);go_enter Tryz.func113,Tryz.ntmps113;go_wp2;go_ret;exact⟨rfl,World.grownBy_alloc _ _ _⟩
 ·rw[QQ,if_neg h];(have c:¬(p.2.length:Int)>32:=by omega);have b:Hid Fz:=YD;go_enter Tryz.func113,Tryz.ntmps113;go_wp2_with fail;refine(b.out _ _ _ _).mono ?_;rintro e d⟨rfl,a⟩;go_wp2;go_ret;exact⟨rfl,Qa (World.grownBy_alloc _ _ _) a⟩
end Go.Proofs.YtpdbpagohccbpaaGreatDoor
