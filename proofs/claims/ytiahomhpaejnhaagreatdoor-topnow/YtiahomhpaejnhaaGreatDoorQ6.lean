/-
  Texts of this proof, joined, with few blanks: TPairP, TSameP.
-/
import Derived.Test.YtiahomhpaejnhaaGreatDoorQ2
set_option maxRecDepth 100000
set_option maxHeartbeats 8000000
namespace Go.Proofs.YtiahomhpaejnhaaGreatDoor
open Go.RowKit
theorem G6(w:World)(ak av:Option Addr)(p:Pr)(ck cv:Nat):Calls Tryz.prog 49 #[.agg #[.slice ak p.1.length ck,.slice av p.2.length cv]] w fun e w'=>e=.returned (.int .i64 (QU p))∧w.grownBy w' none:=by
 by_cases h:32<p.2.length;·rw[QU,if_pos h];(have c:(p.2.length:Int)>32:=by omega);go_enter Tryz.func49,Tryz.ntmps49;go_wp2;go_ret;exact⟨rfl,World.grownBy_alloc _ _ _⟩
 ·rw[QU,if_neg h];(have c:¬(p.2.length:Int)>32:=by omega);have b:Hid TO:=YZ;go_enter Tryz.func49,Tryz.ntmps49;go_wp2_with fail;refine(b.out _ _ _ _).mono ?_;rintro e d⟨rfl,a⟩;go_wp2;go_ret;exact⟨rfl,Qa (World.grownBy_alloc _ _ _) a⟩
theorem Ty(w:World)(v u:Value)(l:PL)(hv:Qo w v l)(hu:Qo w u l)(hl:l.length<=1000000):Calls Tryz.prog 14 #[v,u] w fun e w'=>e=.returned (.bool true)∧w.grownBy w' none:=by
 obtain⟨A,B,rfl⟩:=hv.shape;obtain⟨y,z,rfl⟩:=hu.shape;have m:Hid (Qo w (.slice A l.length B) l):=hv;have j:Hid (Qo w (.slice y l.length z) l):=hu;have x:((l.length:Int)!=(l.length:Int))=false:=by simp
 clear hv hu;go_enter Tryz.func14,Tryz.ntmps14;go_wp2_with fail;go_loopw[5](fun d C=>∃k:Nat,k<=l.length∧d=.int .i64 (k:Int)∧w.grownBy C none)(fun d _=>l.length-(intOf d).toNat);case atStart=>exact⟨0,Nat.zero_le _,rfl,Qb _ _⟩
 case round=>obtain⟨k,I,rfl,c⟩:=hrel;clear x;by_cases a:k<l.length;(·(have t:(k:Int)<(l.length:Int):=by omega);obtain⟨b,o,rfl,M,N,E,F,h,i⟩:=(m.out.grown c).at k a;obtain⟨D,J,rfl,K,L,G,H,f,g⟩:=(j.out.grown c).at k a;have p:=fun n=>Kc (wr.drewN n) _ _ (h.drewN n);have q:=fun n=>Kc (wr.drewN n) _ _ (i.drewN n);have r:=fun n=>Kc (wr.drewN n) _ _ (f.drewN n);have s:=fun n=>Kc (wr.drewN n) _ _ (g.drewN n);clear h i f g;generalize l.getD k ([],[])=P at*;(have g1:((Vc P.1).toList==(Vc P.1).toList)=true:=by simp);(have g2:((Vc P.2).toList==(Vc P.2).toList)=true:=by simp);go_upto_region 6with fail;go_quiet(fail);go_wp2_with fail;go_roundw;(case rel=>exact⟨k+1,a,by go_num,Qr c _⟩);case measure=>simp[intOf];omega);·(obtain rfl:k=l.length:=by omega);(have t:¬((l.length:Int)<(l.length:Int)):=by omega);go_wp2_with fail;go_ret;exact⟨rfl,c⟩
end Go.Proofs.YtiahomhpaejnhaaGreatDoor
