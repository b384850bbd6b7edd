/-
  Texts of this proof, joined, with few blanks: LnCkP.
-/
import Derived.Test.YtpdbpagohccbpaaGreatDoorQ2
set_option maxRecDepth 100000
set_option maxHeartbeats 8000000
open Go.Proofs.Tryz renaming ntmps14->F,func14->G
namespace Go.Proofs.YtpdbpagohccbpaaGreatDoor
open Go.RowKit
theorem Io{k:Int}(s q:Int)(d:List UInt8)(h:¬(1<=k∧k<=4)):YM ⟨k,s,q,d⟩=5:=by
 rw[YM,if_neg h]
theorem FN:Wp:=by
 intro w v a r C;obtain⟨A,B,rfl,_⟩:=r.agg;obtain⟨t,b,f,m⟩:=Zi w (.cells #[.int .i64 a.kind,.int .i64 a.sess,.int .i64 a.keep,.slice A a.data.length B] 37);obtain⟨⟨u,x,y,z⟩,_⟩:=Qi (Qb t none) m.out;obtain⟨K,s,q,d⟩:=a;simp only at m u x y z b⊢;have i:=Is s q d;have j:=Az s q d;have c:=Cs 2 s q d (.inl rfl);have e:=Cs 4 s q d (.inr rfl);have k:¬(1<=K∧K<=4)->YM ⟨K,s,q,d⟩=5:=fun h=>Io s q d h;clear r C;generalize d.length=n at*;by_cases p:1<=K∧K<=4;·(have l:K=1∨K=2∨K=3∨K=4:=by omega);clear p;rcases l with rfl|rfl|rfl|rfl;(·have g:Hid (YM ⟨1,s,q,d⟩=_):=i;generalize YM ⟨1,s,q,d⟩=Z at*;clear i j c e k;by_cases g1:s<0<;>by_cases g2:s>=8<;>by_cases g3:(n:Int)>4000<;>cases g4:(q !=0);(all_goals try(exfalso;omega));all_goals go_enter G,F;go_upto_region 1with fail;rw[<-b.out];clear b;go_quiet(fail);go_wp2;go_ret;refine⟨?_,Qs f _⟩;rw[g.out];simp only[bne_eq_false_iff_eq,bne_iff_ne,ne_eq]at*;(repeat' split)<;>first|rfl|(exfalso;omega));(·have g:Hid (YM ⟨2,s,q,d⟩=_):=c;generalize YM ⟨2,s,q,d⟩=Z at*;clear i j c e k;by_cases g3:(n:Int)>4000<;>cases g5:(s !=0)<;>cases g4:(q !=0)<;>by_cases o:(n:Int)>0;(all_goals try(exfalso;omega));all_goals go_enter G,F;go_upto_region 1with fail;rw[<-b.out];clear b;go_quiet(fail);go_wp2;go_ret;refine⟨?_,Qs f _⟩;rw[g.out];simp only[bne_eq_false_iff_eq,bne_iff_ne,ne_eq]at*;(repeat' split)<;>first|rfl|(exfalso;omega));(·have g:Hid (YM ⟨3,s,q,d⟩=_):=j;generalize YM ⟨3,s,q,d⟩=Z at*;clear i j c e k;by_cases D:q<0<;>by_cases E:q>200000<;>by_cases g3:(n:Int)>4000<;>cases g5:(s !=0)<;>by_cases o:(n:Int)>0;(all_goals try(exfalso;omega));all_goals go_enter G,F;go_upto_region 1with fail;rw[<-b.out];clear b;go_quiet(fail);go_wp2;go_ret;refine⟨?_,Qs f _⟩;rw[g.out];simp only[bne_eq_false_iff_eq,bne_iff_ne,ne_eq]at*;(repeat' split)<;>first|rfl|(exfalso;omega));·have g:Hid (YM ⟨4,s,q,d⟩=_):=e;generalize YM ⟨4,s,q,d⟩=Z at*;clear i j c e k;by_cases g3:(n:Int)>4000<;>cases g5:(s !=0)<;>cases g4:(q !=0)<;>by_cases o:(n:Int)>0;(all_goals try(exfalso;omega));all_goals go_enter G,F;go_upto_region 1with fail;rw[<-b.out];clear b;go_quiet(fail);go_wp2;go_ret;refine⟨?_,Qs f _⟩;rw[g.out];simp only[bne_eq_false_iff_eq,bne_iff_ne,ne_eq]at*;(repeat' split)<;>first|rfl|(exfalso;omega)
 ·have g:Hid (YM ⟨K,s,q,d⟩=5):=k p;generalize YM ⟨K,s,q,d⟩=Z at*;clear i j c e k;by_cases g1:K<1<;>by_cases g2:K>4;(all_goals try(exfalso;omega));all_goals go_enter G,F;go_upto_region 1with fail;rw[<-b.out];clear b;go_quiet(fail);go_wp2;go_ret;refine⟨?_,Qs f _⟩;rw[g.out];(repeat' split)<;>first|rfl|(exfalso;omega)
end Go.Proofs.YtpdbpagohccbpaaGreatDoor
