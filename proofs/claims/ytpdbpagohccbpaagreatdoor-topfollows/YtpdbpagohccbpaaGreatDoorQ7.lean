/-
  Texts of this proof, joined, with few blanks: Len16, PartP.
-/
import Derived.Lib.Slices
import Derived.Lib.Small
import Derived.Lib.Walk
import Derived.Lib.BitFns
import Derived.Test.YtpdbpagohccbpaaGreatDoorQ3
set_option maxRecDepth 100000
set_option maxHeartbeats 8000000
open Go.Lib renaming bitLen->tA,len8tab->tB,bitLen_le8'->tE
open Nat renaming testBit_xor->tC,xor_lt_two_pow->tD,lt_trans->tF
namespace Go.Proofs.YtpdbpagohccbpaaGreatDoor
open Go.RowKit
theorem OH(i:Int)(h0:0<=i)(h1:i<=255)(h:i.toNat<tB.size):((tB[i.toNat]'h).toNat:Int)=(tA i.toNat:Int):=by
 rw[<-Lib.len8_of i h0 h1];simp only[Lib.len8,ByteArray.getElem?_lt' _ _ h,Option.getD_some]
theorem Ha(x:Int)(w:World)(h0:0<=x)(h1:x<=65535):Calls Tryz.prog 146 #[.int .u16 x] w fun e w'=>e=.returned (.int .i64 (tA x.toNat))∧w'=w:=by
 have a:=Lib.len8tab_size;by_cases b:256<=x;·(have q:0<=x/256∧x/256<(tB.size:Int):=by omega);have l:=tE (x/256) (by omega) (by omega);have s:=Lib.bitLen_shift8 x.toNat (by omega) (by omega);have T:=OH (x/256) q.1 (by omega) (by omega);go_enter Tryz.func146,Tryz.ntmps146;go_wp2;go_ret;refine⟨congrArg Ending.returned (congrArg (Value.int IntKind.i64) ?_),rfl⟩;(have e:(x/256).toNat=x.toNat/256:=by omega);rw[e];omega
 ·(have q:0<=x∧x<(tB.size:Int):=by omega);have l:=tE x (by omega) (by omega);have T:=OH x q.1 (by omega) (by omega);go_enter Tryz.func146,Tryz.ntmps146;go_wp2;go_ret;exact⟨rfl,rfl⟩
theorem Bv:∀n:Fin 512,n.val≠0->1<=tA n.val∧tA n.val<=9∧n.val.testBit (tA n.val-1)=true∧∀j:Fin 9,tA n.val<=j.val->n.val.testBit j.val=false:=by
 decide+kernel
theorem Be(a b:List UInt8)(p:Nat)(hp:p<16)(h:∀q,q<p->Zf a q=Zf b q)(hd:Zf a p^^^Zf b p≠0):Jv a b=((9*p+9-tA (Zf a p^^^Zf b p):Nat):Int)∧1<=tA (Zf a p^^^Zf b p)∧tA (Zf a p^^^Zf b p)<=9:=by
 have k:Zf a p^^^Zf b p<512:=tD (n:=9) (Uu a p) (Uu b p);obtain⟨d,f,c,g⟩:=Bv ⟨_,k⟩ hd;simp only at d f c g;generalize hL:tA (Zf a p^^^Zf b p)=L at d f c g;refine⟨M8 a b _ (by omega) (fun j l=>?_) ?_,d,f⟩;·rw[Ky,Ky];by_cases i:j/9<p;(·rw[h _ i]);·(have e:j/9=p:=by omega);have:=g ⟨8-j%9,by omega⟩ (by simp only;omega);simp only[tC]at this;rw[e];revert this;cases(Zf a p).testBit (8-j%9)<;>cases(Zf b p).testBit (8-j%9)<;>simp
 ·rw[Ky,Ky,show(9*p+9-L)/9=p by omega,show 8-(9*p+9-L)%9=L-1by omega];rw[tC]at c;intro e;rw[e]at c;simp at c
theorem Ah(a b:List UInt8)(h:∀q,q<max a.length b.length->Zf a q=Zf b q):Jv a b=-1:=by
 refine Th a b fun j _=>?_;rw[Ky,Ky];by_cases c:j/9<max a.length b.length;·rw[h _ c]
 ·rw[Zf,if_neg (by omega),Zf,if_neg (by omega)]
theorem dQ(x y:Nat)(h:x^^^y=0):x=y:=by
 apply Nat.eq_of_testBit_eq;intro i;have:=congrArg (·.testBit i) h;simp only[tC,Nat.zero_testBit]at this;revert this;cases x.testBit i<;>cases y.testBit i<;>simp
theorem Sy:Re:=by
 intro w v u a b A z;obtain⟨S,p,rfl,J,l⟩:=A;have A:Qe w (.slice S a.length p) a:=⟨S,p,rfl,J,l⟩;obtain⟨R,o,rfl,H,k⟩:=z;have z:Qe w (.slice R b.length o) b:=⟨R,o,rfl,H,k⟩;clear l k;by_cases s:1<=a.length∧a.length<=16;·by_cases y:1<=b.length∧b.length<=16;(·rw[FH,if_pos s,if_pos y];go_enter Tryz.func138,Tryz.ntmps138;go_wp2_with fail;refine(YD _ _ _ _).mono ?_;rintro e T⟨rfl,d⟩;rw[Qn,if_pos s];go_wp2_with fail;refine(YD _ _ _ _).mono ?_;rintro e U⟨rfl,h⟩;rw[Qn,if_pos y];have E:=Qa d h;have I:=A.grown E;have G:=z.grown E;obtain⟨M,N⟩:∃M:Nat,M=max a.length b.length:=⟨_,rfl⟩;(have O:M<=16:=by omega);(have B:Hid (max (a.length:Int) (b.length:Int)=(M:Int)):=by show max (a.length:Int) (b.length:Int)=(M:Int);omega);have W:Hid (M=max a.length b.length):=N;clear A z d h N;go_wp2_with fail;rw[B.out];go_loopw[21](fun K wr=>∃m:Nat,m<=M∧K=.int .i64 (m:Int)∧U.grownBy wr none∧∀q,q<m->Zf a q=Zf b q)(fun K _=>M-(intOf K).toNat);(case atStart=>exact⟨0,by omega,rfl,Qb _ _,fun j Z=>by omega⟩);case round=>obtain⟨m,hm,rfl,f,g⟩:=hrel;have c:Hid (∀j,j<m->Zf a j=Zf b j):=g;have t:=Qa E f;have l:=I.grown f;have k:=G.grown f;clear g;by_cases aa:m<M;(·(have t1:(m:Int)<(M:Int):=by omega);go_wp2_with fail;refine(Pc _ _ _ m l).mono ?_;rintro e w3⟨rfl,i⟩;go_wp2_with fail;refine(Pc _ _ _ m (k.grown i)).mono ?_;rintro e w4⟨rfl,r⟩;have hx:=aZ (Zf a m) (Zf b m) (tF (Uu a m) (by decide)) (tF (Uu b m) (by decide));have ad:Zf a m^^^Zf b m<512:=tD (n:=9) (Uu a m) (Uu b m);by_cases D:Zf a m^^^Zf b m=0;(·have V:Hid (Zf a m=Zf b m):=dQ _ _ D;rw[D]at hx;go_wp2_with fail;go_roundw;(case rel=>(have Q:∀j,j<m+1->Zf a j=Zf b j:=fun j Z=>by by_cases F:j=m;(·subst F;exact V.out);·exact c.out j (by omega));first|exact⟨m+1,by omega,by go_num,Qa f (Qa i r),Q⟩|((repeat apply Exists.intro);refine⟨⟨m+1,by omega,?_,Qa f (Qa i r),Q⟩,rfl⟩;go_num));case measure=>simp[intOf];omega);·obtain⟨P,X,Y⟩:=Be a b m (by omega) c.out D;have C:Hid (Jv a b=_):=P;clear P;generalize Zf a m^^^Zf b m=x at*;(have ac:((x:Int)!=0)=true:=by simp;omega);go_wp2_with fail;refine(Ha (x:Int) _ (by omega) (by omega)).mono ?_;rintro e w5⟨rfl,rfl⟩;rw[show((x:Int)).toNat=x from rfl];generalize tA x=L at*;go_wp2;go_ret2;refine⟨?_,Qa t (Qa i r)⟩;rw[C.out,show((9*m+9-L:Nat):Int)=(m:Int)*9+9-(L:Int)by omega];rfl);·(obtain rfl:m=M:=by omega);have C:Hid (Jv a b=-1):=Ah a b (by rw[<-W.out];exact c.out);go_wp2;go_ret2;exact⟨by rw[C.out];rfl,t⟩);·rw[FH,if_pos s,if_neg y];go_enter Tryz.func138,Tryz.ntmps138;go_wp2_with fail;refine(YD _ _ _ _).mono ?_;rintro e T⟨rfl,d⟩;rw[Qn,if_pos s];go_wp2_with fail;refine(YD _ _ _ _).mono ?_;rintro e U⟨rfl,h⟩;rw[Qn,if_neg y];go_wp2;go_ret2;exact⟨rfl,Qa d h⟩
 ·rw[FH,if_neg s];go_enter Tryz.func138,Tryz.ntmps138;go_wp2_with fail;refine(YD _ _ _ _).mono ?_;rintro e T⟨rfl,d⟩;rw[Qn,if_neg s];go_wp2;go_ret2;exact⟨rfl,d⟩
end Go.Proofs.YtpdbpagohccbpaaGreatDoor
