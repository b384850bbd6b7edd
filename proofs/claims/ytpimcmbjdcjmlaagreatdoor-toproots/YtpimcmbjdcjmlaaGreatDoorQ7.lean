/-
  Texts of this proof, joined, with few blanks: Len16, PartP.
-/
import Derived.Lib.Slices
import Derived.Lib.Small
import Derived.Lib.Walk
import Derived.Lib.BitFns
import Derived.Test.YtpimcmbjdcjmlaaGreatDoorQ3
set_option maxRecDepth 100000
set_option maxHeartbeats 8000000
open Go.Lib renaming bitLen->A,len8tab->B,bitLen_le8'->E
open Nat renaming testBit_xor->C,xor_lt_two_pow->D,lt_trans->F
namespace Go.Proofs.YtpimcmbjdcjmlaaGreatDoor
open Go.RowKit
theorem bW(i:Int)(h0:0<=i)(h1:i<=255)(h:i.toNat<B.size):((B[i.toNat]'h).toNat:Int)=(A i.toNat:Int):=by
 rw[<-Lib.len8_of i h0 h1];simp only[Lib.len8,ByteArray.getElem?_lt' _ _ h,Option.getD_some]
theorem WM(x:Int)(w:World)(h0:0<=x)(h1:x<=65535):Calls Tryz.prog 144 #[.int .u16 x] w fun e w'=>e=.returned (.int .i64 (A x.toNat))∧w'=w:=by
 have hs:=Lib.len8tab_size;by_cases hx:256<=x;·(have q:0<=x/256∧x/256<(B.size:Int):=by omega);have l:=E (x/256) (by omega) (by omega);have s:=Lib.bitLen_shift8 x.toNat (by omega) (by omega);have T:=bW (x/256) q.1 (by omega) (by omega);go_enter Tryz.func144,Tryz.ntmps144;go_wp2;go_ret;refine⟨congrArg Ending.returned (congrArg (Value.int IntKind.i64) ?_),rfl⟩;(have e:(x/256).toNat=x.toNat/256:=by omega);rw[e];omega
 ·(have q:0<=x∧x<(B.size:Int):=by omega);have l:=E x (by omega) (by omega);have T:=bW x q.1 (by omega) (by omega);go_enter Tryz.func144,Tryz.ntmps144;go_wp2;go_ret;exact⟨rfl,rfl⟩
theorem AO:∀n:Fin 512,n.val≠0->1<=A n.val∧A n.val<=9∧n.val.testBit (A n.val-1)=true∧∀j:Fin 9,A n.val<=j.val->n.val.testBit j.val=false:=by
 decide+kernel
theorem Aq(a b:List UInt8)(p:Nat)(hp:p<16)(h:∀q,q<p->Zj a q=Zj b q)(hd:Zj a p^^^Zj b p≠0):JH a b=((9*p+9-A (Zj a p^^^Zj b p):Nat):Int)∧1<=A (Zj a p^^^Zj b p)∧A (Zj a p^^^Zj b p)<=9:=by
 have hlt:Zj a p^^^Zj b p<512:=D (n:=9) (UG a p) (UG b p);obtain⟨h1,h2,h3,h4⟩:=AO ⟨_,hlt⟩ hd;simp only at h1 h2 h3 h4;generalize hL:A (Zj a p^^^Zj b p)=L at h1 h2 h3 h4;refine⟨D7 a b _ (by omega) (fun j hj=>?_) ?_,h1,h2⟩;·rw[KP,KP];by_cases hjp:j/9<p;(·rw[h _ hjp]);·(have e:j/9=p:=by omega);have:=h4 ⟨8-j%9,by omega⟩ (by simp only;omega);simp only[C]at this;rw[e];revert this;cases(Zj a p).testBit (8-j%9)<;>cases(Zj b p).testBit (8-j%9)<;>simp
 ·rw[KP,KP,show(9*p+9-L)/9=p by omega,show 8-(9*p+9-L)%9=L-1by omega];rw[C]at h3;intro e;rw[e]at h3;simp at h3
theorem Sm(a b:List UInt8)(h:∀q,q<max a.length b.length->Zj a q=Zj b q):JH a b=-1:=by
 refine T4 a b fun j _=>?_;rw[KP,KP];by_cases hj:j/9<max a.length b.length;·rw[h _ hj]
 ·rw[Zj,if_neg (by omega),Zj,if_neg (by omega)]
theorem iB(x y:Nat)(h:x^^^y=0):x=y:=by
 apply Nat.eq_of_testBit_eq;intro i;have:=congrArg (·.testBit i) h;simp only[C,Nat.zero_testBit]at this;revert this;cases x.testBit i<;>cases y.testBit i<;>simp
theorem LM:Ee:=by
 intro w v u a b hv hu;obtain⟨va,vcap,rfl,hvc,hvr⟩:=hv;have hv:Qe w (.slice va a.length vcap) a:=⟨va,vcap,rfl,hvc,hvr⟩;obtain⟨ua,ucap,rfl,huc,hur⟩:=hu;have hu:Qe w (.slice ua b.length ucap) b:=⟨ua,ucap,rfl,huc,hur⟩;clear hvr hur;by_cases ha:1<=a.length∧a.length<=16;·by_cases hb:1<=b.length∧b.length<=16;(·rw[Th,if_pos ha,if_pos hb];go_enter Tryz.func136,Tryz.ntmps136;go_wp2_with fail;refine(YK _ _ _ _).mono ?_;rintro e w1⟨rfl,hg1⟩;rw[Qn,if_pos ha];go_wp2_with fail;refine(YK _ _ _ _).mono ?_;rintro e w2⟨rfl,hg2⟩;rw[Qn,if_pos hb];have hg:=Qa hg1 hg2;have hv2:=hv.grown hg;have hu2:=hu.grown hg;obtain⟨M,hM⟩:∃M:Nat,M=max a.length b.length:=⟨_,rfl⟩;(have hM16:M<=16:=by omega);(have HMi:Hid (max (a.length:Int) (b.length:Int)=(M:Int)):=by show max (a.length:Int) (b.length:Int)=(M:Int);omega);have HM:Hid (M=max a.length b.length):=hM;clear hv hu hg1 hg2 hM;go_wp2_with fail;rw[HMi.out];go_loopw[21](fun iv wr=>∃m:Nat,m<=M∧iv=.int .i64 (m:Int)∧w2.grownBy wr none∧∀q,q<m->Zj a q=Zj b q)(fun iv _=>M-(intOf iv).toNat);(case atStart=>exact⟨0,by omega,rfl,Qb _ _,fun j hj=>by omega⟩);case round=>obtain⟨m,hm,rfl,hgr,hsame⟩:=hrel;have HSame:Hid (∀j,j<m->Zj a j=Zj b j):=hsame;have hgw:=Qa hg hgr;have hvr:=hv2.grown hgr;have hur:=hu2.grown hgr;clear hsame;by_cases hlt:m<M;(·(have t1:(m:Int)<(M:Int):=by omega);go_wp2_with fail;refine(PH _ _ _ m hvr).mono ?_;rintro e w3⟨rfl,hg3⟩;go_wp2_with fail;refine(PH _ _ _ m (hur.grown hg3)).mono ?_;rintro e w4⟨rfl,hg4⟩;have hx:=eD (Zj a m) (Zj b m) (F (UG a m) (by decide)) (F (UG b m) (by decide));have hxl:Zj a m^^^Zj b m<512:=D (n:=9) (UG a m) (UG b m);by_cases h0:Zj a m^^^Zj b m=0;(·have HE:Hid (Zj a m=Zj b m):=iB _ _ h0;rw[h0]at hx;go_wp2_with fail;go_roundw;(case rel=>(have hs:∀j,j<m+1->Zj a j=Zj b j:=fun j hj=>by by_cases hjm:j=m;(·subst hjm;exact HE.out);·exact HSame.out j (by omega));first|exact⟨m+1,by omega,by go_num,Qa hgr (Qa hg3 hg4),hs⟩|((repeat apply Exists.intro);refine⟨⟨m+1,by omega,?_,Qa hgr (Qa hg3 hg4),hs⟩,rfl⟩;go_num));case measure=>simp[intOf];omega);·obtain⟨hP,hL1,hL2⟩:=Aq a b m (by omega) HSame.out h0;have HP:Hid (JH a b=_):=hP;clear hP;generalize Zj a m^^^Zj b m=x at*;(have hx0:((x:Int)!=0)=true:=by simp;omega);go_wp2_with fail;refine(WM (x:Int) _ (by omega) (by omega)).mono ?_;rintro e w5⟨rfl,rfl⟩;rw[show((x:Int)).toNat=x from rfl];generalize A x=L at*;go_wp2;go_ret2;refine⟨?_,Qa hgw (Qa hg3 hg4)⟩;rw[HP.out,show((9*m+9-L:Nat):Int)=(m:Int)*9+9-(L:Int)by omega];rfl);·(obtain rfl:m=M:=by omega);have HP:Hid (JH a b=-1):=Sm a b (by rw[<-HM.out];exact HSame.out);go_wp2;go_ret2;exact⟨by rw[HP.out];rfl,hgw⟩);·rw[Th,if_pos ha,if_neg hb];go_enter Tryz.func136,Tryz.ntmps136;go_wp2_with fail;refine(YK _ _ _ _).mono ?_;rintro e w1⟨rfl,hg1⟩;rw[Qn,if_pos ha];go_wp2_with fail;refine(YK _ _ _ _).mono ?_;rintro e w2⟨rfl,hg2⟩;rw[Qn,if_neg hb];go_wp2;go_ret2;exact⟨rfl,Qa hg1 hg2⟩
 ·rw[Th,if_neg ha];go_enter Tryz.func136,Tryz.ntmps136;go_wp2_with fail;refine(YK _ _ _ _).mono ?_;rintro e w1⟨rfl,hg1⟩;rw[Qn,if_neg ha];go_wp2;go_ret2;exact⟨rfl,hg1⟩
end Go.Proofs.YtpimcmbjdcjmlaaGreatDoor
