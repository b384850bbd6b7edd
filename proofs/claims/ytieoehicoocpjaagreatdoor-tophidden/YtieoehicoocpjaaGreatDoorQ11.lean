/-
  Texts of this proof, joined, with few blanks: TSlDel, FirstF.
-/
import Derived.Deep.RegionLaw
import Derived.Test.YtieoehicoocpjaaGreatDoorQ4
import Derived.Test.YtieoehicoocpjaaGreatDoorQ6
set_option maxRecDepth 100000
set_option maxHeartbeats 8000000
open Go renaming sliced->I,World->O,Addr->X,Value->Y,Calls->b,yielded->k
open Go.Instr renaming slice->J
open Go.IntKind renaming i64->M
open Go.Proofs.Tryz renaming prog->B,ntmps153->T,func153->V
open Go.Region renaming wanted->P
open Go.Result renaming andThen->D
open Go.Value renaming slice->G,int->L
open Int renaming toNat_natCast->C
open List renaming take_append_of_le_length->N,drop_take->R,take_take->S
open Option renaming some->F,none->H,map->f
namespace Go.Proofs.YtieoehicoocpjaaGreatDoor
open Go.RowKit
theorem Vr(w:O):(sizeOf (B.elem 31)).run B w=.ok 2 w:=by
 kernel_rfl
theorem GI(g n cap i:Nat)(hi:i<=cap)(W:O):(J 31 (G (F ⟨g,0,H⟩) n cap) H (F (L M (i:Int))) H).run B W=.ok (G (F ⟨g,0,H⟩) i cap) W:=by
 rw[run_slice_h _ _ _ _ _ (by kernel_rfl) _ _ (by omega) (by omega),Vr];simp only[D,I,C,Nat.sub_zero];by_cases h:cap=0;·rw[if_pos h]
 ·rw[if_neg h];simp[Z4]
theorem Uk(g n cap j:Nat)(hj:j<=n):∃A:X,(j<cap->A=⟨g,j*2,H⟩)∧∀W,(J 31 (G (F ⟨g,0,H⟩) n cap) (F (L M (j:Int))) H H).run B W=.ok (G (F A) (n-j) (cap-j)) W:=by
 by_cases h:cap=j;·refine⟨⟨g,0,H⟩,fun h2=>by omega,fun W=>?_⟩;rw[run_slice_l _ _ _ _ _ (by kernel_rfl) _ _ (by omega) (by omega),Vr];simp only[D,I,C];rw[if_pos h]
 ·refine⟨⟨g,j*2,H⟩,fun _=>rfl,fun W=>?_⟩;rw[run_slice_l _ _ _ _ _ (by kernel_rfl) _ _ (by omega) (by omega),Vr];simp only[D,I,C];rw[if_neg h];simp[Z4]
theorem Pi(g n cap i j:Nat)(hij:i<=j)(hj:j<=cap):∃A:X,(i<cap->A=⟨g,i*2,H⟩)∧∀W,(J 31 (G (F ⟨g,0,H⟩) n cap) (F (L M (i:Int))) (F (L M (j:Int))) H).run B W=.ok (G (F A) (j-i) (cap-i)) W:=by
 by_cases h:cap=i;·refine⟨⟨g,0,H⟩,fun h2=>by omega,fun W=>?_⟩;rw[run_slice_lh _ _ _ _ _ (by kernel_rfl) _ _ _ _ (by omega) (by omega) (by omega),Vr];simp only[D,I,C];rw[if_pos h]
 ·refine⟨⟨g,i*2,H⟩,fun _=>rfl,fun W=>?_⟩;rw[run_slice_lh _ _ _ _ _ (by kernel_rfl) _ _ _ _ (by omega) (by omega) (by omega),Vr];simp only[D,I,C];rw[if_neg h];simp[Z4]
theorem Fx{ops:Array Oper}{o:Oper}{a:Act}{w:O}{K:Act->O->Prop}{Q:Exit->Act->O->Prop}{E:Prop}(hg:o.guard=H)(d x:Operand)(dT sT:TypeId)(hop:o.op=Op.call {callee:=Callee.builtin Builtin.append,args:=#[d,x],argTypes:=#[dT,sT]})(v u:Y)(hd:a.eval d=v)(hx:a.eval x=u){v':Y}{w':O}(hr:(Builtin.append_ #[dT,sT] o.type #[v,u]).run B w=.ok v' w')(hK:K (a.put o.dst v') w'):if P o (k ops a.tmps)=true then Oper.wp B o a w K Q else E:=by
 have hw:P o (k ops a.tmps)=true:=by simp[P,hg]
 rw[if_pos hw];unfold Oper.wp;simp[execOp,hop,resolve,invoke,builtin,hd,hx,hr,D];exact hK
theorem MC(w:O)(a:Option X)(n cap i:Nat)(hi:i<=n)(hn:n<=cap):b B 153 #[G a n cap,L M (i:Int),L M (i:Int)] w fun e w'=>e=.returned (G a n cap)∧w'=w:=by
 have hm:∀W,(J 31 (G a n cap) (F (L M (i:Int))) (F (L M (i:Int))) (F (L M (n:Int)))).run B W=.ok (I a i i n 2) W:=fun W=>by rw[run_slice_lhm _ _ _ _ _ (by kernel_rfl) _ _ _ _ _ _ (by omega) (by omega) (by omega) (by omega),Vr];simp only[D,C]
 go_enter V,T;go_wp2;all_goals(go_ret;exact⟨rfl,rfl⟩)
theorem DX(base:Nat)(w:O)(g:Nat)(all:List VP)(l:FL)(i:Nat)(hb:YY w g all)(hbase:base<=g)(hla:l.length<=all.length)(hm:all.length<=maxLen)(he:YP 0 w (all.take l.length) l)(hi:i<l.length)(hl:l.length<=1000):b B 153 #[G (F ⟨g,0,H⟩) l.length all.length,L M (i:Int),L M ((i+1:Nat):Int)] w fun e w'=>∃v',e=.returned v'∧Zz base w' v' (l.take i++l.drop (i+1))∧w.grownBy w' (F g):=by
 obtain⟨n,hn⟩:∃n,n=l.length:=⟨_,rfl⟩;obtain⟨cap,hcap⟩:∃cap,cap=all.length:=⟨_,rfl⟩;obtain⟨j,hj⟩:∃j,j=i+1:=⟨_,rfl⟩;rw[<-hn,<-hj];rw[<-hn]at he hla hi hl;have hmx:∃A c,∀W,(J 31 (G (F ⟨g,0,H⟩) n cap) (F (L M (i:Int))) (F (L M (j:Int))) (F (L M (n:Int)))).run B W=.ok (G A (j-i) c) W:=⟨if n=i then F ⟨g,0,H⟩else f (fun x:X=>x.add (i*2)) (F ⟨g,0,H⟩),n-i,fun W=>by rw[run_slice_lhm _ _ _ _ _ (by kernel_rfl) _ _ _ _ _ _ (by omega) (by omega) (by omega) (by omega),Vr];simp only[D,C,I]⟩;obtain⟨A0,c0,k0⟩:=hmx;have k1:=GI g n cap i (by omega);obtain⟨A2,hA2,k2⟩:=Uk g n cap j (by omega);obtain⟨A3,hA3,k3⟩:=Pi g (n-1) cap (n-1) n (by omega) (by omega);have AP:Hid (∀ty,(Builtin.append_ #[31,31] ty #[G (F ⟨g,0,H⟩) i cap,G (F A2) (n-j) (cap-j)]).run B w.drew=.ok (G (F ⟨g,0,H⟩) (n-1) cap) (JI w.drew g (all.take i++(all.drop j).take (n-j)++all.drop (n-1)))):=fun ty=>by(have hlen:((all.drop j).take (n-j)).length=n-j:=by simp;omega);have:=Fa w.drew g all ((all.drop j).take (n-j)) hb.drew ty i A2 (n-j) (cap-j) hlen (by by_cases hjc:j<cap;(·rw[hA2 hjc];exact hb.drew.cellsT j (n-j));·intro t u ht;rw[List.eq_nil_of_length_eq_zero (show((all.drop j).take (n-j)).length=0 by rw[hlen];omega)]at ht;simp[flat]at ht) (by omega) (by have h1:Ev (all.take n):=he.oneV;intro x hx;refine h1 x ?_;(have e:(all.drop j).take (n-j)=(all.take n).drop j:=by rw[R]);rw[e]at hx;exact List.mem_of_mem_drop hx);rw[<-hcap,show i+(n-j)=n-1by omega]at this;exact this
 obtain⟨all1,hall1⟩:∃all1,all1=all.take i++(all.drop j).take (n-j)++all.drop (n-1):=⟨_,rfl⟩;rw[<-hall1]at AP;have hb1:=hb.drew.set all1;have hlen1:all1.length=cap:=by rw[hall1];simp;omega
 obtain⟨W1,hW1⟩:∃W1,W1=JI w.drew g all1:=⟨_,rfl⟩;rw[<-hW1]at AP hb1;have CL:Hid (∀ty c,(Builtin.clear_ #[31] ty #[G (F A3) (n-(n-1)) c]).run B W1=.ok (.tuple #[]) (JI W1 g (all1.take (n-1)++[EY]++all1.drop (n-1+1)))):=fun ty c=>by rw[hA3 (by omega),show n-(n-1)=1by omega];exact Sz W1 g all1 hb1 ty (n-1) c (by omega)
 obtain⟨all2,hall2⟩:∃all2,all2=all1.take (n-1)++[EY]++all1.drop (n-1+1):=⟨_,rfl⟩;rw[<-hall2]at CL;have hlen2:all2.length=cap:=by rw[hall2];simp;omega
 have FIN:Hid (Zz base (JI W1 g all2) (G (F ⟨g,0,H⟩) (n-1) cap) (l.take i++l.drop j)∧w.grownBy (JI W1 g all2) (F g)):=by have hg:w.grownBy (JI W1 g all2) (F g):=Ye (by rw[hW1];exact Ye (XQ (Ql (Qb _ _))) (KU _ _ _)) (KU _ _ _);refine⟨?_,hg⟩;(have hlq:(l.take i++l.drop j).length=n-1:=by simp;omega);have:=vU (base:=base) (l:=l.take i++l.drop j) (hb1.set all2) hbase (by omega) (by omega) (by(have e:all2.take (l.take i++l.drop j).length=(all.take n).take i++(all.take n).drop j:=by rw[hlq,hall2,hall1];rw[List.append_assoc,N (by simp;omega),S,Nat.min_self,N (by simp;omega),List.take_of_length_le (by simp;omega),S,Nat.min_eq_left (by omega),R]);rw[e];exact((he.take i).append (he.drop j)).kept hg (hb.rowOf (Nat.zero_le _)));rw[hlq,hlen2]at this;exact this
 have u1:((i:Int)==(j:Int))=false:=by simp;omega
 have u2:n-1<=n:=by omega
 rw[<-hcap];have v1:j<=i+1:=by omega
 have v2:i+1<=j:=by omega
 have v3:n<=cap:=by omega
 have v4:cap<=maxLen:=by omega
 clear hall1 hall2 hA2 hA3 he hb hb1 hn hcap hj hW1 hlen1 hlen2 hm hla;go_enter V,T;go_wp2;go_region_law(refine Fx rfl _ _ 31 31 rfl _ _ (by simp[Act.eval,Act.put]) (by simp[Act.eval,Act.put]) (AP.out _) ?_);have CL':=CL.out;go_wp2;go_ret;exact⟨_,rfl,FIN.out.1,FIN.out.2⟩
theorem DG(base:Nat)(w:O)(v:Y)(l:FL)(i j:Nat)(h:Zz base w v l)(hij:j=i∨j=i+1)(hj:j<=l.length)(hl:l.length<=1000):b B 153 #[v,L M (i:Int),L M (j:Int)] w fun e w'=>∃v',e=.returned v'∧Zz base w' v' (l.take i++l.drop j)∧w.grownBy w' v.ownBlock:=by
 rcases hij with rfl|rfl;·obtain⟨a,cap,rfl⟩:=h.shape;(have hc:l.length<=cap:=by obtain⟨a',cap',e,hc,_⟩:=h.list;simp only[Value.slice.injEq]at e;obtain⟨_,_,rfl⟩:=e;exact hc);refine(MC w a l.length cap j hj hc).mono ?_;rintro e w'⟨rfl,rfl⟩;exact⟨_,rfl,by rw[List.take_append_drop];exact h,XQ (Qb _ _)⟩
 ·rcases h.elim with⟨_,rfl⟩|⟨g,all,rfl,hb,hg,h1,h2,h3⟩;(·simp at hj);·exact DX base w g all l i hb hg h1 h2 h3 (by omega) hl
def Yb(r:List UInt8):XA×Nat:=match XD Qo r with|F (c,_)=>(c,Zg r+6)|none=>(Zl,0)
theorem K8{r:List UInt8}(h:XD Qo r=H):Yb r=(Zl,0):=by
 unfold Yb;rw[h]
def Km(r:List UInt8):List UInt8:=(r.drop 2).take (Zg r)
theorem Tp{r:List UInt8}(h:Zg r+2<=r.length):(Km r).length=Zg r:=by
 unfold Km;rw[List.length_take,List.length_drop];omega
theorem Wr{r:List UInt8}(h:r.length<Zg r+2):Yb r=(Zl,0):=by
 refine K8 ?_;unfold XD;by_cases h6:r.length<6;·rw[if_pos h6]
 ·rw[if_neg h6,if_pos (.inl (by omega))]
theorem Bj{r:List UInt8}(h:r.length<2):Yb r=(Zl,0):=by
 refine K8 ?_;unfold XD;rw[if_pos (by omega)]
theorem Ic{r:List UInt8}(h:Yy (Km r)≠0):Yb r=(Zl,0):=by
 refine K8 ?_;unfold XD;by_cases h6:r.length<6;·rw[if_pos h6]
 ·rw[if_neg h6];by_cases h2:r.length<Zg r+6∨4000<Zg r+2;(·rw[if_pos h2]);·rw[if_neg h2];by_cases h3:Qo (r.take (Zg r+2))=(r.drop (Zg r+2)).take 4;(·rw[if_pos h3];exact if_neg h);·rw[if_neg h3]
theorem Bd{r:List UInt8}(h:¬Zg r+2<=4000):Yb r=(Zl,0):=by
 refine K8 ?_;unfold XD;by_cases h6:r.length<6;·rw[if_pos h6]
 ·rw[if_neg h6,if_pos (.inr (by omega))]
theorem Hh{r:List UInt8}(h:Zg r+2<=r.length):FP (Km r)=r.take (Zg r+2):=by
 have hl:=Tp h;unfold FP;rw[hl];unfold Km;match r,h with|x::y::r,h=>have hs:Zg (x::y::r)=256*x.toNat+y.toNat:=rfl;have hx:=x.toNat_lt;have hy:=y.toNat_lt;rw[show Zg (x::y::r)/256=x.toNat by rw[hs];omega,show Zg (x::y::r)%256=y.toNat by rw[hs];omega];simp|[x],h=>simp at h|[],h=>simp at h
theorem Aj(r:List UInt8)(n m:Nat):r.take (n+m)=r.take n++(r.drop n).take m:=List.take_add
theorem B9{r:List UInt8}(h:Zg r+2<=r.length)(h4:Zg r+2<=4000)(hd:Yy (Km r)=0):Yb r=if(ZY (Km r)).length<=r.length∧r.take (ZY (Km r)).length=ZY (Km r)then(JC (Km r),Zg r+6)else(Zl,0):=by
 have hl:=Tp h;have hw:(ZY (Km r)).length=Zg r+6:=by rw[kN,hl]
 have hb:=Hh h;rw[hw];by_cases h6:r.length<Zg r+6;·rw[if_neg (by omega)];refine K8 ?_;unfold XD;by_cases h66:r.length<6;(·rw[if_pos h66]);·rw[if_neg h66,if_pos (.inl h6)]
 ·(have ht:r.take (Zg r+6)=ZY (Km r)↔Qo (r.take (Zg r+2))=(r.drop (Zg r+2)).take 4:=by unfold ZY;rw[hb,show Zg r+6=Zg r+2+4by omega,Aj];constructor;(·intro e;exact(List.append_cancel_left e).symm);·intro e;rw[e]);unfold Yb XD;rw[if_neg (by omega),if_neg (by omega)];by_cases h3:Qo (r.take (Zg r+2))=(r.drop (Zg r+2)).take 4;(·have hd':Yy ((r.drop 2).take (Zg r))=0:=hd;have hc:Zg r+6<=r.length∧r.take (Zg r+6)=ZY (Km r):=⟨by omega,ht.2 h3⟩;rw[if_pos h3,if_pos hd',if_pos hc];rfl);·rw[if_neg h3,if_neg (fun e=>h3 (ht.1 e.2))]
theorem Bo(r:List UInt8):((Yb r).2=0∧Yb r=(Zl,0)∧XD Qo r=H)∨((Yb r).2=Zg r+6∧XD Qo r=F ((Yb r).1,r.drop (Yb r).2)∧(Yb r).2<=r.length):=by
 cases h:XD Qo r with|none=>left;rw[K8 h];exact⟨rfl,rfl,rfl⟩|some q=>obtain⟨c,r2⟩:=q;right;(have e:Yb r=(c,Zg r+6):=by unfold Yb;rw[h]);have h0:=h;unfold XD at h;by_cases h1:r.length<6;(·rw[if_pos h1]at h;cases h);rw[if_neg h1]at h;by_cases h2:r.length<Zg r+6∨4000<Zg r+2;(·rw[if_pos h2]at h;cases h);rw[if_neg h2]at h;by_cases h3:Qo (r.take (Zg r+2))=(r.drop (Zg r+2)).take 4;(·rw[if_pos h3]at h;by_cases h4:Yy ((r.drop 2).take (Zg r))=0;(·rw[if_pos h4]at h;simp only[Option.some.injEq,Prod.mk.injEq]at h;rw[e];refine⟨rfl,?_,?_⟩;(·rw[<-h.2]);·show Zg r+6<=r.length;omega);·rw[if_neg h4]at h;cases h);·rw[if_neg h3]at h;cases h
end Go.Proofs.YtieoehicoocpjaaGreatDoor
