/-
  Texts of this proof, joined, with few blanks: TSlDel, FirstF.
-/
import Derived.Deep.RegionLaw
import Derived.Test.YtieoehicoocpjaaGreatDoorQ5
import Derived.Test.YtieoehicoocpjaaGreatDoorQ6
set_option maxRecDepth 100000
set_option maxHeartbeats 8000000
open Go renaming sliced->I,World->O,Addr->X,Value->Y,Calls->b,yielded->k
open Go.Instr renaming slice->J
open Go.IntKind renaming i64->M
open Go.Proofs.Tryz renaming prog->B,ntmps153->T,func153->V
open Go.Region renaming wanted->P
open Go.Result renaming andThen->D
open Go.Value renaming slice->G,int->L
open Int renaming toNat_natCast->C
open List renaming take_append_of_le_length->N,drop_take->R,take_take->S
open Option renaming some->F,none->H,map->f
namespace Go.Proofs.YtieoehicoocpjaaGreatDoor
open Go.RowKit
theorem Vn(w:O):(sizeOf (B.elem 31)).run B w=.ok 2 w:=by
 kernel_rfl
theorem Gr(g n cap i:Nat)(hi:i<=cap)(W:O):(J 31 (G (F ⟨g,0,H⟩) n cap) H (F (L M (i:Int))) H).run B W=.ok (G (F ⟨g,0,H⟩) i cap) W:=by
 rw[run_slice_h _ _ _ _ _ (by kernel_rfl) _ _ (by omega) (by omega),Vn];simp only[D,I,C,Nat.sub_zero];by_cases h:cap=0;·rw[if_pos h]
 ·rw[if_neg h];simp[Z7]
theorem Ui(g n cap j:Nat)(hj:j<=n):∃A:X,(j<cap->A=⟨g,j*2,H⟩)∧∀W,(J 31 (G (F ⟨g,0,H⟩) n cap) (F (L M (j:Int))) H H).run B W=.ok (G (F A) (n-j) (cap-j)) W:=by
 by_cases h:cap=j;·refine⟨⟨g,0,H⟩,fun h2=>by omega,fun W=>?_⟩;rw[run_slice_l _ _ _ _ _ (by kernel_rfl) _ _ (by omega) (by omega),Vn];simp only[D,I,C];rw[if_pos h]
 ·refine⟨⟨g,j*2,H⟩,fun _=>rfl,fun W=>?_⟩;rw[run_slice_l _ _ _ _ _ (by kernel_rfl) _ _ (by omega) (by omega),Vn];simp only[D,I,C];rw[if_neg h];simp[Z7]
theorem vJ(g n cap i j:Nat)(hij:i<=j)(hj:j<=cap):∃A:X,(i<cap->A=⟨g,i*2,H⟩)∧∀W,(J 31 (G (F ⟨g,0,H⟩) n cap) (F (L M (i:Int))) (F (L M (j:Int))) H).run B W=.ok (G (F A) (j-i) (cap-i)) W:=by
 by_cases h:cap=i;·refine⟨⟨g,0,H⟩,fun h2=>by omega,fun W=>?_⟩;rw[run_slice_lh _ _ _ _ _ (by kernel_rfl) _ _ _ _ (by omega) (by omega) (by omega),Vn];simp only[D,I,C];rw[if_pos h]
 ·refine⟨⟨g,i*2,H⟩,fun _=>rfl,fun W=>?_⟩;rw[run_slice_lh _ _ _ _ _ (by kernel_rfl) _ _ _ _ (by omega) (by omega) (by omega),Vn];simp only[D,I,C];rw[if_neg h];simp[Z7]
theorem P7{ops:Array Oper}{o:Oper}{a:Act}{w:O}{K:Act->O->Prop}{Q:Exit->Act->O->Prop}{E:Prop}(hg:o.guard=H)(d x:Operand)(dT sT:TypeId)(hop:o.op=Op.call {callee:=Callee.builtin Builtin.append,args:=#[d,x],argTypes:=#[dT,sT]})(v u:Y)(hd:a.eval d=v)(hx:a.eval x=u){v':Y}{w':O}(hr:(Builtin.append_ #[dT,sT] o.type #[v,u]).run B w=.ok v' w')(hK:K (a.put o.dst v') w'):if P o (k ops a.tmps)=true then Oper.wp B o a w K Q else E:=by
 have hw:P o (k ops a.tmps)=true:=by simp[P,hg]
 rw[if_pos hw];unfold Oper.wp;simp[execOp,hop,resolve,invoke,builtin,hd,hx,hr,D];exact hK
theorem N4(w:O)(a:Option X)(n cap i:Nat)(hi:i<=n)(hn:n<=cap):b B 153 #[G a n cap,L M (i:Int),L M (i:Int)] w fun e w'=>e=.returned (G a n cap)∧w'=w:=by
 have hm:∀W,(J 31 (G a n cap) (F (L M (i:Int))) (F (L M (i:Int))) (F (L M (n:Int)))).run B W=.ok (I a i i n 2) W:=fun W=>by rw[run_slice_lhm _ _ _ _ _ (by kernel_rfl) _ _ _ _ _ _ (by omega) (by omega) (by omega) (by omega),Vn];simp only[D,C]
 go_enter V,T;go_wp2;all_goals(go_ret;exact⟨rfl,rfl⟩)
theorem Dg(base:Nat)(w:O)(g:Nat)(all:List VP)(l:FL)(i:Nat)(hb:Y0 w g all)(hbase:base<=g)(hla:l.length<=all.length)(hm:all.length<=maxLen)(he:YV 0 w (all.take l.length) l)(hi:i<l.length)(hl:l.length<=1000):b B 153 #[G (F ⟨g,0,H⟩) l.length all.length,L M (i:Int),L M ((i+1:Nat):Int)] w fun e w'=>∃v',e=.returned v'∧Zy base w' v' (l.take i++l.drop (i+1))∧w.grownBy w' (F g):=by
 obtain⟨n,hn⟩:∃n,n=l.length:=⟨_,rfl⟩;obtain⟨cap,hcap⟩:∃cap,cap=all.length:=⟨_,rfl⟩;obtain⟨j,hj⟩:∃j,j=i+1:=⟨_,rfl⟩;rw[<-hn,<-hj];rw[<-hn]at he hla hi hl;have hmx:∃A c,∀W,(J 31 (G (F ⟨g,0,H⟩) n cap) (F (L M (i:Int))) (F (L M (j:Int))) (F (L M (n:Int)))).run B W=.ok (G A (j-i) c) W:=⟨if n=i then F ⟨g,0,H⟩else f (fun x:X=>x.add (i*2)) (F ⟨g,0,H⟩),n-i,fun W=>by rw[run_slice_lhm _ _ _ _ _ (by kernel_rfl) _ _ _ _ _ _ (by omega) (by omega) (by omega) (by omega),Vn];simp only[D,C,I]⟩;obtain⟨A0,c0,k0⟩:=hmx;have k1:=Gr g n cap i (by omega);obtain⟨A2,hA2,k2⟩:=Ui g n cap j (by omega);obtain⟨A3,hA3,k3⟩:=vJ g (n-1) cap (n-1) n (by omega) (by omega);have AP:Hid (∀ty,(Builtin.append_ #[31,31] ty #[G (F ⟨g,0,H⟩) i cap,G (F A2) (n-j) (cap-j)]).run B w.drew=.ok (G (F ⟨g,0,H⟩) (n-1) cap) (JI w.drew g (all.take i++(all.drop j).take (n-j)++all.drop (n-1)))):=fun ty=>by(have hlen:((all.drop j).take (n-j)).length=n-j:=by simp;omega);have:=Pu w.drew g all ((all.drop j).take (n-j)) hb.drew ty i A2 (n-j) (cap-j) hlen (by by_cases hjc:j<cap;(·rw[hA2 hjc];exact hb.drew.cellsT j (n-j));·intro t u ht;rw[List.eq_nil_of_length_eq_zero (show((all.drop j).take (n-j)).length=0 by rw[hlen];omega)]at ht;simp[flat]at ht) (by omega) (by have h1:RQ (all.take n):=he.oneV;intro x hx;refine h1 x ?_;(have e:(all.drop j).take (n-j)=(all.take n).drop j:=by rw[R]);rw[e]at hx;exact List.mem_of_mem_drop hx);rw[<-hcap,show i+(n-j)=n-1by omega]at this;exact this
 obtain⟨all1,hall1⟩:∃all1,all1=all.take i++(all.drop j).take (n-j)++all.drop (n-1):=⟨_,rfl⟩;rw[<-hall1]at AP;have hb1:=hb.drew.set all1;have hlen1:all1.length=cap:=by rw[hall1];simp;omega
 obtain⟨W1,hW1⟩:∃W1,W1=JI w.drew g all1:=⟨_,rfl⟩;rw[<-hW1]at AP hb1;have CL:Hid (∀ty c,(Builtin.clear_ #[31] ty #[G (F A3) (n-(n-1)) c]).run B W1=.ok (.tuple #[]) (JI W1 g (all1.take (n-1)++[Eo]++all1.drop (n-1+1)))):=fun ty c=>by rw[hA3 (by omega),show n-(n-1)=1by omega];exact AH W1 g all1 hb1 ty (n-1) c (by omega)
 obtain⟨all2,hall2⟩:∃all2,all2=all1.take (n-1)++[Eo]++all1.drop (n-1+1):=⟨_,rfl⟩;rw[<-hall2]at CL;have hlen2:all2.length=cap:=by rw[hall2];simp;omega
 have FIN:Hid (Zy base (JI W1 g all2) (G (F ⟨g,0,H⟩) (n-1) cap) (l.take i++l.drop j)∧w.grownBy (JI W1 g all2) (F g)):=by have hg:w.grownBy (JI W1 g all2) (F g):=Yj (by rw[hW1];exact Yj (XS (Qk (Qb _ _))) (KS _ _ _)) (KS _ _ _);refine⟨?_,hg⟩;(have hlq:(l.take i++l.drop j).length=n-1:=by simp;omega);have:=uV (base:=base) (l:=l.take i++l.drop j) (hb1.set all2) hbase (by omega) (by omega) (by(have e:all2.take (l.take i++l.drop j).length=(all.take n).take i++(all.take n).drop j:=by rw[hlq,hall2,hall1];rw[List.append_assoc,N (by simp;omega),S,Nat.min_self,N (by simp;omega),List.take_of_length_le (by simp;omega),S,Nat.min_eq_left (by omega),R]);rw[e];exact((he.take i).append (he.drop j)).kept hg (hb.rowOf (Nat.zero_le _)));rw[hlq,hlen2]at this;exact this
 have u1:((i:Int)==(j:Int))=false:=by simp;omega
 have u2:n-1<=n:=by omega
 rw[<-hcap];have v1:j<=i+1:=by omega
 have v2:i+1<=j:=by omega
 have v3:n<=cap:=by omega
 have v4:cap<=maxLen:=by omega
 clear hall1 hall2 hA2 hA3 he hb hb1 hn hcap hj hW1 hlen1 hlen2 hm hla;go_enter V,T;go_wp2;go_region_law(refine P7 rfl _ _ 31 31 rfl _ _ (by simp[Act.eval,Act.put]) (by simp[Act.eval,Act.put]) (AP.out _) ?_);have CL':=CL.out;go_wp2;go_ret;exact⟨_,rfl,FIN.out.1,FIN.out.2⟩
theorem M3(base:Nat)(w:O)(v:Y)(l:FL)(i j:Nat)(h:Zy base w v l)(hij:j=i∨j=i+1)(hj:j<=l.length)(hl:l.length<=1000):b B 153 #[v,L M (i:Int),L M (j:Int)] w fun e w'=>∃v',e=.returned v'∧Zy base w' v' (l.take i++l.drop j)∧w.grownBy w' v.ownBlock:=by
 rcases hij with rfl|rfl;·obtain⟨a,cap,rfl⟩:=h.shape;(have hc:l.length<=cap:=by obtain⟨a',cap',e,hc,_⟩:=h.list;simp only[Value.slice.injEq]at e;obtain⟨_,_,rfl⟩:=e;exact hc);refine(N4 w a l.length cap j hj hc).mono ?_;rintro e w'⟨rfl,rfl⟩;exact⟨_,rfl,by rw[List.take_append_drop];exact h,XS (Qb _ _)⟩
 ·rcases h.elim with⟨_,rfl⟩|⟨g,all,rfl,hb,hg,h1,h2,h3⟩;(·simp at hj);·exact Dg base w g all l i hb hg h1 h2 h3 (by omega) hl
def Yg(r:List UInt8):XA×Nat:=match XF Qj r with|F (c,_)=>(c,Zi r+6)|none=>(Zl,0)
theorem K5{r:List UInt8}(h:XF Qj r=H):Yg r=(Zl,0):=by
 unfold Yg;rw[h]
def Ki(r:List UInt8):List UInt8:=(r.drop 2).take (Zi r)
theorem FX{r:List UInt8}(h:Zi r+2<=r.length):(Ki r).length=Zi r:=by
 unfold Ki;rw[List.length_take,List.length_drop];omega
theorem LY{r:List UInt8}(h:r.length<Zi r+2):Yg r=(Zl,0):=by
 refine K5 ?_;unfold XF;by_cases h6:r.length<6;·rw[if_pos h6]
 ·rw[if_neg h6,if_pos (.inl (by omega))]
theorem Cr{r:List UInt8}(h:r.length<2):Yg r=(Zl,0):=by
 refine K5 ?_;unfold XF;rw[if_pos (by omega)]
theorem Hv{r:List UInt8}(h:YD (Ki r)≠0):Yg r=(Zl,0):=by
 refine K5 ?_;unfold XF;by_cases h6:r.length<6;·rw[if_pos h6]
 ·rw[if_neg h6];by_cases h2:r.length<Zi r+6∨4000<Zi r+2;(·rw[if_pos h2]);·rw[if_neg h2];by_cases h3:Qj (r.take (Zi r+2))=(r.drop (Zi r+2)).take 4;(·rw[if_pos h3];exact if_neg h);·rw[if_neg h3]
theorem Cl{r:List UInt8}(h:¬Zi r+2<=4000):Yg r=(Zl,0):=by
 refine K5 ?_;unfold XF;by_cases h6:r.length<6;·rw[if_pos h6]
 ·rw[if_neg h6,if_pos (.inr (by omega))]
theorem Ll{r:List UInt8}(h:Zi r+2<=r.length):Fh (Ki r)=r.take (Zi r+2):=by
 have hl:=FX h;unfold Fh;rw[hl];unfold Ki;match r,h with|x::y::r,h=>have hs:Zi (x::y::r)=256*x.toNat+y.toNat:=rfl;have hx:=x.toNat_lt;have hy:=y.toNat_lt;rw[show Zi (x::y::r)/256=x.toNat by rw[hs];omega,show Zi (x::y::r)%256=y.toNat by rw[hs];omega];simp|[x],h=>simp at h|[],h=>simp at h
theorem Bl(r:List UInt8)(n m:Nat):r.take (n+m)=r.take n++(r.drop n).take m:=List.take_add
theorem Bd{r:List UInt8}(h:Zi r+2<=r.length)(h4:Zi r+2<=4000)(hd:YD (Ki r)=0):Yg r=if(Z4 (Ki r)).length<=r.length∧r.take (Z4 (Ki r)).length=Z4 (Ki r)then(JB (Ki r),Zi r+6)else(Zl,0):=by
 have hl:=FX h;have hw:(Z4 (Ki r)).length=Zi r+6:=by rw[jT,hl]
 have hb:=Ll h;rw[hw];by_cases h6:r.length<Zi r+6;·rw[if_neg (by omega)];refine K5 ?_;unfold XF;by_cases h66:r.length<6;(·rw[if_pos h66]);·rw[if_neg h66,if_pos (.inl h6)]
 ·(have ht:r.take (Zi r+6)=Z4 (Ki r)↔Qj (r.take (Zi r+2))=(r.drop (Zi r+2)).take 4:=by unfold Z4;rw[hb,show Zi r+6=Zi r+2+4by omega,Bl];constructor;(·intro e;exact(List.append_cancel_left e).symm);·intro e;rw[e]);unfold Yg XF;rw[if_neg (by omega),if_neg (by omega)];by_cases h3:Qj (r.take (Zi r+2))=(r.drop (Zi r+2)).take 4;(·have hd':YD ((r.drop 2).take (Zi r))=0:=hd;have hc:Zi r+6<=r.length∧r.take (Zi r+6)=Z4 (Ki r):=⟨by omega,ht.2 h3⟩;rw[if_pos h3,if_pos hd',if_pos hc];rfl);·rw[if_neg h3,if_neg (fun e=>h3 (ht.1 e.2))]
theorem Cw(r:List UInt8):((Yg r).2=0∧Yg r=(Zl,0)∧XF Qj r=H)∨((Yg r).2=Zi r+6∧XF Qj r=F ((Yg r).1,r.drop (Yg r).2)∧(Yg r).2<=r.length):=by
 cases h:XF Qj r with|none=>left;rw[K5 h];exact⟨rfl,rfl,rfl⟩|some q=>obtain⟨c,r2⟩:=q;right;(have e:Yg r=(c,Zi r+6):=by unfold Yg;rw[h]);have h0:=h;unfold XF at h;by_cases h1:r.length<6;(·rw[if_pos h1]at h;cases h);rw[if_neg h1]at h;by_cases h2:r.length<Zi r+6∨4000<Zi r+2;(·rw[if_pos h2]at h;cases h);rw[if_neg h2]at h;by_cases h3:Qj (r.take (Zi r+2))=(r.drop (Zi r+2)).take 4;(·rw[if_pos h3]at h;by_cases h4:YD ((r.drop 2).take (Zi r))=0;(·rw[if_pos h4]at h;simp only[Option.some.injEq,Prod.mk.injEq]at h;rw[e];refine⟨rfl,?_,?_⟩;(·rw[<-h.2]);·show Zi r+6<=r.length;omega);·rw[if_neg h4]at h;cases h);·rw[if_neg h3]at h;cases h
end Go.Proofs.YtieoehicoocpjaaGreatDoor
