/-
  Texts of this proof, joined, with few blanks: TSlDel, FirstF.
-/
import Derived.Deep.RegionLaw
import Derived.Test.YtpimcmbjdcjmlaaGreatDoorQ5
import Derived.Test.YtpimcmbjdcjmlaaGreatDoorQ6
set_option maxRecDepth 100000
set_option maxHeartbeats 8000000
open Go renaming sliced->I,World->O,Addr->X,Value->Y,Calls->b,yielded->k
open Go.Instr renaming slice->J
open Go.IntKind renaming i64->M
open Go.Proofs.Tryz renaming prog->B,ntmps114->T,func114->V
open Go.Region renaming wanted->P
open Go.Result renaming andThen->D
open Go.Value renaming slice->G,int->L
open Int renaming toNat_natCast->C
open List renaming take_append_of_le_length->N,drop_take->R,take_take->S
open Option renaming some->F,none->H,map->f
namespace Go.Proofs.YtpimcmbjdcjmlaaGreatDoor
open Go.RowKit
theorem Vu(w:O):(sizeOf (B.elem 44)).run B w=.ok 2 w:=by
 kernel_rfl
theorem GM(g n cap i:Nat)(hi:i<=cap)(W:O):(J 44 (G (F ⟨g,0,H⟩) n cap) H (F (L M (i:Int))) H).run B W=.ok (G (F ⟨g,0,H⟩) i cap) W:=by
 rw[run_slice_h _ _ _ _ _ (by kernel_rfl) _ _ (by omega) (by omega),Vu];simp only[D,I,C,Nat.sub_zero];by_cases h:cap=0;·rw[if_pos h]
 ·rw[if_neg h];simp[ZX]
theorem Uh(g n cap j:Nat)(hj:j<=n):∃A:X,(j<cap->A=⟨g,j*2,H⟩)∧∀W,(J 44 (G (F ⟨g,0,H⟩) n cap) (F (L M (j:Int))) H H).run B W=.ok (G (F A) (n-j) (cap-j)) W:=by
 by_cases h:cap=j;·refine⟨⟨g,0,H⟩,fun h2=>by omega,fun W=>?_⟩;rw[run_slice_l _ _ _ _ _ (by kernel_rfl) _ _ (by omega) (by omega),Vu];simp only[D,I,C];rw[if_pos h]
 ·refine⟨⟨g,j*2,H⟩,fun _=>rfl,fun W=>?_⟩;rw[run_slice_l _ _ _ _ _ (by kernel_rfl) _ _ (by omega) (by omega),Vu];simp only[D,I,C];rw[if_neg h];simp[ZX]
theorem Pk(g n cap i j:Nat)(hij:i<=j)(hj:j<=cap):∃A:X,(i<cap->A=⟨g,i*2,H⟩)∧∀W,(J 44 (G (F ⟨g,0,H⟩) n cap) (F (L M (i:Int))) (F (L M (j:Int))) H).run B W=.ok (G (F A) (j-i) (cap-i)) W:=by
 by_cases h:cap=i;·refine⟨⟨g,0,H⟩,fun h2=>by omega,fun W=>?_⟩;rw[run_slice_lh _ _ _ _ _ (by kernel_rfl) _ _ _ _ (by omega) (by omega) (by omega),Vu];simp only[D,I,C];rw[if_pos h]
 ·refine⟨⟨g,i*2,H⟩,fun _=>rfl,fun W=>?_⟩;rw[run_slice_lh _ _ _ _ _ (by kernel_rfl) _ _ _ _ (by omega) (by omega) (by omega),Vu];simp only[D,I,C];rw[if_neg h];simp[ZX]
theorem FM{ops:Array Oper}{o:Oper}{a:Act}{w:O}{K:Act->O->Prop}{Q:Exit->Act->O->Prop}{E:Prop}(hg:o.guard=H)(d x:Operand)(dT sT:TypeId)(hop:o.op=Op.call {callee:=Callee.builtin Builtin.append,args:=#[d,x],argTypes:=#[dT,sT]})(v u:Y)(hd:a.eval d=v)(hx:a.eval x=u){v':Y}{w':O}(hr:(Builtin.append_ #[dT,sT] o.type #[v,u]).run B w=.ok v' w')(hK:K (a.put o.dst v') w'):if P o (k ops a.tmps)=true then Oper.wp B o a w K Q else E:=by
 have hw:P o (k ops a.tmps)=true:=by simp[P,hg]
 rw[if_pos hw];unfold Oper.wp;simp[execOp,hop,resolve,invoke,builtin,hd,hx,hr,D];exact hK
theorem MX(w:O)(a:Option X)(n cap i:Nat)(hi:i<=n)(hn:n<=cap):b B 114 #[G a n cap,L M (i:Int),L M (i:Int)] w fun e w'=>e=.returned (G a n cap)∧w'=w:=by
 have hm:∀W,(J 44 (G a n cap) (F (L M (i:Int))) (F (L M (i:Int))) (F (L M (n:Int)))).run B W=.ok (I a i i n 2) W:=fun W=>by rw[run_slice_lhm _ _ _ _ _ (by kernel_rfl) _ _ _ _ _ _ (by omega) (by omega) (by omega) (by omega),Vu];simp only[D,C]
 go_enter V,T;go_wp2;all_goals(go_ret;exact⟨rfl,rfl⟩)
theorem Cf(base:Nat)(w:O)(g:Nat)(all:List VP)(l:FL)(i:Nat)(hb:YY w g all)(hbase:base<=g)(hla:l.length<=all.length)(hm:all.length<=maxLen)(he:YQ 0 w (all.take l.length) l)(hi:i<l.length)(hl:l.length<=1000):b B 114 #[G (F ⟨g,0,H⟩) l.length all.length,L M (i:Int),L M ((i+1:Nat):Int)] w fun e w'=>∃v',e=.returned v'∧ZA base w' v' (l.take i++l.drop (i+1))∧w.grownBy w' (F g):=by
 obtain⟨n,hn⟩:∃n,n=l.length:=⟨_,rfl⟩;obtain⟨cap,hcap⟩:∃cap,cap=all.length:=⟨_,rfl⟩;obtain⟨j,hj⟩:∃j,j=i+1:=⟨_,rfl⟩;rw[<-hn,<-hj];rw[<-hn]at he hla hi hl;have hmx:∃A c,∀W,(J 44 (G (F ⟨g,0,H⟩) n cap) (F (L M (i:Int))) (F (L M (j:Int))) (F (L M (n:Int)))).run B W=.ok (G A (j-i) c) W:=⟨if n=i then F ⟨g,0,H⟩else f (fun x:X=>x.add (i*2)) (F ⟨g,0,H⟩),n-i,fun W=>by rw[run_slice_lhm _ _ _ _ _ (by kernel_rfl) _ _ _ _ _ _ (by omega) (by omega) (by omega) (by omega),Vu];simp only[D,C,I]⟩;obtain⟨A0,c0,k0⟩:=hmx;have k1:=GM g n cap i (by omega);obtain⟨A2,hA2,k2⟩:=Uh g n cap j (by omega);obtain⟨A3,hA3,k3⟩:=Pk g (n-1) cap (n-1) n (by omega) (by omega);have AP:Hid (∀ty,(Builtin.append_ #[44,44] ty #[G (F ⟨g,0,H⟩) i cap,G (F A2) (n-j) (cap-j)]).run B w.drew=.ok (G (F ⟨g,0,H⟩) (n-1) cap) (JK w.drew g (all.take i++(all.drop j).take (n-j)++all.drop (n-1)))):=fun ty=>by(have hlen:((all.drop j).take (n-j)).length=n-j:=by simp;omega);have:=Fg w.drew g all ((all.drop j).take (n-j)) hb.drew ty i A2 (n-j) (cap-j) hlen (by by_cases hjc:j<cap;(·rw[hA2 hjc];exact hb.drew.cellsT j (n-j));·intro t u ht;rw[List.eq_nil_of_length_eq_zero (show((all.drop j).take (n-j)).length=0 by rw[hlen];omega)]at ht;simp[flat]at ht) (by omega) (by have h1:EI (all.take n):=he.oneV;intro x hx;refine h1 x ?_;(have e:(all.drop j).take (n-j)=(all.take n).drop j:=by rw[R]);rw[e]at hx;exact List.mem_of_mem_drop hx);rw[<-hcap,show i+(n-j)=n-1by omega]at this;exact this
 obtain⟨all1,hall1⟩:∃all1,all1=all.take i++(all.drop j).take (n-j)++all.drop (n-1):=⟨_,rfl⟩;rw[<-hall1]at AP;have hb1:=hb.drew.set all1;have hlen1:all1.length=cap:=by rw[hall1];simp;omega
 obtain⟨W1,hW1⟩:∃W1,W1=JK w.drew g all1:=⟨_,rfl⟩;rw[<-hW1]at AP hb1;have CL:Hid (∀ty c,(Builtin.clear_ #[44] ty #[G (F A3) (n-(n-1)) c]).run B W1=.ok (.tuple #[]) (JK W1 g (all1.take (n-1)++[Nf]++all1.drop (n-1+1)))):=fun ty c=>by rw[hA3 (by omega),show n-(n-1)=1by omega];exact SX W1 g all1 hb1 ty (n-1) c (by omega)
 obtain⟨all2,hall2⟩:∃all2,all2=all1.take (n-1)++[Nf]++all1.drop (n-1+1):=⟨_,rfl⟩;rw[<-hall2]at CL;have hlen2:all2.length=cap:=by rw[hall2];simp;omega
 have FIN:Hid (ZA base (JK W1 g all2) (G (F ⟨g,0,H⟩) (n-1) cap) (l.take i++l.drop j)∧w.grownBy (JK W1 g all2) (F g)):=by have hg:w.grownBy (JK W1 g all2) (F g):=Yk (by rw[hW1];exact Yk (XW (Ql (Qb _ _))) (KS _ _ _)) (KS _ _ _);refine⟨?_,hg⟩;(have hlq:(l.take i++l.drop j).length=n-1:=by simp;omega);have:=vU (base:=base) (l:=l.take i++l.drop j) (hb1.set all2) hbase (by omega) (by omega) (by(have e:all2.take (l.take i++l.drop j).length=(all.take n).take i++(all.take n).drop j:=by rw[hlq,hall2,hall1];rw[List.append_assoc,N (by simp;omega),S,Nat.min_self,N (by simp;omega),List.take_of_length_le (by simp;omega),S,Nat.min_eq_left (by omega),R]);rw[e];exact((he.take i).append (he.drop j)).kept hg (hb.rowOf (Nat.zero_le _)));rw[hlq,hlen2]at this;exact this
 have u1:((i:Int)==(j:Int))=false:=by simp;omega
 have u2:n-1<=n:=by omega
 rw[<-hcap];have v1:j<=i+1:=by omega
 have v2:i+1<=j:=by omega
 have v3:n<=cap:=by omega
 have v4:cap<=maxLen:=by omega
 clear hall1 hall2 hA2 hA3 he hb hb1 hn hcap hj hW1 hlen1 hlen2 hm hla;go_enter V,T;go_wp2;go_region_law(refine FM rfl _ _ 44 44 rfl _ _ (by simp[Act.eval,Act.put]) (by simp[Act.eval,Act.put]) (AP.out _) ?_);have CL':=CL.out;go_wp2;go_ret;exact⟨_,rfl,FIN.out.1,FIN.out.2⟩
theorem DZ(base:Nat)(w:O)(v:Y)(l:FL)(i j:Nat)(h:ZA base w v l)(hij:j=i∨j=i+1)(hj:j<=l.length)(hl:l.length<=1000):b B 114 #[v,L M (i:Int),L M (j:Int)] w fun e w'=>∃v',e=.returned v'∧ZA base w' v' (l.take i++l.drop j)∧w.grownBy w' v.ownBlock:=by
 rcases hij with rfl|rfl;·obtain⟨a,cap,rfl⟩:=h.shape;(have hc:l.length<=cap:=by obtain⟨a',cap',e,hc,_⟩:=h.list;simp only[Value.slice.injEq]at e;obtain⟨_,_,rfl⟩:=e;exact hc);refine(MX w a l.length cap j hj hc).mono ?_;rintro e w'⟨rfl,rfl⟩;exact⟨_,rfl,by rw[List.take_append_drop];exact h,XW (Qb _ _)⟩
 ·rcases h.elim with⟨_,rfl⟩|⟨g,all,rfl,hb,hg,h1,h2,h3⟩;(·simp at hj);·exact Cf base w g all l i hb hg h1 h2 h3 (by omega) hl
def Yh(r:List UInt8):XE×Nat:=match XI Qs r with|F (c,_)=>(c,Zh r+6)|none=>(Zm,0)
theorem K4{r:List UInt8}(h:XI Qs r=H):Yh r=(Zm,0):=by
 unfold Yh;rw[h]
def Ki(r:List UInt8):List UInt8:=(r.drop 2).take (Zh r)
theorem Tv{r:List UInt8}(h:Zh r+2<=r.length):(Ki r).length=Zh r:=by
 unfold Ki;rw[List.length_take,List.length_drop];omega
theorem WL{r:List UInt8}(h:r.length<Zh r+2):Yh r=(Zm,0):=by
 refine K4 ?_;unfold XI;by_cases h6:r.length<6;·rw[if_pos h6]
 ·rw[if_neg h6,if_pos (.inl (by omega))]
theorem Bw{r:List UInt8}(h:r.length<2):Yh r=(Zm,0):=by
 refine K4 ?_;unfold XI;rw[if_pos (by omega)]
theorem Iu{r:List UInt8}(h:YE (Ki r)≠0):Yh r=(Zm,0):=by
 refine K4 ?_;unfold XI;by_cases h6:r.length<6;·rw[if_pos h6]
 ·rw[if_neg h6];by_cases h2:r.length<Zh r+6∨4000<Zh r+2;(·rw[if_pos h2]);·rw[if_neg h2];by_cases h3:Qs (r.take (Zh r+2))=(r.drop (Zh r+2)).take 4;(·rw[if_pos h3];exact if_neg h);·rw[if_neg h3]
theorem Bq{r:List UInt8}(h:¬Zh r+2<=4000):Yh r=(Zm,0):=by
 refine K4 ?_;unfold XI;by_cases h6:r.length<6;·rw[if_pos h6]
 ·rw[if_neg h6,if_pos (.inr (by omega))]
theorem Hw{r:List UInt8}(h:Zh r+2<=r.length):FY (Ki r)=r.take (Zh r+2):=by
 have hl:=Tv h;unfold FY;rw[hl];unfold Ki;match r,h with|x::y::r,h=>have hs:Zh (x::y::r)=256*x.toNat+y.toNat:=rfl;have hx:=x.toNat_lt;have hy:=y.toNat_lt;rw[show Zh (x::y::r)/256=x.toNat by rw[hs];omega,show Zh (x::y::r)%256=y.toNat by rw[hs];omega];simp|[x],h=>simp at h|[],h=>simp at h
theorem Aw(r:List UInt8)(n m:Nat):r.take (n+m)=r.take n++(r.drop n).take m:=List.take_add
theorem Ap{r:List UInt8}(h:Zh r+2<=r.length)(h4:Zh r+2<=4000)(hd:YE (Ki r)=0):Yh r=if(Z7 (Ki r)).length<=r.length∧r.take (Z7 (Ki r)).length=Z7 (Ki r)then(JB (Ki r),Zh r+6)else(Zm,0):=by
 have hl:=Tv h;have hw:(Z7 (Ki r)).length=Zh r+6:=by rw[kS,hl]
 have hb:=Hw h;rw[hw];by_cases h6:r.length<Zh r+6;·rw[if_neg (by omega)];refine K4 ?_;unfold XI;by_cases h66:r.length<6;(·rw[if_pos h66]);·rw[if_neg h66,if_pos (.inl h6)]
 ·(have ht:r.take (Zh r+6)=Z7 (Ki r)↔Qs (r.take (Zh r+2))=(r.drop (Zh r+2)).take 4:=by unfold Z7;rw[hb,show Zh r+6=Zh r+2+4by omega,Aw];constructor;(·intro e;exact(List.append_cancel_left e).symm);·intro e;rw[e]);unfold Yh XI;rw[if_neg (by omega),if_neg (by omega)];by_cases h3:Qs (r.take (Zh r+2))=(r.drop (Zh r+2)).take 4;(·have hd':YE ((r.drop 2).take (Zh r))=0:=hd;have hc:Zh r+6<=r.length∧r.take (Zh r+6)=Z7 (Ki r):=⟨by omega,ht.2 h3⟩;rw[if_pos h3,if_pos hd',if_pos hc];rfl);·rw[if_neg h3,if_neg (fun e=>h3 (ht.1 e.2))]
theorem BE(r:List UInt8):((Yh r).2=0∧Yh r=(Zm,0)∧XI Qs r=H)∨((Yh r).2=Zh r+6∧XI Qs r=F ((Yh r).1,r.drop (Yh r).2)∧(Yh r).2<=r.length):=by
 cases h:XI Qs r with|none=>left;rw[K4 h];exact⟨rfl,rfl,rfl⟩|some q=>obtain⟨c,r2⟩:=q;right;(have e:Yh r=(c,Zh r+6):=by unfold Yh;rw[h]);have h0:=h;unfold XI at h;by_cases h1:r.length<6;(·rw[if_pos h1]at h;cases h);rw[if_neg h1]at h;by_cases h2:r.length<Zh r+6∨4000<Zh r+2;(·rw[if_pos h2]at h;cases h);rw[if_neg h2]at h;by_cases h3:Qs (r.take (Zh r+2))=(r.drop (Zh r+2)).take 4;(·rw[if_pos h3]at h;by_cases h4:YE ((r.drop 2).take (Zh r))=0;(·rw[if_pos h4]at h;simp only[Option.some.injEq,Prod.mk.injEq]at h;rw[e];refine⟨rfl,?_,?_⟩;(·rw[<-h.2]);·show Zh r+6<=r.length;omega);·rw[if_neg h4]at h;cases h);·rw[if_neg h3]at h;cases h
end Go.Proofs.YtpimcmbjdcjmlaaGreatDoor
