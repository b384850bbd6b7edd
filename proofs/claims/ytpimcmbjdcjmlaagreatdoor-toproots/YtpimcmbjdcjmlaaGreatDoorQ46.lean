/-
  Texts of this proof, joined, with few blanks: AcN, AcL, TAskQ, TLit, RoundsF, TenantF, RootsF, RgAsk.
-/
import Derived.Test.YtpimcmbjdcjmlaaGreatDoorQ44
set_option maxRecDepth 100000
set_option maxHeartbeats 8000000
open Bool renaming true->N,false->R
open Go renaming World->H,Value->M,Operand->tE,Oper->tH,heap_alloc_new->tI,info_parts->tK
open Go.IntKind renaming i64->T
open Go.Proofs.Tryz renaming prog->L,underlying40->tB
open Go.Value renaming slice->C,int->O,bool->tG,agg->tJ
open Go.World renaming grownBy->V,grownBy_alloc->X,ownsRow_nil->tA
open List renaming pairwise_cons->J,foldl_cons->S,not_mem_nil->Y,mem_cons->f,any_cons->j,append_eq_nil_iff->z,flatMap_cons->tC,foldl_append->tD
open Option renaming none->E,some->I
namespace Go.Proofs.YtpimcmbjdcjmlaaGreatDoor
open Go.RowKit
def VF(rb:Nat)(w:H)(v:M)(l:List Ac):Prop:=UL rb w v l∧(l=[]->v=C E 0 0)
theorem OO(rb:Nat)(w:H):VF rb w (C E 0 0) []:=⟨OD _ _,fun _=>rfl⟩
theorem VF.grown{rb:Nat}{w w':H}{v:M}{l:List Ac}(h:VF rb w v l)(hg:V w w' E):VF rb w' v l:=⟨h.1.grownNone hg,h.2⟩
theorem VF.shape{rb:Nat}{w:H}{v:M}{l:List Ac}(h:VF rb w v l):∃a cap,v=C a l.length cap:=h.1.shape
theorem VF.list{rb:Nat}{w:H}{v:M}{l:List Ac}(h:VF rb w v l):Y8 w v l:=h.1.list
theorem VF.row{rb:Nat}{w:H}{v:M}{l:List Ac}(h:VF rb w v l):∀g,v.ownBlock=I g->∃cs t fz,w.heap[g]?=I (.cells cs t fz)∧¬Vo t∧t≠39∧∀q,cs[0]?≠I (O .u8 q):=fun g e=>by
 obtain⟨⟨us,hul,hr,hp⟩,h0⟩:=h;rcases hr.2with⟨rfl,_⟩|⟨g',cap,cur,rfl,hb,hg,hn,hmx,hcs,ht⟩;·cases e
 ·cases e;refine⟨cur,_,_,hg,by simp[Vo],by decide,fun q hq=>?_⟩;cases us with|nil=>have:=h0 (by rw[<-hul];rfl);cases this|cons x us=>(have hl:0<l.length:=by rw[<-hul];simp);(have e:(cur.toList.take (l.length*4))[0]?=(Jk (x::us))[0]?:=by rw[ht]);rw[List.getElem?_take,if_pos (by omega),Array.getElem?_toList,hq]at e;simp[Jk]at e
structure lU (rb : Nat) (w w' : H) (v v' : M) (l : List Ac) : Prop where
  own : VF rb w' v' l
  kl : KL w w'
  grown : V w w' v.ownBlock
  lies : ∀ g, v'.ownBlock = I g -> v.ownBlock = I g ∨ w.heap.size <= g
theorem Pe{w:H}{ops:Array tH}{rest:List tH}{o:tH}{a:Act}{Q:Exit->Act->H->Prop}(hgd:o.guard=E)(s x:tE)(ho:o.op=.call {callee:=.builtin .append,args:=#[s,x],argTypes:=#[40,40]})(rb:Nat)(v:M)(l:List Ac)(hs:a.eval s=v)(hown:VF rb w v l)(r2:Nat)(u:M)(m:List Ac)(hx:a.eval x=u)(hsrc:UL r2 w u m)(hl:l.length+m.length<=1000)(hbase:rb<=w.heap.size)(h:∀v' w',lU rb w w' v v' (l++m)->wpList L ops Q rest (a.put o.dst v') w'):wpList L ops Q (o::rest) a w:=by
 by_cases h0:l++m=[];·obtain⟨rfl,rfl⟩:=z.1 h0;have hv:=hown.2 rfl;obtain⟨xa,xc,rfl⟩:=hsrc.shape;obtain⟨i0,hi,hz0,hz1,hz2⟩:=tK M9;refine wpList_plain hgd fun K hK=>?_;have hrun:=Vh (P:=L) (w:=w) rb 40 o.type 42 i0 4 tB hi (C E 0 0) 0 [] (tA _ _ _ _) xa xc;rw[hv]at hs;unfold Oper.wp;simp[execOp,ho,resolve,invoke,builtin,hs,hx,hrun,Result.andThen];rw[hv]at hown h;exact hK _ _ (h _ w ⟨hown,KL.refl _,⟨rfl,rfl,rfl,Nat.le_refl _,fun _ _ _=>rfl⟩,fun _ e=>.inl e⟩)
 ·refine Pg hgd s x ho rb v l hs hown.1 r2 u m hx hsrc (by omega) hbase fun v' w' h1 h2 h3=>h v' w' ⟨⟨h1,fun e=>absurd e h0⟩,KL.turn h2 hown.row,h2,h3⟩
theorem Ty{rb:Nat}{w W w1:H}{v:M}{l:List Ac}(h:V w W E)(ho:VF rb W v l)(hb:w.heap.size<=rb)(hg:V W w1 v.ownBlock):V w w1 E:=BP h ho.1 hb hg
theorem OY(W:H)(A:Ac)(vd:M)(hp:Qf 0 W vd A.data):UL 0 (W.alloc (.cells #[O T A.kind,O T A.sess,O T A.keep,vd] 42)) (C (I ⟨W.heap.size,0,E⟩) 1 1) [A]:=Cp (w:=W.alloc _) 0 W.heap.size [(A,vd)] (tI W _) (Nat.zero_le _) (by
 simp) fun y hy=>by
 simp only[f,Y,or_false]at hy;subst hy;exact hp.keptT (X _ _ E) (.inl rfl)
theorem fN(w:H):Qf 0 w (C E 0 0) []:=⟨QG w,.inl rfl⟩
def iO(s:Int)(w:H)(d:List UInt8)(e:Ending)(w':H):Prop:=∃xa xc,e=.returned (tJ #[O T 1,O T s,O T 0,C xa d.length xc])∧Qf 0 w' (C xa d.length xc) d∧V w w' E
theorem Lm(w:H)(s:Int)(v:M)(r:Rq)(hT:Uz w)(hv:K9 w v r)(hr:Kc r):Calls L 7 #[O T s,v] w (iO s w (Je r)):=by
 refine(aL w s v r hT hv (uH hr)).mono ?_;rintro e w'⟨x,rfl,hx,hg⟩;rw[gD hr]at hx;obtain⟨xa,xc,rfl⟩:=hx.slice.shape;exact⟨xa,xc,rfl,hx,hg⟩
theorem bA(w:H)(k:Int):K9 w (tJ #[O T k,C E 0 0,C E 0 0,C E 0 0,C E 0 0]) (Fe k):=⟨_,_,_,_,rfl,QG w,QG w,QG w,QG w⟩
theorem aU(rb:Nat)(W:H)(hrb:rb<=W.heap.size)(l:List (Ac×M))(h0:l≠[])(hl:l.length<=1000)(hp:∀y∈l,Qf 0 W y.2 y.1.data)(cs:Array M)(hcs:cs.toList=Jk l):VF rb (W.alloc (.cells cs 42)) (C (I ⟨W.heap.size,0,E⟩) l.length l.length) (l.map (fun y=>y.1)):=by
 obtain rfl:cs=⟨Jk l⟩:=by rw[<-hcs]
 exact⟨Cp (w:=W.alloc _) rb W.heap.size l (tI W _) hrb hl fun y hy=>(hp y hy).keptT (X _ _ E) (.inl rfl),fun e=>absurd (List.map_eq_nil_iff.1 e) h0⟩
theorem Eh.all{w:H}{a:Option Addr}{n cap:Nat}{l:List Rp}(h:Eh w (C a n cap) l)(i:Nat)(hi:i<l.length):∃b o a4 c4 a5 c5 a6 c6 a8 c8 a9 c9 a10 c10 a12 c12 a13 c13 a14 c14,a=I ⟨b,o,E⟩∧w.cell? ⟨b,o+i*15,E⟩=I (O T (l.getD i qH).sess)∧w.cell? ⟨b,o+i*15+1,E⟩=I (O T (l.getD i qH).code)∧w.cell? ⟨b,o+i*15+2,E⟩=I (O T (l.getD i qH).turn)∧w.cell? ⟨b,o+i*15+3,E⟩=I (tG (l.getD i qH).found)∧w.cell? ⟨b,o+i*15+4,E⟩=I (C a4 (l.getD i qH).value.length c4)∧w.cell? ⟨b,o+i*15+5,E⟩=I (C a5 (l.getD i qH).pairs.length c5)∧w.cell? ⟨b,o+i*15+6,E⟩=I (C a6 (XO (l.getD i qH)).length c6)∧w.cell? ⟨b,o+i*15+7,E⟩=I (tG (Xk (l.getD i qH)).empty)∧w.cell? ⟨b,o+i*15+8,E⟩=I (C a8 (Xk (l.getD i qH)).steps.length c8)∧w.cell? ⟨b,o+i*15+9,E⟩=I (C a9 (Xk (l.getD i qH)).pair.1.length c9)∧w.cell? ⟨b,o+i*15+10,E⟩=I (C a10 (Xk (l.getD i qH)).pair.2.length c10)∧w.cell? ⟨b,o+i*15+11,E⟩=I (tG (Xj (l.getD i qH)).empty)∧w.cell? ⟨b,o+i*15+12,E⟩=I (C a12 (Xj (l.getD i qH)).steps.length c12)∧w.cell? ⟨b,o+i*15+13,E⟩=I (C a13 (Xj (l.getD i qH)).pair.1.length c13)∧w.cell? ⟨b,o+i*15+14,E⟩=I (C a14 (Xj (l.getD i qH)).pair.2.length c14)∧Qe w (C a4 (l.getD i qH).value.length c4) (l.getD i qH).value∧Qp w (C a5 (l.getD i qH).pairs.length c5) (l.getD i qH).pairs∧Qe w (C a6 (XO (l.getD i qH)).length c6) (XO (l.getD i qH))∧KG w (tJ #[tG (Xk (l.getD i qH)).empty,C a8 (Xk (l.getD i qH)).steps.length c8,C a9 (Xk (l.getD i qH)).pair.1.length c9,C a10 (Xk (l.getD i qH)).pair.2.length c10]) (Xk (l.getD i qH))∧KG w (tJ #[tG (Xj (l.getD i qH)).empty,C a12 (Xj (l.getD i qH)).steps.length c12,C a13 (Xj (l.getD i qH)).pair.1.length c13,C a14 (Xj (l.getD i qH)).pair.2.length c14]) (Xj (l.getD i qH)):=by
 obtain⟨a',cap',e,_,h⟩:=h;simp only[Value.slice.injEq]at e;obtain⟨rfl,_,_⟩:=e;rcases h with rfl|⟨b,o,rfl,h⟩;·simp at hi
 ·obtain⟨cs,h1,h2,vv,vp,vr,oe,os,ok,ov,ie,is,ik,iv,e,h4,h5,h6,h7,h8⟩:=h i hi;simp only[Value.agg.injEq,Array.mk.injEq]at e;subst e;obtain⟨a4,c4,rfl⟩:=h4.shape;obtain⟨a5,c5,rfl⟩:=h5.shape;obtain⟨a6,c6,rfl⟩:=h6.shape;have h7':=h7;have h8':=h8;obtain⟨vs,vk,vw,e7,k1,k2,k3⟩:=h7;obtain⟨us,uk,uw,e8,m1,m2,m3⟩:=h8;simp only[Value.agg.injEq,Array.mk.injEq,List.cons.injEq,and_true]at e7 e8;obtain⟨rfl,rfl,rfl,rfl⟩:=e7;obtain⟨rfl,rfl,rfl,rfl⟩:=e8;obtain⟨a8,c8,rfl⟩:=k1.shape;obtain⟨a9,c9,rfl⟩:=k2.shape;obtain⟨a10,c10,rfl⟩:=k3.shape;obtain⟨a12,c12,rfl⟩:=m1.shape;obtain⟨a13,c13,rfl⟩:=m2.shape;obtain⟨a14,c14,rfl⟩:=m3.shape;exact⟨b,o,a4,c4,a5,c5,a6,c6,a8,c8,a9,c9,a10,c10,a12,c12,a13,c13,a14,c14,rfl,h2 0 (by decide),h2 1 (by decide),h2 2 (by decide),h2 3 (by decide),h2 4 (by decide),h2 5 (by decide),h2 6 (by decide),h2 7 (by decide),h2 8 (by decide),h2 9 (by decide),h2 10 (by decide),h2 11 (by decide),h2 12 (by decide),h2 13 (by decide),h2 14 (by decide),h4,h5,h6,h7',h8'⟩
theorem DJ{w:H}{b:Nat}{n:Nat}{x:Int}(hx:x=(n:Int))(hn:n<256)(hb:w.heap[b]?=I (.cells #[O .u8 x] 5)):Qf 0 w (C (I ⟨b,0,E⟩) 1 1) [UInt8.ofNat n]:=by
 subst hx;refine⟨⟨I ⟨b,0,E⟩,1,rfl,Nat.le_refl _,.inr ⟨b,0,rfl,fun i hi=>?_⟩⟩,.inr ⟨b,rfl,(Array.getElem?_eq_some_iff.1 hb).1,.inr ⟨_,_,hb⟩⟩⟩;obtain rfl:i=0:=by simpa using hi
 simp[World.cell?,hb,Nat.mod_eq_of_lt hn]
theorem dV{w:H}{b:Nat}{o p:Obj}(h:w.heap[b]?=I o):(w.alloc p).heap[b]?=I o:=Qd (X _ _ E) h
theorem AL{k:Int}(hk:k=2∨k=4∨k=5∨k=8)(a b:UInt8):Kc ⟨k,[a],[b],[],[]⟩:=by
 rcases hk with rfl|rfl|rfl|rfl<;>(refine⟨⟨?_,?_⟩,?_,?_,?_,?_,?_,?_,?_,?_⟩<;>simp[QU])
theorem OL(a b c:UInt8):Kc ⟨4,[a],[b],[],[c]⟩:=by
 refine⟨⟨?_,?_⟩,?_,?_,?_,?_,?_,?_,?_,?_⟩<;>simp[QU]
section
variable{D:List UInt8->List UInt8}
theorem uE(v:Sv)(hu:v.up=N)(s:Nat){r:Rq}(hr:Kc r):zY v (YL s r)=Cv v s r:=by
 show(if(1:Int)=1then dX v (s:Int).toNat (Je r)else _)=_;rw[if_pos rfl,Int.toNat_natCast,dX,(C5 hr).1,(C5 hr).2,if_neg (by simp[hu]),if_pos rfl]
structure mT (v : Sv) (m : Nat) (F : FL) : Prop where
  up : v.up = N
  begun : v.begun 0 = R
  waits : v.waits 0 = R
  queue : v.queue = []
  synced : v.synced = m
  many : v.commits.length = m
  fold : Vp [] v.commits = F
theorem IS{r:Rq}(hr:Kc r)(hk:r.kind=4∨r.kind=5):Zs r=⟨r.name,r.key,r.value,decide (r.kind=5)⟩:=by
 have h:YP r=0:=by rw[YP,(Vv r).2 hr,if_pos rfl,if_pos hk]
 rw[Zs,if_pos h]
theorem gS(n:Nat):Ya (n:Int) (n:Int)=N:=by
 rw[Ya,decide_eq_true_iff];omega
theorem cH{v:Sv}{m:Nat}{F:FL}(h:mT v m F)(hm:m<300){r:Rq}(hr:Kc r)(hk:r.kind=4∨r.kind=5)(he:QJ F [Zs r]=0):∃u,[YL 0 (Fe 1),YL 0 r,YL 0 (Fe 6),qI].foldl zY v=u∧mT u (m+1) (ZW F [Zs r])∧u.out=v.out++[Do 0 (m:Int),V5 0 0,Do 0 ((m+1:Nat):Int)]:=by
 have e1:zY v (YL 0 (Fe 1))=ZM {v with begun:=Kr v.begun 0 N,txns:=Kr v.txns 0 ⟨(v.synced:Int),[],[]⟩} (Do 0 (v.synced:Int)):=by(have hs:Q8 v 0 (Fe 1)=R:=by unfold Q8;rw[h.waits,if_pos (show(Fe 1).kind=1from rfl),h.begun];rfl);rw[uE v h.up 0 (FJ (.inl rfl)),Cv,if_neg (by decide:¬(Fe 1).kind=8),hs,if_neg (by decide),if_pos (show(Fe 1).kind=1from rfl)]
 obtain⟨v1,hv1⟩:∃u,u=ZM {v with begun:=Kr v.begun 0 N,txns:=Kr v.txns 0 ⟨(v.synced:Int),[],[]⟩} (Do 0 (v.synced:Int)):=⟨_,rfl⟩;have hw:QC (Zs r)=0:=Pt hr hk;have t0:GO (⟨(m:Int),[],[]⟩:Tx):=⟨⟨by show(0:Int)<=m;omega,by show(m:Int)<=1048576;omega⟩,by simp,by simp,by simp,by simp,by simp,by unfold Rx;simp⟩;have hx1:v1.txns 0=⟨(m:Int),[],[]⟩:=by rw[hv1,<-h.synced];exact ZG v.txns 0 _
 have ew:ZU (v1.txns 0) (Zs r)=0:=by rw[hx1,ZU,if_pos ((yW _).2 t0),if_pos hw];split;(·rfl);·rw[if_neg (by simp)]
 have e2:zY v1 (YL 0 r)=ZM {v1 with txns:=Kr v1.txns 0 ⟨(m:Int),[],[Zs r]⟩} (V5 0 0):=by(have hs:Q8 v1 0 r=R:=by unfold Q8;rw[if_neg (by omega),hv1];show(v.waits 0||!(Kr v.begun 0 N 0))=R;rw[ZG,h.waits];rfl);(have hkp:Ya (v1.synced:Int) (v1.txns 0).start=N:=by rw[hx1,hv1];show Ya (v.synced:Int) (m:Int)=N;rw[h.synced];exact gS m);rw[uE v1 (by rw[hv1];exact h.up) 0 hr,Cv,if_neg (by omega),hs,if_neg (by decide),if_neg (by omega),if_neg (by omega),hkp,if_neg (by decide),if_neg (by omega),qD,if_pos hk,GH,ew,if_pos rfl,Yf,if_pos ew,hx1];rfl
 obtain⟨v2,hv2⟩:∃u,u=ZM {v1 with txns:=Kr v1.txns 0 ⟨(m:Int),[],[Zs r]⟩} (V5 0 0):=⟨_,rfl⟩;have hx2:v2.txns 0=⟨(m:Int),[],[Zs r]⟩:=by rw[hv2];exact ZG v1.txns 0 _
 have hc2:v2.commits=v.commits:=by rw[hv2,hv1];rfl
 have hq2:v2.queue=[]:=by rw[hv2,hv1];exact h.queue
 have hf2:Qz v2 v2.commits.length=F:=by unfold Qz;rw[hc2,List.take_length];exact h.fold
 have e3:zY v2 (YL 0 (Fe 6))={Xl v2 0with commits:=v2.commits++[Yl v2 0],queue:=v2.queue++[0],waits:=Kr v2.waits 0 N}:=by(have hs:Q8 v2 0 (Fe 6)=R:=by unfold Q8;rw[if_neg (by decide:¬(Fe 6).kind=1),hv2,hv1];show(v.waits 0||!(Kr v.begun 0 N 0))=R;rw[ZG,h.waits];rfl);(have hkp:Ya (v2.synced:Int) (v2.txns 0).start=N:=by rw[hx2,hv2,hv1];show Ya (v.synced:Int) (m:Int)=N;rw[h.synced];exact gS m);(have hcl:Jo (v2.txns 0) v2.commits=R:=by rw[hx2];unfold Jo;split;(·simp[A7,gU]);·rfl);rw[uE v2 (by rw[hv2,hv1];exact h.up) 0 (FJ (.inr (.inl rfl))),Cv,if_neg (by decide:¬(Fe 6).kind=8),hs,if_neg (by decide),if_neg (by decide:¬(Fe 6).kind=1),if_neg (by decide:¬(Fe 6).kind=7),hkp,if_neg (by decide),if_pos (show(Fe 6).kind=6from rfl),F4,if_neg (by rw[hx2];simp),if_neg (by rw[hq2,hc2,h.many];simp;omega),hcl,if_neg (by decide),if_neg (by rw[hf2,hx2];exact fun e=>e he)]
 obtain⟨v3,hv3⟩:∃u,u={Xl v2 0with commits:=v2.commits++[Yl v2 0],queue:=v2.queue++[0],waits:=Kr v2.waits 0 N}:=⟨_,rfl⟩;have e4:zY v3 qI=bQ v3:=by show(if(2:Int)=1then _ else if(2:Int)=2then _ else _)=_;rw[if_neg (by decide),if_pos rfl,if_pos (by rw[hv3,hv2,hv1];exact h.up)]
 refine⟨bQ v3,?_,?_,?_⟩;·rw[S,e1,<-hv1,S,e2,<-hv2,S,e3,<-hv3,S,e4];rfl
 ·(have hq3:v3.queue=[0]:=by rw[hv3];show v2.queue++[0]=_;rw[hq2];rfl);(have hs3:v3.synced=m:=by rw[hv3,hv2,hv1];exact h.synced);(have hc3:v3.commits=v.commits++[Yl v2 0]:=by rw[hv3];show v2.commits++_=_;rw[hc2]);refine⟨by show v3.up=N;rw[hv3,hv2,hv1];exact h.up,?_,?_,rfl,?_,?_,?_⟩;(·show v3.begun 0=R;rw[hv3];show Kr v2.begun 0 R 0=R;rw[ZG]);(·show KN v3.waits v3.queue 0=R;rw[hq3];simp[KN]);(·show v3.synced+v3.queue.length=m+1;rw[hq3,hs3];rfl);(·show v3.commits.length=m+1;rw[hc3];simp[h.many]);·show Vp [] v3.commits=_;rw[hc3,RH,h.fold];show ZW F (v2.txns 0).writes=_;rw[hx2]
 ·(have ho3:v3.out=v.out++[Do 0 (m:Int),V5 0 0]:=by rw[hv3,hv2,hv1];show(v.out++[Do 0 (v.synced:Int)])++[V5 0 0]=_;rw[h.synced];simp);show v3.out++Uw v3.synced v3.queue=_;rw[ho3,show v3.synced=m by rw[hv3,hv2,hv1];exact h.synced,show v3.queue=[0]by rw[hv3];show v2.queue++[0]=_;rw[hq2];rfl];simp[Uw]
def vZ:List (List UInt8):=[[97],[98],[99]]
def OP(n:List UInt8):Nat:=if n=[97]then 0 else if n=[98]then 1 else 2
theorem Mr{x y:List UInt8}(hx:x∈vZ)(hy:y∈vZ)(h:Ym x y=N):OP x<OP y∧OP y<=2:=by
 simp only[vZ,f,Y,or_false]at hx hy;rcases hx with rfl|rfl|rfl<;>rcases hy with rfl|rfl|rfl<;>first|(exact⟨by decide,by decide⟩)|(revert h;decide)
theorem Ij{l:FL}(hr:Xq l)(h:∀t∈l,t.1∈vZ):l.length<=3:=by
 match l,hr,h with|[],_,_=>simp|[_],_,_=>simp|[_,_],_,_=>simp|[_,_,_],_,_=>simp|a::b::c::d::l,hr,h=>exfalso;have k1:=(J.1 hr).1 b (by simp);have k2:=(J.1 (J.1 hr).2).1 c (by simp);have k3:=(J.1 (J.1 (J.1 hr).2).2).1 d (by simp);have r1:=Mr (h a (by simp)) (h b (by simp)) k1;have r2:=Mr (h b (by simp)) (h c (by simp)) k2;have r3:=Mr (h c (by simp)) (h d (by simp)) k3;omega
theorem Mt{l:FL}{w:Q9}(hn:w.name∈vZ)(h:∀t∈l,t.1∈vZ):∀t∈QR l w,t.1∈vZ:=fun t ht=>by
 unfold QR at ht;split at ht;·exact h t (List.mem_filter.1 ht).1
 ·rcases Pn _ _ _ ht with rfl|h';(·exact hn);·exact h t h'
theorem eL{F:FL}{m:Nat}(hF:Zf F)(hS:vL m F)(hN:∀t∈F,t.1∈vZ)(hm:m<59){w:Q9}(hw:QC w=0)(hn:w.name∈vZ):QJ F [w]=0∧ZW F [w]=QR F w∧Zf (QR F w)∧vL (m+1) (QR F w)∧∀t∈QR F w,t.1∈vZ:=by
 have h3:=Ij hF.rises hN;have h0:ZL F [w]=0:=TY [w] F m hF (by simpa using hw) hS (by simp;omega) (by simp;omega);have h1:XM F w=0:=by rw[ZL,if_pos hw]at h0;by_cases h:XM F w=0;(·exact h);·rw[if_neg h]at h0;exact absurd h0 h
 refine⟨by rw[R9 hF _ (by simp)];exact h0,?_,Ut hF hw h1,jX hF.rises hS w,Mt hn hN⟩;rw[IC hF _ (by simp),if_pos h0];rfl
theorem Ws(n:Int):NY n∈vZ:=by
 have h:=VT n (many:=3) (by decide);have h2:Ju n 3=0∨Ju n 3=1∨Ju n 3=2:=by omega
 unfold NY;rcases h2 with e|e|e<;>rw[e]<;>decide
end
section
variable{D:List UInt8->List UInt8}{v:Sv}
def iU(s:Nat)(t:Int)(F:FL)(n k:List UInt8):Rp:=⟨(s:Int),0,t,K3 F n k,K7 F n k,[],I (F,n,k)⟩
theorem aM(s:Nat)(t:Int){F:FL}(hF:Zf F){n k:List UInt8}(hn:1<=n.length∧n.length<=8)(hk:1<=k.length∧k.length<=16):XO (iU s t F n k)=Xs (Xf F)∧Xk (iU s t F n k)=xW (Xf F) n∧Xj (iU s t F n k)=xW (XY F n) k∧(iU s t F n k).found=(Ul (XY F n) k).isSome∧(iU s t F n k).value=(Ul (XY F n) k).getD []:=by
 obtain⟨_,g1,g2⟩:=eZ hF n k hn hk;obtain⟨_,p1,p2⟩:=Ik hF n k hn hk;exact⟨by show VI F=_;rw[VI,if_pos ((Xm _).2 hF)],p1,p2,g1,g2⟩
end
def Hn(r:Rq):Prop:=∃n k,[n]∈vZ∧r=⟨4,[n],[k],[],[k]⟩
theorem Hn.ok{r:Rq}(h:Hn r):Kc r:=by
 obtain⟨n,k,_,rfl⟩:=h;exact OL n k k
theorem Hn.wr{r:Rq}(h:Hn r):Zs r=⟨r.name,r.key,r.key,R⟩:=by
 have hr:=h.ok;obtain⟨n,k,_,rfl⟩:=h;rw[IS hr (.inl rfl)];rfl
def lN(r:Rq):List Ac:=[YL 0 (Fe 1),YL 0 r,YL 0 (Fe 6),qI]
def yE(l:List Rq):List Ac:=l.flatMap lN
def Dm:Rq:=⟨8,[97],[107],[],[]⟩
theorem Mq(l:List Rq):(yE l).length=4*l.length:=by
 induction l with|nil=>rfl|cons r l ih=>rw[yE,tC,List.length_append,<-yE,ih];simp[lN];omega
def zT(l:List Rq)(n k:List UInt8):Bool:=l.any fun r=>decide (r.name=n∧r.key=k)
theorem LL:∀(l:List Rq),(∀r∈l,Hn r)->∀(v:Sv)(m:Nat)(F:FL),mT v m F->Zf F->vL m F->(∀t∈F,t.1∈vZ)->m+l.length<=50->∃F',mT ((yE l).foldl zY v) (m+l.length) F'∧Zf F'∧∀n k,Ul (XY F' n) k=if zT l n k=N then I k else Ul (XY F n) k|[],_,v,m,F,h,hF,_,_,_=>⟨F,h,hF,fun n k=>by rw[if_neg (by simp[zT])]⟩|r::l,hl,v,m,F,h,hF,hS,hN,hm=>by have hm':m+(l.length+1)<=50:=hm;have hr:=hl r (by simp);(have hk:r.kind=4∨r.kind=5:=by obtain⟨n,k,_,rfl⟩:=hr;exact .inl rfl);(have hn:(Zs r).name∈vZ:=by rw[hr.wr];obtain⟨n,k,hn,rfl⟩:=hr;exact hn);obtain⟨h1,h2,h3,h4,h5⟩:=eL hF hS hN (by omega) (Pt hr.ok hk) hn;obtain⟨u,e,k1,_⟩:=cH h (by omega) hr.ok hk h1;rw[h2]at k1;obtain⟨F',g1,g2,g3⟩:=LL l (fun x hx=>hl x (List.mem_cons_of_mem _ hx)) u (m+1) _ k1 h3 h4 h5 (by omega);(have e2:(yE (r::l)).foldl zY v=(yE l).foldl zY u:=by rw[yE,tC,tD,<-yE,show(lN r).foldl zY v=u from e]);refine⟨F',by rw[e2,show m+(r::l).length=m+1+l.length from by simp;omega];exact g1,g2,fun n k=>?_⟩;rw[g3,Bf hF,hr.wr];by_cases a:zT l n k=N;(·rw[if_pos a,if_pos (by rw[zT,j,<-zT,a,Bool.or_true])]);·rw[if_neg a];by_cases b:r.name=n∧r.key=k;(·(have hh:zT (r::l) n k=N:=by rw[zT,j,decide_eq_true b,Bool.true_or]);rw[if_pos hh,if_pos b,if_neg (by simp),b.2]);·rw[if_neg b,if_neg (by rw[zT,j,decide_eq_false b,Bool.false_or];exact a)]
theorem E8{D:List UInt8->List UInt8}(hD:∀x,(D x).length=4){l:List Rq}(hl:∀r∈l,Hn r)(hn:l.length<=40){A:Oc}(hA:A=yL (Uu D (yE l++[YL 0 Dm]))):A.replies.length≠0∧∃F,Zf F∧(∀n k,Ul (XY F n) k=if zT l n k=N then I k else E)∧A.replies.getD (A.replies.length-1) qH=iU 0 (l.length:Int) F [97] [107]:=by
 have hz:Kc Dm:=AL (.inr (.inr (.inr rfl))) 97 107;rw[aZ hD _ (fun x hx=>by rcases List.mem_append.1 hx with h|h;(·obtain⟨r,hr,h⟩:=List.mem_flatMap.1 h;simp only[lN,f,Y,or_false]at h;rcases h with rfl|rfl|rfl|rfl;(·exact⟨Vf (by decide) (FJ (.inl rfl)),by simp[YL]⟩);(·exact⟨Vf (by decide) (hl r hr).ok,by simp[YL]⟩);(·exact⟨Vf (by decide) (FJ (.inr (.inl rfl))),by simp[YL]⟩);·exact⟨Nd,by simp[qI]⟩);·obtain rfl:=List.mem_singleton.1 h;exact⟨Vf (by decide) hz,by simp[YL]⟩)]at hA;obtain⟨F,h1,h2,h3⟩:=LL l hl Dn 0 [] ⟨rfl,rfl,rfl,rfl,rfl,rfl,rfl⟩ VN Nw (fun t h=>by cases h) (by omega);rw[Nat.zero_add]at h1;have e:iP (yE l++[YL 0 Dm])=Ro ((yE l).foldl zY Dn) 0 Dm:=by unfold iP;rw[tD];show zY ((yE l).foldl zY _) (YL 0 Dm)=_;rw[uE _ h1.up 0 hz,Cv,if_pos (show Dm.kind=8from rfl)]
 rw[e]at hA;generalize(yE l).foldl zY Dn=u at*;have hf:Qz u u.synced=F:=by show Vp [] (u.commits.take u.synced)=F;rw[h1.synced,List.take_of_length_le (by rw[h1.many];omega)];exact h1.fold
 have hr:A.replies=u.out++[iU 0 (l.length:Int) F [97] [107]]:=by rw[hA];show u.out++[_]=_;rw[<-hf,<-h1.synced];rfl
 refine⟨by rw[hr];simp,F,h2,h3,by rw[hr];simp⟩
theorem Su{D:List UInt8->List UInt8}(hD:∀x,(D x).length=4){l m:List Rq}(hl:∀r∈l,Hn r)(hs:∀r,r∈m↔r∈l)(hn:l.length<=40)(hm:m.length<=40){A B:Oc}(hA:A=yL (Uu D (yE l++[YL 0 Dm])))(hB:B=yL (Uu D (yE m++[YL 0 Dm]))):A.replies.length≠0∧B.replies.length≠0∧∃P Q:Rp,P=A.replies.getD (A.replies.length-1) qH∧Q=B.replies.getD (B.replies.length-1) qH∧XO P=XO Q∧P.found=Q.found∧(XO P).length=32:=by
 obtain⟨a1,F,a2,a3,a4⟩:=E8 hD hl hn hA;obtain⟨b1,G,b2,b3,b4⟩:=E8 hD (fun r h=>hl r ((hs r).1 h)) hm hB;have he:F=G:=DS a2 b2 fun n k=>by rw[a3,b3];(have:zT l n k=zT m n k:=by rw[Bool.eq_iff_iff];simp only[zT,List.any_eq_true];exact⟨fun⟨r,h,k⟩=>⟨r,(hs r).2 h,k⟩,fun⟨r,h,k⟩=>⟨r,(hs r).1 h,k⟩⟩);rw[this]
 subst he;have p:=(aM 0 (l.length:Int) a2 (n:=[97]) (k:=[107]) (by simp) (by simp));have q:=(aM 0 (m.length:Int) a2 (n:=[97]) (k:=[107]) (by simp) (by simp));refine⟨a1,b1,_,_,rfl,rfl,?_⟩;rw[a4,b4];exact⟨by rw[p.1,q.1],by rw[p.2.2.2.1,q.2.2.2.1],by rw[p.1];exact Ka _⟩
def SP.rq(r:Rq):SP:=⟨fun v w=>K9 w v r,fun _ _ _ hg h=>h.grown hg⟩
def SP.ask(s:Int)(d:List UInt8):SP:=⟨fun v w=>∃xa xc,v=tJ #[O T 1,O T s,O T 0,C xa d.length xc]∧Qf 0 w (C xa d.length xc) d,fun _ _ _ hg⟨xa,xc,e,h⟩=>⟨xa,xc,e,h.keptT hg (.inl rfl)⟩⟩
def SP.own(l:List Ac):SP:=⟨fun v w=>VF 0 w v l,fun _ _ _ hg h=>h.grown hg⟩
theorem Zr{o:tH}{ev:tE->M}{w:H}{v:M}{p:M->H->Prop}(h:(execOp ev o).run L w=.ok (.value v) w)(hp:p v w):GG L o ev w (fun v w'=>V w w' E∧p v w'):=GG.val h ⟨Qb _ _,hp⟩
theorem RZ{o:tH}{ev:tE->M}{w:H}{s:Int}{v:M}{r:Rq}{d:List UInt8}(h:(execOp ev o).run L w=.ok (.enter 7 #[O T s,v]) w)(hP:Uz w)(hv:K9 w v r)(hr:Kc r)(hd:d=Je r):GG L o ev w (fun v w'=>V w w' E∧(SP.ask s d).p v w'):=by
 refine GG.call h ((Lm w s v r hP hv hr).mono ?_);rintro e w'⟨xa,xc,rfl,hp,hg⟩;subst hd;exact⟨_,rfl,hg,xa,xc,rfl,hp⟩
theorem Eu{w:H}{o:tH}{a:Act}{K:Act->H->Prop}{Q:Exit->Act->H->Prop}(s x:tE)(ho:o.op=.call {callee:=.builtin .append,args:=#[s,x],argTypes:=#[40,40]})(rb:Nat)(v:M)(l:List Ac)(hs:a.eval s=v)(hown:VF rb w v l)(r2:Nat)(u:M)(m:List Ac)(hx:a.eval x=u)(hsrc:UL r2 w u m)(hl:l.length+m.length<=1000)(hbase:rb<=w.heap.size)(h:∀v' w',lU rb w w' v v' (l++m)->K (a.put o.dst v') w'):o.wp L a w K Q:=by
 by_cases h0:l++m=[];·obtain⟨rfl,rfl⟩:=z.1 h0;have hv:=hown.2 rfl;obtain⟨xa,xc,rfl⟩:=hsrc.shape;obtain⟨i0,hi,hz0,hz1,hz2⟩:=tK M9;have hrun:=Vh (P:=L) (w:=w) rb 40 o.type 42 i0 4 tB hi (C E 0 0) 0 [] (tA _ _ _ _) xa xc;rw[hv]at hs;unfold Oper.wp;simp[execOp,ho,resolve,invoke,builtin,hs,hx,hrun,Result.andThen];rw[hv]at hown h;exact h _ w ⟨hown,KL.refl _,⟨rfl,rfl,rfl,Nat.le_refl _,fun _ _ _=>rfl⟩,fun _ e=>.inl e⟩
 ·refine j9 s x ho rb v l hs hown.1 r2 u m hx hsrc (by omega) hbase fun v' w' h1 h2 h3=>h v' w' ⟨⟨h1,fun e=>absurd e h0⟩,KL.turn h2 hown.row,h2,h3⟩
end Go.Proofs.YtpimcmbjdcjmlaaGreatDoor
