/-
  Texts of this proof, joined, with few blanks: AcN, AcL, TAskQ, TLit, RoundsF, FewF, TenantF, RgAsk, TScript.
-/
import Derived.Test.YtcieibjgedmdlaaGreatDoorQ45
import Derived.Test.YtcieibjgedmdlaaGreatDoorQ42
set_option maxRecDepth 100000
set_option maxHeartbeats 8000000
open Bool renaming false->tN,true->tQ
open Go renaming World->tD,Value->tH,heap_alloc_new->tV,Operand->sJ,Oper->sQ,Calls->sU,info_parts->sV
open Go.IntKind renaming i64->tI
open Go.Proofs.Tryz renaming prog->tC,underlying29->sN
open Go.Value renaming slice->tA,int->tG,agg->sP,bool->sR
open Go.World renaming grownBy->tL,grownBy_alloc->tS,ownsRow_nil->sM
open List renaming pairwise_cons->tF,mem_cons_of_mem->tJ,not_mem_nil->tK,mem_cons->tM,mem_cons_self->tP,foldl_cons->tR,length_cons->tT,take_of_length_le->tU,length_append->tW,getD_eq_getElem?_getD->tZ,getElem?_eq_getElem->sH,append_eq_nil_iff->sI,mem_of_mem_take->sL,mem_map->sS
open Nat renaming le_refl->tY,zero_le->sK
open Option renaming none->tB,some->tE
namespace Go.Proofs.YtcieibjgedmdlaaGreatDoor
open Go.RowKit
def Jj(rb:Nat)(w:tD)(v:tH)(l:List Ac):Prop:=J7 rb w v l∧(l=[]->v=tA tB 0 0)
theorem Bv(rb:Nat)(w:tD):Jj rb w (tA tB 0 0) []:=⟨dB _ _,fun _=>rfl⟩
theorem Jj.grown{rb:Nat}{w w':tD}{v:tH}{l:List Ac}(h:Jj rb w v l)(hg:tL w w' tB):Jj rb w' v l:=⟨h.1.grownNone hg,h.2⟩
theorem Jj.shape{rb:Nat}{w:tD}{v:tH}{l:List Ac}(h:Jj rb w v l):∃a cap,v=tA a l.length cap:=h.1.shape
theorem Jj.list{rb:Nat}{w:tD}{v:tH}{l:List Ac}(h:Jj rb w v l):Jc w v l:=h.1.list
theorem Jj.row{rb:Nat}{w:tD}{v:tH}{l:List Ac}(h:Jj rb w v l):∀g,v.ownBlock=tE g->∃cs t fz,w.heap[g]?=tE (.cells cs t fz)∧¬GA t∧t≠49∧∀q,cs[0]?≠tE (tG .u8 q):=fun g e=>by
 obtain⟨⟨c,b,m,u⟩,d⟩:=h;rcases m.2with⟨rfl,_⟩|⟨o,cap,a,rfl,p,i,s,j,f,n⟩;·cases e
 ·cases e;refine⟨a,_,_,i,by simp[GA],by decide,fun q k=>?_⟩;cases c with|nil=>have:=d (by rw[<-b];rfl);cases this|cons x c=>(have r:0<l.length:=by rw[<-b];simp);(have e:(a.toList.take (l.length*4))[0]?=(Y9 (x::c))[0]?:=by rw[n]);rw[List.getElem?_take,if_pos (by omega),Array.getElem?_toList,k]at e;simp[Y9]at e
theorem Jj.other{rb:Nat}{w:tD}{v:tH}{l:List Ac}(h:Jj rb w v l){b:Nat}{cs:Array tH}{t:TypeId}{fz:Nat×Nat}(hb:w.heap[b]?=tE (.cells cs t fz))(ht:t≠32):tE b≠v.ownBlock:=fun e=>by
 rcases h.1.row with h|⟨g,c,d,f,_,a⟩;·rw[h]at e;cases e
 ·rw[f]at e;cases e;rw[hb]at a;simp only[Option.some.injEq,Obj.cells.injEq]at a;exact ht a.2.1
structure iS (rb : Nat) (w w' : tD) (v v' : tH) (l : List Ac) : Prop where
  own : Jj rb w' v' l
  kl : KL w w'
  grown : tL w w' v.ownBlock
  lies : ∀ g, v'.ownBlock = tE g -> v.ownBlock = tE g ∨ w.heap.size <= g
theorem Kc{w:tD}{ops:Array sQ}{rest:List sQ}{o:sQ}{a:Act}{Q:Exit->Act->tD->Prop}(hgd:o.guard=tB)(s x:sJ)(ho:o.op=.call {callee:=.builtin .append,args:=#[s,x],argTypes:=#[29,29]})(rb:Nat)(v:tH)(l:List Ac)(hs:a.eval s=v)(hown:Jj rb w v l)(r2:Nat)(u:tH)(m:List Ac)(hx:a.eval x=u)(hsrc:J7 r2 w u m)(hl:l.length+m.length<=1000)(hbase:rb<=w.heap.size)(h:∀v' w',iS rb w w' v v' (l++m)->wpList tC ops Q rest (a.put o.dst v') w'):wpList tC ops Q (o::rest) a w:=by
 by_cases c:l++m=[];·obtain⟨rfl,rfl⟩:=sI.1 c;have f:=hown.2 rfl;obtain⟨t,y,rfl⟩:=hsrc.shape;obtain⟨r,k,n,p,q⟩:=sV Nk;refine wpList_plain hgd fun K j=>?_;have b:=VL (P:=tC) (w:=w) rb 29 o.type 32 r 4 sN k (tA tB 0 0) 0 [] (sM _ _ _ _) t y;rw[f]at hs;unfold Oper.wp;simp[execOp,ho,resolve,invoke,builtin,hs,hx,b,Result.andThen];rw[f]at hown h;exact j _ _ (h _ w ⟨hown,KL.refl _,⟨rfl,rfl,rfl,tY _,fun _ _ _=>rfl⟩,fun _ e=>.inl e⟩)
 ·refine Fn hgd s x ho rb v l hs hown.1 r2 u m hx hsrc (by omega) hbase fun v' w' g d i=>h v' w' ⟨⟨g,fun e=>absurd e c⟩,KL.turn d hown.row,d,i⟩
theorem Jj.aside{rx ry:Nat}{w w':tD}{vx vy:tH}{lx ly:List Ac}(h:Jj rx w vx lx)(hy:Jj ry w vy ly)(hg:tL w w' vy.ownBlock)(hne:∀g,vx.ownBlock=tE g->vy.ownBlock≠tE g):Jj rx w' vx lx:=by
 refine⟨?_,h.2⟩;cases e:vy.ownBlock with|none=>rw[e]at hg;exact h.1.grownNone hg|some b=>rw[e]at hg;rcases hy.1.row with j|⟨g,f,o,d,_,k⟩;(·rw[j]at e;cases e);·(obtain rfl:g=b:=by rw[d]at e;cases e;rfl);obtain⟨n,a,c,l⟩:=h.1;refine⟨n,a,World.ownsRow.kept c hg ?_,fun x m=>(l x m).keptT hg (.inr ⟨_,_,_,_,rfl,sK _,k,by decide⟩)⟩;exact .inr fun i=>hne _ i d
theorem Gm{rb:Nat}{w W w1:tD}{v:tH}{l:List Ac}(h:tL w W tB)(ho:Jj rb W v l)(hb:w.heap.size<=rb)(hg:tL W w1 v.ownBlock):tL w w1 tB:=RQ h ho.1 hb hg
theorem BD(W:tD)(A:Ac)(vd:tH)(hp:Qh 0 W vd A.data):J7 0 (W.alloc (.cells #[tG tI A.kind,tG tI A.sess,tG tI A.keep,vd] 32)) (tA (tE ⟨W.heap.size,0,tB⟩) 1 1) [A]:=BF (w:=W.alloc _) 0 W.heap.size [(A,vd)] (tV W _) (sK _) (by
 simp) fun y a=>by
 simp only[tM,tK,or_false]at a;subst a;exact hp.keptT (tS _ _ tB) (.inl rfl)
theorem Ck(w:tD):Qh 0 w (tA tB 0 0) []:=⟨Qw w,.inl rfl⟩
def Lx(s:Int)(w:tD)(d:List UInt8)(e:Ending)(w':tD):Prop:=∃xa xc,e=.returned (sP #[tG tI 1,tG tI s,tG tI 0,tA xa d.length xc])∧Qh 0 w' (tA xa d.length xc) d∧tL w w' tB
theorem Dz(w:tD)(s:Int)(v:tH)(r:Rq)(hT:UA w)(hv:JY w v r)(hr:JG r):sU tC 6 #[tG tI s,v] w (Lx s w (Jk r)):=by
 refine(BY w s v r hT hv (kJ hr)).mono ?_;rintro e f⟨x,rfl,a,b⟩;rw[CA hr]at a;obtain⟨c,d,rfl⟩:=a.slice.shape;exact⟨c,d,rfl,a,b⟩
theorem Hg(w:tD)(k:Int):JY w (sP #[tG tI k,tA tB 0 0,tA tB 0 0,tA tB 0 0,tA tB 0 0]) (uF k):=⟨_,_,_,_,rfl,Qw w,Qw w,Qw w,Qw w⟩
theorem Ao(rb:Nat)(W:tD)(hrb:rb<=W.heap.size)(l:List (Ac×tH))(h0:l≠[])(hl:l.length<=1000)(hp:∀y∈l,Qh 0 W y.2 y.1.data)(cs:Array tH)(hcs:cs.toList=Y9 l):Jj rb (W.alloc (.cells cs 32)) (tA (tE ⟨W.heap.size,0,tB⟩) l.length l.length) (l.map (fun y=>y.1)):=by
 obtain rfl:cs=⟨Y9 l⟩:=by rw[<-hcs]
 exact⟨BF (w:=W.alloc _) rb W.heap.size l (tV W _) hrb hl fun y a=>(hp y a).keptT (tS _ _ tB) (.inl rfl),fun e=>absurd (List.map_eq_nil_iff.1 e) h0⟩
theorem yM.all{w:tD}{a:Option Addr}{n cap:Nat}{l:List Rp}(h:yM w (tA a n cap) l)(i:Nat)(hi:i<l.length):∃b o a4 c4 a5 c5 a6 c6 a8 c8 a9 c9 a10 c10 a12 c12 a13 c13 a14 c14,a=tE ⟨b,o,tB⟩∧w.cell? ⟨b,o+i*15,tB⟩=tE (tG tI (l.getD i zX).sess)∧w.cell? ⟨b,o+i*15+1,tB⟩=tE (tG tI (l.getD i zX).code)∧w.cell? ⟨b,o+i*15+2,tB⟩=tE (tG tI (l.getD i zX).turn)∧w.cell? ⟨b,o+i*15+3,tB⟩=tE (sR (l.getD i zX).found)∧w.cell? ⟨b,o+i*15+4,tB⟩=tE (tA a4 (l.getD i zX).value.length c4)∧w.cell? ⟨b,o+i*15+5,tB⟩=tE (tA a5 (l.getD i zX).pairs.length c5)∧w.cell? ⟨b,o+i*15+6,tB⟩=tE (tA a6 (VK (l.getD i zX)).length c6)∧w.cell? ⟨b,o+i*15+7,tB⟩=tE (sR (Xa (l.getD i zX)).empty)∧w.cell? ⟨b,o+i*15+8,tB⟩=tE (tA a8 (Xa (l.getD i zX)).steps.length c8)∧w.cell? ⟨b,o+i*15+9,tB⟩=tE (tA a9 (Xa (l.getD i zX)).pair.1.length c9)∧w.cell? ⟨b,o+i*15+10,tB⟩=tE (tA a10 (Xa (l.getD i zX)).pair.2.length c10)∧w.cell? ⟨b,o+i*15+11,tB⟩=tE (sR (Zp (l.getD i zX)).empty)∧w.cell? ⟨b,o+i*15+12,tB⟩=tE (tA a12 (Zp (l.getD i zX)).steps.length c12)∧w.cell? ⟨b,o+i*15+13,tB⟩=tE (tA a13 (Zp (l.getD i zX)).pair.1.length c13)∧w.cell? ⟨b,o+i*15+14,tB⟩=tE (tA a14 (Zp (l.getD i zX)).pair.2.length c14)∧Qe w (tA a4 (l.getD i zX).value.length c4) (l.getD i zX).value∧Qo w (tA a5 (l.getD i zX).pairs.length c5) (l.getD i zX).pairs∧Qe w (tA a6 (VK (l.getD i zX)).length c6) (VK (l.getD i zX))∧Xo w (sP #[sR (Xa (l.getD i zX)).empty,tA a8 (Xa (l.getD i zX)).steps.length c8,tA a9 (Xa (l.getD i zX)).pair.1.length c9,tA a10 (Xa (l.getD i zX)).pair.2.length c10]) (Xa (l.getD i zX))∧Xo w (sP #[sR (Zp (l.getD i zX)).empty,tA a12 (Zp (l.getD i zX)).steps.length c12,tA a13 (Zp (l.getD i zX)).pair.1.length c13,tA a14 (Zp (l.getD i zX)).pair.2.length c14]) (Zp (l.getD i zX)):=by
 obtain⟨A,g,e,_,h⟩:=h;simp only[Value.slice.injEq]at e;obtain⟨rfl,_,_⟩:=e;rcases h with rfl|⟨b,o,rfl,h⟩;·simp at hi
 ·obtain⟨B,C,c,Q,N,O,G,H,ok,I,D,is,E,F,e,m,p,q,r,s⟩:=h i hi;simp only[Value.agg.injEq,Array.mk.injEq]at e;subst e;obtain⟨a4,c4,rfl⟩:=m.shape;obtain⟨a5,c5,rfl⟩:=p.shape;obtain⟨a6,c6,rfl⟩:=q.shape;have d:=r;have f:=s;obtain⟨P,M,R,j,t,u,v⟩:=r;obtain⟨K,J,L,k,x,y,z⟩:=s;simp only[Value.agg.injEq,Array.mk.injEq,List.cons.injEq,and_true]at j k;obtain⟨rfl,rfl,rfl,rfl⟩:=j;obtain⟨rfl,rfl,rfl,rfl⟩:=k;obtain⟨a8,c8,rfl⟩:=t.shape;obtain⟨a9,c9,rfl⟩:=u.shape;obtain⟨a10,c10,rfl⟩:=v.shape;obtain⟨a12,c12,rfl⟩:=x.shape;obtain⟨a13,c13,rfl⟩:=y.shape;obtain⟨a14,c14,rfl⟩:=z.shape;exact⟨b,o,a4,c4,a5,c5,a6,c6,a8,c8,a9,c9,a10,c10,a12,c12,a13,c13,a14,c14,rfl,c 0 (by decide),c 1 (by decide),c 2 (by decide),c 3 (by decide),c 4 (by decide),c 5 (by decide),c 6 (by decide),c 7 (by decide),c 8 (by decide),c 9 (by decide),c 10 (by decide),c 11 (by decide),c 12 (by decide),c 13 (by decide),c 14 (by decide),m,p,q,d,f⟩
theorem cK{w:tD}{b:Nat}{n:Nat}{x:Int}(hx:x=(n:Int))(hn:n<256)(hb:w.heap[b]?=tE (.cells #[tG .u8 x] 5)):Qh 0 w (tA (tE ⟨b,0,tB⟩) 1 1) [UInt8.ofNat n]:=by
 subst hx;refine⟨⟨tE ⟨b,0,tB⟩,1,rfl,tY _,.inr ⟨b,0,rfl,fun i a=>?_⟩⟩,.inr ⟨b,rfl,(Array.getElem?_eq_some_iff.1 hb).1,.inr ⟨_,_,hb⟩⟩⟩;obtain rfl:i=0:=by simpa using a
 simp[World.cell?,hb,Nat.mod_eq_of_lt hn]
theorem rG{w W:tD}(hP:UA w)(hg:tL w W tB)(s k:Int)(hk:k=1∨k=6∨k=7):sU tC 6 #[tG tI s,sP #[tG tI k,tA tB 0 0,tA tB 0 0,tA tB 0 0,tA tB 0 0]] W (Lx s W (Jk (uF k))):=Dz W s _ (uF k) (hP.grown hg) (Hg W k) (zW hk)
theorem D0{k:Int}(hk:k=2∨k=4∨k=5∨k=8)(a b:UInt8):JG ⟨k,[a],[b],[],[]⟩:=by
 rcases hk with rfl|rfl|rfl|rfl<;>(refine⟨⟨?_,?_⟩,?_,?_,?_,?_,?_,?_,?_,?_⟩<;>simp[QS])
section
variable{D:List UInt8->List UInt8}
theorem Dl{r:Rq}(hr:JG r)(hk:r.kind=4∨r.kind=5):QY r=⟨r.name,r.key,r.value,decide (r.kind=5)⟩:=by
 have h:YZ r=0:=by rw[YZ,(Vk r).2 hr,if_pos rfl,if_pos hk]
 rw[QY,if_pos h]
theorem nN(n:Nat):Jg (n:Int) (n:Int)=tQ:=by
 rw[Jg,decide_eq_true_iff];omega
def Cn:List (List UInt8):=[[97],[98],[99]]
def dK(n:List UInt8):Nat:=if n=[97]then 0 else if n=[98]then 1 else 2
theorem Du{x y:List UInt8}(hx:x∈Cn)(hy:y∈Cn)(h:YP x y=tQ):dK x<dK y∧dK y<=2:=by
 simp only[Cn,tM,tK,or_false]at hx hy;rcases hx with rfl|rfl|rfl<;>rcases hy with rfl|rfl|rfl<;>first|(exact⟨by decide,by decide⟩)|(revert h;decide)
theorem OU{l:FL}(hr:XT l)(h:∀t∈l,t.1∈Cn):l.length<=3:=by
 match l,hr,h with|[],_,_=>simp|[_],_,_=>simp|[_,_],_,_=>simp|[_,_,_],_,_=>simp|a::b::c::d::l,hr,h=>exfalso;have e:=(tF.1 hr).1 b (by simp);have f:=(tF.1 (tF.1 hr).2).1 c (by simp);have g:=(tF.1 (tF.1 (tF.1 hr).2).2).1 d (by simp);have i:=Du (h a (by simp)) (h b (by simp)) e;have j:=Du (h b (by simp)) (h c (by simp)) f;have k:=Du (h c (by simp)) (h d (by simp)) g;omega
theorem Oe(n:Int):WY n∈Cn:=by
 have h:=KY n (many:=3) (by decide);have a:Xy n 3=0∨Xy n 3=1∨Xy n 3=2:=by omega
 unfold WY;rcases a with e|e|e<;>rw[e]<;>decide
end
section
variable{D:List UInt8->List UInt8}{v:Sv}
def Gc(P:Q6->Prop)(v:Sv):Prop:=(∀c∈v.commits,∀w∈c.writes,P w)∧∀s,∀w∈(v.txns s).writes,P w
variable{P:Q6->Prop}
theorem Gc.tell(h:Gc P v)(r:Rp):Gc P (Xd v r):=⟨h.1,h.2⟩
theorem Gc.txn(h:Gc P v)(s:Nat){t:Tx}(ht:∀w∈t.writes,P w):Gc P {v with txns:=K9 v.txns s t}:=by
 refine⟨h.1,fun j w b=>?_⟩;have a:w∈(K9 v.txns s t j).writes:=b;by_cases e:j=s;·rw[e,Zz]at a;exact ht w a
 ·rw[Zi _ _ e]at a;exact h.2 j w a
theorem Gc.note(h:Gc P v)(s:Nat)(x:Rd)(o:Rp):Gc P (U4 v s x o):=by
 unfold U4;split;·have k:=(BS (by assumption:Xm (v.txns s) x=0)).2;exact(h.txn s (fun w a=>by rw[k]at a;exact h.2 s w a)).tell _
 ·exact h.tell _
theorem Gc.work(h:Gc P v)(s:Nat){r:Rq}(hp:r.kind=4∨r.kind=5->P (QY r)):Gc P (yK v s r):=by
 unfold yK;split;·rename_i hk;unfold qR;by_cases e:Z4 (v.txns s) (QY r)=0;(·rw[if_pos e];refine(h.txn s fun w a=>?_).tell _;rw[Ye,if_pos e]at a;rcases Pt _ _ _ a with rfl|b;(·exact hp hk);·exact h.2 s w b);·rw[if_neg e];exact h.tell _
 ·split;(·unfold Dy;split;(·exact h.tell _);·exact h.note s _ _);·unfold Fa;split;(·exact h.note s _ _);·exact h.tell _
theorem Gc.req(h:Gc P v)(s:Nat){r:Rq}(hp:r.kind=4∨r.kind=5->P (QY r)):Gc P (V5 D v s r):=by
 have b:Gc P (XG v s):=⟨h.1,h.2⟩;unfold V5;split;·exact h.tell _
 ·split;(·exact h.tell _);·split;(·refine⟨h.1,fun j w f=>?_⟩;have a:w∈(K9 v.txns s ⟨(v.synced:Int),[],[]⟩ j).writes:=f;by_cases e:j=s;(·rw[e,Zz]at a;cases a);·rw[Zi _ _ e]at a;exact h.2 j w a);·split;(·exact b.tell _);·split;(·exact b.tell _);·split;(·unfold Jo;(repeat' split);(·exact b.tell _);(·exact h.tell _);(·exact b.tell _);(·exact b.tell _);(·exact b.tell _);·refine⟨fun c g w f=>?_,h.2⟩;rcases List.mem_append.1 g with d|d;(·exact h.1 c d w f);·simp only[tM,tK,or_false]at d;subst d;exact h.2 s w f);·exact h.work s hp
def Ch(P:Q6->Prop)(a:Ac):Prop:=a.kind=1->XO a.data=0->((Y6 a.data).kind=4∨(Y6 a.data).kind=5)->P (QY (Y6 a.data))
theorem Gc.act(hD:∀x,(D x).length=4)(hg:Zu D v)(h:Gc P v){a:Ac}(ha:Xx a)(hp:Ch P a):Gc P (Yo D v a):=by
 unfold Yo;split;·rename_i hk;unfold V3;split;(·exact h.tell _);·split;(·exact h.req _ (hp hk (by assumption)));·exact h.tell _
 ·split;(·split;(·exact⟨h.1,h.2⟩);·exact h);·split;(·split;(·obtain⟨j,_,_,e,_⟩:=UJ hD hg (ha.keep (by assumption)).1;rw[e];exact⟨fun c b=>h.1 c (sL b),fun s w d=>by cases d⟩);·exact h);·exact⟨h.1,h.2⟩
theorem F6(hD:∀x,(D x).length=4):∀(l:List Ac)(v:Sv),Zu D v->Gc P v->(∀a∈l,Xx a∧Ch P a)->Gc P (l.foldl (Yo D) v)|[],_,_,h,_=>h|a::l,v,hg,h,ha=>by have b:=ha a tP;exact F6 hD l _ (hg.act hD b.1) (h.act hD hg b.1 b.2) (fun x c=>ha x (tJ _ c))
theorem dU(hD:∀x,(D x).length=4)(l:List Ac)(h:∀a∈l,Xx a∧Ch P a):Gc P (Yz D l):=F6 hD l BR (vG D) (show Gc P BR from⟨fun c b=>(by
 cases b),fun s w d=>(by
 cases d)⟩) h
theorem EH:∀(ws:List Q6)(f:FL),Zb f->ZA f ws=0->∀n k x,Yx (Xw (YL f ws) n) k=tE x->Yx (Xw f n) k=tE x∨∃w∈ws,w.name=n∧w.key=k∧w.gone=tN∧w.value=x|[],_,_,_,_,_,_,h=>.inl h|w::ws,f,hf,he,n,k,x,h=>by obtain⟨b,c,d⟩:=Lw he;rcases EH ws _ (UZ hf b c) d n k x h with a|⟨y,g,a⟩;(·rw[AL hf]at a;by_cases e:w.name=n∧w.key=k;(·rw[if_pos e]at a;cases hg:w.gone with|true=>rw[hg,if_pos rfl]at a;cases a|false=>rw[hg,if_neg (by decide)]at a;injection a with a;exact .inr ⟨w,tP,e.1,e.2,hg,a⟩);·rw[if_neg e]at a;exact .inl a);·exact .inr ⟨y,tJ _ g,a⟩
theorem M8:∀(cs:List XJ)(f:FL)(i:Nat),Zb f->vN f i cs->∀n k x,Yx (Xw (VX f cs) n) k=tE x->Yx (Xw f n) k=tE x∨∃c∈cs,∃w∈c.writes,w.name=n∧w.key=k∧w.gone=tN∧w.value=x|[],_,_,_,_,_,_,_,h=>.inl h|c::cs,f,i,hf,hg,n,k,x,h=>by obtain⟨e,g⟩:=SI hf hg.2.2.1;rcases M8 cs _ (i+1) (yG hf c.writes) hg.2.2.2 n k x h with a|⟨d,j,a⟩;(·rw[g]at a;rcases EH c.writes f hf e n k x a with b|⟨w,l,b⟩;(·exact .inl b);·exact .inr ⟨c,tP,w,l,b⟩);·exact .inr ⟨d,tJ _ j,a⟩
theorem b8{α:Type}[DecidableEq α]:∀(l L:List α),l.Nodup->(∀x∈l,x∈L)->l.length<=L.length|[],_,_,_=>sK _|x::l,L,h,hs=>by obtain⟨c,d⟩:=List.nodup_cons.1 h;have a:=hs x tP;have:=b8 l (L.erase x) d fun y b=>(List.mem_erase_of_ne (fun e=>c (by rw[<-e];exact b))).2 (hs y (tJ _ b));rw[List.length_erase_of_mem a]at this;have f:0<L.length:=List.length_pos_of_mem a;rw[tT];omega
theorem oH{l:FL}(h:Zb l){t:Tn}(ht:t∈l):Xw l t.1=t.2:=by
 obtain⟨i,a,e⟩:=List.getElem_of_mem ht;have:=rJ h i a;rw[tZ,sH a,Option.getD_some,e]at this;exact this
theorem Bn:∀{l:PL},KZ l->∀{p:Pr},p∈l->Yx l p.1=tE p.2|[],_,_,h=>by cases h|q::l,hr,p,h=>by obtain⟨b,c⟩:=tF.1 hr;rw[YM];rcases tM.1 h with rfl|a;(·rw[if_pos rfl]);·rw[if_neg (Ft (b p a)),Bn c a]
def Wv:List (List UInt8):=[[107],[108],[109],[110],[111]]
def z9(w:Q6):Prop:=w.name∈Cn∧w.key∈Wv
theorem eW(hg:Zu D v)(hw:Gc z9 v)(n:Nat):(Qy v n).length<=3∧EU 5 (Qy v n)∧∀t∈Qy v n,t.1∈Cn:=by
 have b:Zb (Qy v n):=UR _ _ Kg;have key:∀m k x,Yx (Xw (Qy v n) m) k=tE x->m∈Cn∧k∈Wv:=fun m k x h=>by rcases M8 (v.commits.take n) [] 0 Kg (hg.goes.take n) m k x h with a|⟨c,o,w,d,a,f,_⟩;(·rw[cM]at a;cases a);·rw[<-a,<-f];exact hw.1 c (sL o) w d
 have i:∀t∈Qy v n,t.1∈Cn:=fun t l=>by obtain⟨_,a,f⟩:=b.tens t l;cases e:t.2with|nil=>exact absurd e a|cons q r=>refine(key t.1 q.1 q.2 ?_).1;rw[oH b l,e,YM,if_pos rfl]
 refine⟨OU b.rises i,fun m=>?_,i⟩;have j:=(Jn b m).rises;have g:=b8 ((Xw (Qy v n) m).map (·.1)) Wv (by rw[List.Nodup,List.pairwise_map];exact j.imp fun h=>Ft h) (fun k s=>by obtain⟨p,u,rfl⟩:=sS.1 s;exact(key m p.1 p.2 (Bn j u)).2);rw[List.length_map]at g;exact g
theorem I8(n:Int):eQ n∈Wv:=by
 have h:=KY n (many:=5) (by decide);have a:Xy n 5=0∨Xy n 5=1∨Xy n 5=2∨Xy n 5=3∨Xy n 5=4:=by omega
 unfold eQ;rcases a with e|e|e|e|e<;>rw[e]<;>decide
theorem Ld(g:Gr)(h:(qP g).kind=4∨(qP g).kind=5):z9 (QY (qP g)):=by
 rw[Dl (Fp g) h];have e:(qP g).name=WY g.name∧(qP g).key=eQ g.key:=by revert h;unfold qP Fx;(repeat' split);all_goals first|exact fun _=>⟨rfl,rfl⟩|(intro h;simp at h)
 exact⟨by show(qP g).name∈_;rw[e.1];exact Oe _,by show(qP g).key∈_;rw[e.2];exact I8 _⟩
theorem A7{s:Nat}{r:Rq}(hr:JG r)(h:r.kind=4∨r.kind=5->P (QY r)):Ch P (Y0 s r):=fun _ _ a=>by
 have e:Y6 (Y0 s r).data=r:=(Na hr).2;rw[e]at a⊢;exact h a
theorem Gy{a:Ac}(h:a.kind≠1):Ch P a:=fun h1=>absurd h1 h
theorem S6{d:List UInt8}(h:XO d=0)(hk:(Y6 d).kind=4∨(Y6 d).kind=5):5<=d.length:=by
 obtain⟨c,f⟩:=FU h;have b:=(Vk _).1 c;have a:QS (Y6 d).kind=tQ:=by rcases hk with e|e<;>rw[e]<;>decide
 obtain⟨i,_⟩:=b.name a;obtain⟨g,_⟩:=b.key a;rw[<-f,Jk,zL,a];simp only[Xq,if_true,XS,tT,tW];omega
theorem gE(g:Gr):Ch z9 (Rb g):=by
 unfold Rb;split;·exact Gy (by simp)
 ·split;(·exact Gy (by simp));·split;(·exact Gy (by simp));·split;(·exact fun _ a b=>by have:=S6 a b;simp at this);·rw[CA (Fp g)];exact A7 (s:=Xy g.sess 8) (Fp g) (Ld g)
theorem C1(l:List Gr)(n:Nat):∀a∈Yq l n,Xx a∧Ch z9 a:=fun a b=>by
 obtain⟨g,_,rfl⟩:=sS.1 b;exact⟨mX g,gE g⟩
theorem Ah(hD:∀x,(D x).length=4)(hg:Zu D v){a:Ac}(ha:Xx a):(Yo D v a).commits.length<=v.commits.length+1:=by
 unfold Yo;split;·rcases cH D v a.sess.toNat a.data with h|⟨_,_,_,_,_,h⟩;(·rw[h.commits];omega);·rw[h.commits,tW];simp
 ·split;(·split;(·show v.commits.length<=_;omega);·omega);·split;(·split;(·obtain⟨j,_,_,e,_⟩:=UJ hD hg (ha.keep (by assumption)).1;rw[e];show(v.commits.take j).length<=_;rw[List.length_take];omega);·omega);·show v.commits.length<=_;omega
theorem xV(hD:∀x,(D x).length=4):∀(l:List Ac)(v:Sv),Zu D v->(∀a∈l,Xx a)->(l.foldl (Yo D) v).commits.length<=v.commits.length+l.length|[],_,_,_=>by simp|a::l,v,hg,ha=>by have b:=ha a tP;have d:=xV hD l _ (hg.act hD b) (fun x c=>ha x (tJ _ c));have e:=Ah hD hg b;rw[tR,tT];omega
theorem So(hD:∀x,(D x).length=4)(l:List Ac)(h:∀a∈l,Xx a):(Yz D l).commits.length<=l.length:=by
 have:=xV hD l BR (vG D) h;have e:BR.commits.length=0:=rfl;rw[e,Nat.zero_add]at this;exact this
end
section
variable{D:List UInt8->List UInt8}{v:Sv}
theorem A6{s:Nat}{r:Rq}(hw:v.waits s=tN)(hb:v.begun s=!decide (r.kind=1)):ZP v s r=tN:=by
 unfold ZP;rw[hw,hb];by_cases h:r.kind=1<;>simp[h]
theorem fV(hu:v.up=tQ){s:Nat}(hw:v.waits s=tN)(hb:v.begun s=tN):Yo D v (Y0 s (uF 1))=Xd {v with begun:=K9 v.begun s tQ,txns:=K9 v.txns s ⟨(v.synced:Int),[],[]⟩} (Sq s (v.synced:Int)):=by
 rw[Rk v s (zW (.inl rfl)),if_neg (by simp[hu]),V5,if_neg (by decide:¬(uF 1).kind=8),A6 hw (by rw[hb];rfl),if_neg (by decide),if_pos (show(uF 1).kind=1from rfl)]
theorem nP(hu:v.up=tQ){s:Nat}(hw:v.waits s=tN)(hb:v.begun s=tQ)(hk:Jg (v.synced:Int) (v.txns s).start=tQ){r:Rq}(hr:JG r)(h1:r.kind≠1)(h7:r.kind≠7)(h8:r.kind≠8):Yo D v (Y0 s r)=if r.kind=6then Jo D v s else yK v s r:=by
 rw[Rk v s hr,if_neg (by simp[hu]),V5,if_neg h8,A6 hw (by rw[hb];simp[h1]),if_neg (by decide),if_neg h1,if_neg h7,hk,if_neg (by decide)]
theorem oN(hu:v.up=tQ){s:Nat}(hw:v.waits s=tN):Same v (Yo D v (Y0 s (uF 7)))∧(Yo D v (Y0 s (uF 7))).begun s=tN:=by
 rw[Rk v s (zW (.inr (.inr rfl))),if_neg (by simp[hu]),V5,if_neg (by decide:¬(uF 7).kind=8)];unfold ZP;rw[hw,Bool.false_or,if_neg (by decide:¬(uF 7).kind=1)];by_cases a:v.begun s=tQ;·rw[if_neg (by simp[a]),if_neg (by decide:¬(uF 7).kind=1),if_pos (show(uF 7).kind=7from rfl)];exact⟨⟨rfl,rfl,rfl,rfl,rfl,rfl⟩,Zz _ _ _⟩
 ·rw[if_pos (by simp[a])];exact⟨⟨rfl,rfl,rfl,rfl,rfl,rfl⟩,(by simpa using a:v.begun s=tN)⟩
theorem I0(hD:∀x,(D x).length=4)(hg:Zu D v)(hu:v.up=tQ)(hq:v.queue=[]){s:Nat}(hs:s<=7)(hb:v.begun s=tN)(hm:v.commits.length<300){r:Rq}(hr:JG r)(hk:r.kind=4∨r.kind=5)(he:QM (Qy v v.synced) [QY r]=0):∃u,[Y0 s (uF 1),Y0 s r,Y0 s (uF 6),Jr].foldl (Yo D) v=u∧Zu D u∧u.up=tQ∧u.queue=[]∧u.begun s=tN∧u.synced=v.synced+1∧Qy u u.synced=ZQ (Qy v v.synced) [QY r]∧u.commits.length=v.commits.length+1∧u.out=v.out++[Sq s (v.synced:Int),zY s 0,Sq s ((v.synced+1:Nat):Int)]:=by
 have o:v.waits s=tN:=hg.nowait hq s;have h:=hg.turn;rw[hq]at h;have h:v.synced=v.commits.length:=by simpa using h
 have g1:Zu D (Yo D v (Y0 s (uF 1))):=hg.act hD (Kw hs (zW (.inl rfl)));rw[fV hu o hb]at g1;have A:=fV (D:=D) hu o hb;obtain⟨g,b⟩:∃u,u=Xd {v with begun:=K9 v.begun s tQ,txns:=K9 v.txns s ⟨(v.synced:Int),[],[]⟩} (Sq s (v.synced:Int)):=⟨_,rfl⟩;rw[<-b]at A g1;have H:g.up=tQ:=by rw[b];exact hu
 have K:g.waits s=tN:=by rw[b];exact o
 have j:g.begun s=tQ:=by rw[b];exact Zz v.begun s tQ
 have w:g.txns s=⟨(v.synced:Int),[],[]⟩:=by rw[b];exact Zz v.txns s _
 have F:g.synced=v.synced:=by rw[b];rfl
 have N:Jg (g.synced:Int) (g.txns s).start=tQ:=by rw[w,F];exact nN _
 have p:QA (QY r)=0:=FH hr hk;have B:Z4 (g.txns s) (QY r)=0:=by rw[Z4,if_pos ((kH _).2 (g1.tx s j).1),if_pos p,w];split;(·rfl);·rw[if_neg (by simp)]
 have g2:Zu D (Yo D g (Y0 s r)):=g1.act hD (Kw hs hr);have l:Yo D g (Y0 s r)=Xd {g with txns:=K9 g.txns s ⟨(v.synced:Int),[],[QY r]⟩} (zY s 0):=by rw[nP H K j N hr (by omega) (by omega) (by omega),if_neg (by omega),yK,if_pos hk,qR,B,if_pos rfl,Ye,if_pos B,w];rfl
 rw[l]at g2;obtain⟨a,c⟩:∃u,u=Xd {g with txns:=K9 g.txns s ⟨(v.synced:Int),[],[QY r]⟩} (zY s 0):=⟨_,rfl⟩;rw[<-c]at l g2;have I:a.up=tQ:=by rw[c];exact H
 have Q:a.waits s=tN:=by rw[c];exact K
 have y:a.begun s=tQ:=by rw[c];exact j
 have i:a.txns s=⟨(v.synced:Int),[],[QY r]⟩:=by rw[c];exact Zz g.txns s _
 have G:a.synced=v.synced:=by rw[c];exact F
 have k:a.commits=v.commits:=by rw[c,b];rfl
 have E:a.queue=[]:=by rw[c,b];exact hq
 have O:Jg (a.synced:Int) (a.txns s).start=tQ:=by rw[i,G];exact nN _
 have M:Qy a a.commits.length=Qy v v.synced:=by unfold Qy;rw[k,h]
 have n:Ud (a.txns s) a.commits=tN:=by rw[i];unfold Ud;split;(·simp[LJ,nQ]);·rfl
 have C:¬(a.txns s).writes.length=0:=by rw[i];simp
 have g3:Zu D (Yo D a (Y0 s (uF 6))):=g2.act hD (Kw hs (zW (.inr (.inl rfl))));have m:Yo D a (Y0 s (uF 6))={XG a s with tape:=qZ D a.tape (Yk a s),commits:=a.commits++[Yk a s],queue:=a.queue++[s],waits:=K9 a.waits s tQ}:=by rw[nP I Q y O (zW (.inr (.inl rfl))) (by decide) (by decide) (by decide),if_pos (show(uF 6).kind=6from rfl),Jo,if_neg C,if_neg (by rw[E,k];simp;omega),n,if_neg (by decide),if_neg (by rw[M,i];exact fun e=>e he),if_neg (fun e=>e (gX hD g2 y C))]
 rw[m]at g3;obtain⟨d,f⟩:∃u,u={XG a s with tape:=qZ D a.tape (Yk a s),commits:=a.commits++[Yk a s],queue:=a.queue++[s],waits:=K9 a.waits s tQ}:=⟨_,rfl⟩;rw[<-f]at m g3;have J:d.up=tQ:=by rw[f];exact I
 have q:d.queue=[s]:=by rw[f];show a.queue++[s]=_;rw[E];rfl
 have t:d.synced=v.synced:=by rw[f];exact G
 have z:d.commits=v.commits++[Yk a s]:=by rw[f];show a.commits++_=_;rw[k]
 have P:d.out=v.out++[Sq s (v.synced:Int),zY s 0]:=by rw[f,c,b];show(v.out++[Sq s (v.synced:Int)])++[zY s 0]=_;simp
 have L:Yo D d Jr=U3 d:=by rw[Ab,if_pos J]
 refine⟨U3 d,?_,g3.sync,J,rfl,?_,?_,?_,?_,?_⟩;·rw[tR,A,tR,l,tR,m,tR,L];rfl
 ·show d.begun s=tN;rw[f];show K9 a.begun s tN s=tN;rw[Zz]
 ·show d.synced+d.queue.length=_;rw[q,t];rfl
 ·show VX [] (d.commits.take (d.synced+d.queue.length))=_;rw[q,t,z,tU (by rw[tW];simp;omega),E8];show ZQ (VX [] v.commits) (a.txns s).writes=_;rw[i];unfold Qy;rw[h,List.take_length]
 ·show d.commits.length=_;rw[z];simp
 ·show d.out++VD d.synced d.queue=_;rw[P,t,q];simp[VD]
def l5(s:Nat)(t:Int)(F:FL)(n k:List UInt8):Rp:=⟨(s:Int),0,t,Ur F n k,Ux F n k,[],tE (F,n,k)⟩
theorem eI(s:Nat)(t:Int){F:FL}(hF:Zb F){n k:List UInt8}(hn:1<=n.length∧n.length<=8)(hk:1<=k.length∧k.length<=16):VK (l5 s t F n k)=Zs (Ze F)∧Xa (l5 s t F n k)=Xb (Ze F) n∧Zp (l5 s t F n k)=Xb (Xw F n) k∧(l5 s t F n k).found=(Yx (Xw F n) k).isSome∧(l5 s t F n k).value=(Yx (Xw F n) k).getD []:=by
 obtain⟨_,g1,g2⟩:=lV hF n k hn hk;obtain⟨_,a,b⟩:=OV hF n k hn hk;exact⟨by show Gi F=_;rw[Gi,if_pos ((Z6 _).2 hF)],a,b,g1,g2⟩
def iB(k:List UInt8):Rq:=⟨8,[97],k,[],[]⟩
def oO(c:UInt8):Rq:=⟨4,[121],[c],[],[]⟩
def Dc(S:List Ac):List Ac:=S++[Jr,J9,Y0 7 (uF 7)]
theorem Hd(c:UInt8):JG (oO c):=D0 (.inr (.inl rfl)) 121 c
def pC(c:UInt8):List Ac:=[Y0 7 (uF 1),Y0 7 (oO c),Y0 7 (uF 6),Jr]
theorem He{k:List UInt8}(hk:k.length=1):JG (iB k):=by
 match k,hk with|[b],_=>exact D0 (.inr (.inr (.inr rfl))) 97 b
theorem SJ(hD:∀x,(D x).length=4){S:List Ac}(hS:∀a∈S,Xx a∧Ch z9 a)(hl:S.length<=30){k:List UInt8}(hk:k.length=1)(c:UInt8){A B:Oc}(hA:A=N6 (Yz D (Dc S++[Y0 0 (iB k)])))(hB:B=N6 (Yz D (Dc S++pC c++[Y0 0 (iB k)]))):A.replies.length≠0∧B.replies.length≠0∧B.turn=A.turn+1∧∃F,Zb F∧∃P Q:Rp,P=A.replies.getD (A.replies.length-1) zX∧Q=B.replies.getD (B.replies.length-1) zX∧VK Q=Zs (Ze F)∧Xa Q=Xb (Ze F) [97]∧Zp Q=Xb (Xw F [97]) k∧Zp P=Xb (Xw F [97]) k∧P.found=(Yx (Xw F [97]) k).isSome∧P.value=(Yx (Xw F [97]) k).getD []∧Q.found=P.found:=by
 have l:∀a∈S,Xx a:=fun a b=>(hS a b).1;have g0:=Po hD S l;obtain⟨C,z⟩:=Ls (D:=D) g0;have g1:=Fz hD [Jr,J9] _ g0 (fun a b=>by simp only[tM,tK,or_false]at b;rcases b with rfl|rfl;(·exact zB);·exact xL);have o:=xV hD [Jr,J9] _ g0 (fun a b=>by simp only[tM,tK,or_false]at b;rcases b with rfl|rfl;(·exact zB);·exact xL);have G:=F6 hD [Jr,J9] _ g0 (dU hD S hS) (fun a b=>by simp only[tM,tK,or_false]at b;rcases b with rfl|rfl;(·exact⟨zB,Gy (by simp[Jr])⟩);·exact⟨xL,Gy (by simp[J9])⟩);have T:=So hD S l;have M:Yz D (Dc S)=Yo D ([Jr,J9].foldl (Yo D) (Yz D S)) (Y0 7 (uF 7)):=by unfold Dc;rw[Tt];rfl
 generalize[Jr,J9].foldl (Yo D) (Yz D S)=v1 at*;have w:Xx (Y0 7 (uF 7)):=Kw (by decide) (zW (.inr (.inr rfl)));obtain⟨m,v⟩:=oN (D:=D) C (g1.nowait z 7);have g2:=g1.act hD w;have t:=G.act hD g1 w (A7 (P:=z9) (s:=7) (zW (.inr (.inr rfl))) (fun h=>by rcases h with h|h<;>(have:(7:Int)=_:=h;omega)));rw[<-M]at m v g2 t;have X:(Yz D (Dc S)).queue=[]:=by rw[m.queue];exact z
 have E:(Yz D (Dc S)).up=tQ:=by rw[m.up];exact C
 have c2:(Yz D (Dc S)).commits.length<=32:=by rw[m.commits];simp only[tT,List.length_nil]at o;omega
 have I:Yz D (Dc S++[Y0 0 (iB k)])=TO (Yz D (Dc S)) 0 (iB k):=by rw[FA,Di _ _ (He hk) rfl,if_neg (by simp[E])]
 obtain⟨O,r,U⟩:=eW g2 t (Yz D (Dc S)).synced;have g:Zb (Qy (Yz D (Dc S)) (Yz D (Dc S)).synced):=UR _ _ Kg;have q:QY (oO c)=⟨[121],[c],[],tN⟩:=by rw[Dl (Hd c) (.inl rfl)];rfl
 have p:QA (QY (oO c))=0:=FH (Hd c) (.inl rfl);have j:ZA (Qy (Yz D (Dc S)) (Yz D (Dc S)).synced) [QY (oO c)]=0:=En _ _ 5 g (by simpa using p) r (by simp) (by simp;omega);obtain⟨u,H,g3,u3,q3,_,s3,N,_,o3⟩:=I0 hD g2 E X (s:=7) (by decide) v (by omega) (Hd c) (.inl rfl) (by rw[No g _ (by simp)];exact j);have J:Yz D (Dc S++pC c++[Y0 0 (iB k)])=TO u 0 (iB k):=by rw[FA,Tt,show(pC c).foldl (Yo D) (Yz D (Dc S))=u from H,Di _ _ (He hk) rfl,if_neg (by simp[u3])]
 rw[I]at hA;rw[J]at hB;generalize Yz D (Dc S)=v2 at*;have i:Zb (Qy u u.synced):=UR _ _ Kg;have d:Xw (Qy u u.synced) [97]=Xw (Qy v2 v2.synced) [97]:=by rw[N,aH g _ (by simp),if_pos j,show YL (Qy v2 v2.synced) [QY (oO c)]=QZ (Qy v2 v2.synced) (QY (oO c))from rfl];exact N4 g _ _ (by rw[q];exact(by decide:([121]:List UInt8)≠[97]))
 obtain⟨_,_,V,y,W⟩:=eI 0 (v2.synced:Int) g (n:=[97]) (k:=k) (by simp) (by omega);obtain⟨Y,Z,r3,r4,_⟩:=eI 0 (u.synced:Int) i (n:=[97]) (k:=k) (by simp) (by omega);have e:A.replies=v2.out++[l5 0 (v2.synced:Int) (Qy v2 v2.synced) [97] k]:=by rw[hA];rfl
 have f:B.replies=u.out++[l5 0 (u.synced:Int) (Qy u u.synced) [97] k]:=by rw[hB];rfl
 have K:A.replies.getD (A.replies.length-1) zX=l5 0 (v2.synced:Int) (Qy v2 v2.synced) [97] k:=by rw[e];simp
 have L:B.replies.getD (B.replies.length-1) zX=l5 0 (u.synced:Int) (Qy u u.synced) [97] k:=by rw[f];simp
 have R:B.turn=A.turn+1:=by rw[hA,hB];show((u.synced:Nat):Int)=((v2.synced:Nat):Int)+1;rw[s3];omega
 refine⟨by rw[e];simp,by rw[f];simp,R,Qy u u.synced,i,_,_,rfl,rfl,?_⟩;rw[K,L];exact⟨Y,Z,r3,by rw[V,d],by rw[y,d],by rw[W,d],by rw[r4,y,d]⟩
end
def SP.bytes(bs:List UInt8):SP:=⟨fun v w=>Qe w v bs,fun _ _ _ hg h=>h.grown hg⟩
def SP.rq(r:Rq):SP:=⟨fun v w=>JY w v r,fun _ _ _ hg h=>h.grown hg⟩
def SP.ask(s:Int)(d:List UInt8):SP:=⟨fun v w=>∃xa xc,v=sP #[tG tI 1,tG tI s,tG tI 0,tA xa d.length xc]∧Qh 0 w (tA xa d.length xc) d,fun _ _ _ hg⟨xa,xc,e,h⟩=>⟨xa,xc,e,h.keptT hg (.inl rfl)⟩⟩
def SP.own(l:List Ac):SP:=⟨fun v w=>Jj 0 w v l,fun _ _ _ hg h=>h.grown hg⟩
theorem Up{o:sQ}{ev:sJ->tH}{w:tD}{v:tH}{p:tH->tD->Prop}(h:(execOp ev o).run tC w=.ok (.value v) w)(hp:p v w):GO tC o ev w (fun v w'=>tL w w' tB∧p v w'):=GO.val h ⟨Qb _ _,hp⟩
theorem AS{o:sQ}{ev:sJ->tH}{w:tD}{c:Nat}{x:Int}{b:UInt8}(h:(execOp ev o).run tC w=.ok (.value (tA (tE ⟨w.heap.size,0,tB⟩) 1 1)) (w.alloc (.cells #[tG .u8 x] 5)))(hx:x=(c:Int))(hc:c<256)(hb:b=UInt8.ofNat c):GO tC o ev w (fun v w'=>tL w w' tB∧Qe w' v [b]):=GO.val h ⟨tS _ _ tB,by
 rw[hb];exact(cK hx hc (tV w _)).1⟩
theorem Ni{o:sQ}{ev:sJ->tH}{w:tD}{s:Int}{v:tH}{r:Rq}{d:List UInt8}(h:(execOp ev o).run tC w=.ok (.enter 6 #[tG tI s,v]) w)(hP:UA w)(hv:JY w v r)(hr:JG r)(hd:d=Jk r):GO tC o ev w (fun v w'=>tL w w' tB∧(SP.ask s d).p v w'):=by
 refine GO.call h ((Dz w s v r hP hv hr).mono ?_);rintro e w'⟨c,f,rfl,b,a⟩;subst hd;exact⟨_,rfl,a,c,f,rfl,b⟩
theorem NU{w:tD}{o:sQ}{a:Act}{K:Act->tD->Prop}{Q:Exit->Act->tD->Prop}(s x:sJ)(ho:o.op=.call {callee:=.builtin .append,args:=#[s,x],argTypes:=#[29,29]})(rb:Nat)(v:tH)(l:List Ac)(hs:a.eval s=v)(hown:Jj rb w v l)(r2:Nat)(u:tH)(m:List Ac)(hx:a.eval x=u)(hsrc:J7 r2 w u m)(hl:l.length+m.length<=1000)(hbase:rb<=w.heap.size)(h:∀v' w',iS rb w w' v v' (l++m)->K (a.put o.dst v') w'):o.wp tC a w K Q:=by
 by_cases c:l++m=[];·obtain⟨rfl,rfl⟩:=sI.1 c;have f:=hown.2 rfl;obtain⟨r,t,rfl⟩:=hsrc.shape;obtain⟨q,j,k,n,p⟩:=sV Nk;have b:=VL (P:=tC) (w:=w) rb 29 o.type 32 q 4 sN j (tA tB 0 0) 0 [] (sM _ _ _ _) r t;rw[f]at hs;unfold Oper.wp;simp[execOp,ho,resolve,invoke,builtin,hs,hx,b,Result.andThen];rw[f]at hown h;exact h _ w ⟨hown,KL.refl _,⟨rfl,rfl,rfl,tY _,fun _ _ _=>rfl⟩,fun _ e=>.inl e⟩
 ·refine uS s x ho rb v l hs hown.1 r2 u m hx hsrc (by omega) hbase fun v' w' g d i=>h v' w' ⟨⟨g,fun e=>absurd e c⟩,KL.turn d hown.row,d,i⟩
def cV:Prop:=∀(w:tD)(v:tH)(l:List Gr)(most:Nat),UV w v l->Sa l->UA w->most<=1000->sU tC 5 #[v,tG tI (most:Int)] w fun e w'=>∃x,e=.returned x∧Jj w.heap.size w' x (Yq l most)∧tL w w' tB
theorem IZ:cV:=by
 intro w v l a W T Q hm;obtain⟨la,lc,rfl⟩:=W.shape;have HF:Hid (Sa l):=T;have HT:Hid (UA w):=Q;clear T Q;go_enter Tryz.func5,Tryz.ntmps5;go_wp2_with fail;go_loopw[5,6](fun cv i wr=>∃m:Nat,m<=l.length∧m<=a∧i=tG tI (m:Int)∧Jj w.heap.size wr cv (Yq l m)∧tL w wr tB)(fun _ i _=>l.length-(intOf i).toNat);case atStart=>exact⟨0,by omega,by omega,rfl,Bv _ _,Qb _ _⟩
 case round=>obtain⟨m,ai,aj,rfl,c,A⟩:=hrel;obtain⟨E,d,rfl⟩:=c.shape;obtain⟨f,g⟩:∃f,f=Yq l m:=⟨_,rfl⟩;(have z:f.length=m:=by rw[g,A9];omega);rw[<-g]at c⊢;have r:Hid (Jj w.heap.size wr (tA E f.length d) f):=c;have s:Hid (J7 w.heap.size wr (tA E f.length d) f):=c.1;have n:Hid (f=Yq l m):=g;(have S:f.length<=1000:=by omega);have Z:Hid (f.length=m):=z;clear c g z;by_cases j:m<l.length;(·(have i1:(m:Int)<(l.length:Int):=by omega);by_cases U:m<a;(·(have i2:(m:Int)<(a:Int):=by omega);obtain⟨b,o,rfl,y⟩:=W.at m j;obtain⟨c1,c2,c3,c4,c5⟩:=y.grown A;have D:yV (l.getD m vP):=HF.out _ (by rw[tZ,sH j];exact List.getElem_mem j);have t:Hid (Yq l (m+1)=Yq l m++[Rb (l.getD m vP)]):=Cl j;have J:Hid (sU tC 10 #[sP #[tG tI (l.getD m vP).kind,tG tI (l.getD m vP).sess,tG tI (l.getD m vP).name,tG tI (l.getD m vP).key,tG tI (l.getD m vP).value]] wr (rB wr (Rb (l.getD m vP)))):=gB wr _ D (HT.out.grown A);obtain⟨X,R⟩:∃X,X=Rb (l.getD m vP):=⟨_,rfl⟩;rw[<-R]at J t;generalize l.getD m vP=P at*;clear y D R;go_wp2_with fail;refine J.out.mono ?_;rintro e Y⟨vd,rfl,N,p⟩;obtain⟨F,G,rfl⟩:=N.slice.shape;obtain⟨x,u,h,O⟩:=Zr Y (.cells #[tG tI X.kind,tG tI X.sess,tG tI X.keep,tA F X.data.length G] 32);obtain⟨⟨z0,z1,z2,z3⟩,_⟩:=Qi (Qb x tB) O.out;have k:=Qa A (Qa p h);have q:Hid (J7 w.heap.size x (tA E f.length d) f):=s.out.grownNone (Qa p h);have I:Hid (Qh 0 (x.alloc (.cells #[tG tI X.kind,tG tI X.sess,tG tI X.keep,tA F X.data.length G] 32)) (tA F X.data.length G) X.data):=(N.keptT h (.inl rfl)).keptT (tS _ _ _) (.inl rfl);have V:=k.size;clear N s J p h c1 c2 c3 c4 c5;obtain⟨B,K⟩:∃B,B=Y.heap.size:=⟨_,rfl⟩;rw[<-K]at z0 z1 z2 z3 O;go_upto_region 6with fail;rw[<-u.out,<-K];clear K u;go_wp2_with(at_builtin;refine Fu rfl _ _ rfl w.heap.size (tA E f.length d) f rfl (q.out.alloc _) (tA F X.data.length G) X I.out x.heap.size (tV x _) rfl (by omega) (by simp;omega) ?_;intro v4 w4 M L);have C:tL w w4 tB:=RQ (Qt k _) (q.out.alloc _) (tY _) L;go_roundw;(case rel=>exact⟨m+1,by omega,by omega,by go_num,by rw[t.out,<-n.out];exact⟨M,fun e=>by simp at e⟩,C⟩);case measure=>simp[intOf]<;>omega);·(have i2:¬(m:Int)<(a:Int):=by omega);(obtain rfl:m=a:=by omega);go_wp2;go_ret;exact⟨_,rfl,by rw[<-n.out];exact r.out,A⟩);·(have i1:¬(m:Int)<(l.length:Int):=by omega);(have H:Hid (Yq l a=Yq l m):=by show _=_;unfold Yq;rw[tU (by omega),tU (by omega)]);go_wp2;go_ret;exact⟨_,rfl,by rw[H.out,<-n.out];exact r.out,A⟩
end Go.Proofs.YtcieibjgedmdlaaGreatDoor
