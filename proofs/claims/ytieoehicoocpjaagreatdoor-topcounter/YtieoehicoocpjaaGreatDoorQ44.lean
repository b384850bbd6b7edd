/-
  Texts of this proof, joined, with few blanks: AcN, AcL, TAskQ, TLit, RoundsF, FewF, TenantF, CounterF, SvFr.
-/
import Derived.Test.YtieoehicoocpjaaGreatDoorQ43
import Derived.Laws.Tables
set_option maxRecDepth 100000
set_option maxHeartbeats 8000000
open Bool renaming false->H,true->J
open Go renaming World->I,Value->T,Oper->tM,TypeId->tR,heap_alloc_new->tV,Operand->tW
open Go.IntKind renaming i64->O
open Go.Proofs.Tryz renaming prog->X
open Go.Value renaming slice->C,int->N,bool->tI,agg->tP
open Go.World renaming grownBy->tB,grownBy_alloc->tG
open List renaming not_mem_nil->V,mem_cons->Y,mem_append->p,length_append->tC,mem_range->tD,length_pos_of_mem->tE,mem_singleton->tH,length_take->tJ,take_range->tK,append_nil->tL,map_take->tN,mem_map->tQ,range->tU
open Nat renaming min_eq_left->z,le_refl->tA,zero_le->tS
open Option renaming none->F,some->M
open UInt8 renaming ofNat->G
namespace Go.Proofs.YtieoehicoocpjaaGreatDoor
open Go.RowKit
def K9(rb:Nat)(w:I)(v:T)(l:List Ac):Prop:=U5 rb w v l∧(l=[]->v=C F 0 0)
theorem Iw(rb:Nat)(w:I):K9 rb w (C F 0 0) []:=⟨Io _ _,fun _=>rfl⟩
theorem K9.grown{rb:Nat}{w w':I}{v:T}{l:List Ac}(h:K9 rb w v l)(hg:tB w w' F):K9 rb w' v l:=⟨h.1.grownNone hg,h.2⟩
theorem K9.shape{rb:Nat}{w:I}{v:T}{l:List Ac}(h:K9 rb w v l):∃a cap,v=C a l.length cap:=h.1.shape
theorem K9.list{rb:Nat}{w:I}{v:T}{l:List Ac}(h:K9 rb w v l):YF w v l:=h.1.list
theorem K9.row{rb:Nat}{w:I}{v:T}{l:List Ac}(h:K9 rb w v l):∀g,v.ownBlock=M g->∃cs t fz,w.heap[g]?=M (.cells cs t fz)∧¬VJ t∧t≠48∧∀q,cs[0]?≠M (N .u8 q):=fun g e=>by
 obtain⟨⟨us,hul,hr,hp⟩,h0⟩:=h;rcases hr.2with⟨rfl,_⟩|⟨g',cap,cur,rfl,hb,hg,hn,hmx,hcs,ht⟩;·cases e
 ·cases e;refine⟨cur,_,_,hg,by simp[VJ],by decide,fun q hq=>?_⟩;cases us with|nil=>have:=h0 (by rw[<-hul];rfl);cases this|cons x us=>(have hl:0<l.length:=by rw[<-hul];simp);(have e:(cur.toList.take (l.length*4))[0]?=(Jk (x::us))[0]?:=by rw[ht]);rw[List.getElem?_take,if_pos (by omega),Array.getElem?_toList,hq]at e;simp[Jk]at e
structure gX (rb : Nat) (w w' : I) (v v' : T) (l : List Ac) : Prop where
  own : K9 rb w' v' l
  kl : KL w w'
  grown : tB w w' v.ownBlock
  lies : ∀ g, v'.ownBlock = M g -> v.ownBlock = M g ∨ w.heap.size <= g
theorem Xx{w:I}{ops:Array tM}{rest:List tM}{o:tM}{a:Act}{Q:Exit->Act->I->Prop}(hgd:o.guard=F)(s x:tW)(ho:o.op=.call {callee:=.builtin .append,args:=#[s,x],argTypes:=#[25,25]})(rb:Nat)(v:T)(l:List Ac)(hs:a.eval s=v)(hown:K9 rb w v l)(r2:Nat)(u:T)(m:List Ac)(hx:a.eval x=u)(hsrc:U5 r2 w u m)(hl:l.length+m.length<=1000)(hbase:rb<=w.heap.size)(h:∀v' w',gX rb w w' v v' (l++m)->wpList X ops Q rest (a.put o.dst v') w'):wpList X ops Q (o::rest) a w:=by
 by_cases h0:l++m=[];·obtain⟨rfl,rfl⟩:=List.append_eq_nil_iff.1 h0;have hv:=hown.2 rfl;obtain⟨xa,xc,rfl⟩:=hsrc.shape;obtain⟨i0,hi,hz0,hz1,hz2⟩:=info_parts Av;refine wpList_plain hgd fun K hK=>?_;have hrun:=qU (P:=X) (w:=w) rb 25 o.type 38 i0 4 Tryz.underlying25 hi (C F 0 0) 0 [] (World.ownsRow_nil _ _ _ _) xa xc;rw[hv]at hs;unfold Oper.wp;simp[execOp,ho,resolve,invoke,builtin,hs,hx,hrun,Result.andThen];rw[hv]at hown h;exact hK _ _ (h _ w ⟨hown,KL.refl _,⟨rfl,rfl,rfl,tA _,fun _ _ _=>rfl⟩,fun _ e=>.inl e⟩)
 ·refine vE hgd s x ho rb v l hs hown.1 r2 u m hx hsrc (by omega) hbase fun v' w' h1 h2 h3=>h v' w' ⟨⟨h1,fun e=>absurd e h0⟩,KL.turn h2 hown.row,h2,h3⟩
theorem KN{rb:Nat}{w W w1:I}{v:T}{l:List Ac}(h:tB w W F)(ho:K9 rb W v l)(hb:w.heap.size<=rb)(hg:tB W w1 v.ownBlock):tB w w1 F:=CD h ho.1 hb hg
theorem ID(W:I)(A:Ac)(vd:T)(hp:Qi 0 W vd A.data):U5 0 (W.alloc (.cells #[N O A.kind,N O A.sess,N O A.keep,vd] 38)) (C (M ⟨W.heap.size,0,F⟩) 1 1) [A]:=Dq (w:=W.alloc _) 0 W.heap.size [(A,vd)] (tV W _) (tS _) (by
 simp) fun y hy=>by
 simp only[Y,V,or_false]at hy;subst hy;exact hp.keptT (tG _ _ F) (.inl rfl)
theorem cN(w:I):Qi 0 w (C F 0 0) []:=⟨QH w,.inl rfl⟩
theorem uM(W:I):U5 0 (W.alloc (.cells #[N O 2,N O 0,N O 0,C F 0 0] 38)) (C (M ⟨W.heap.size,0,F⟩) 1 1) [Yo]:=ID W Yo _ (cN W)
def To(s:Int)(w:I)(d:List UInt8)(e:Ending)(w':I):Prop:=∃xa xc,e=.returned (tP #[N O 1,N O s,N O 0,C xa d.length xc])∧Qi 0 w' (C xa d.length xc) d∧tB w w' F
theorem aQ(w:I)(s:Int)(v:T)(r:Rq)(hT:Vj w)(hv:X0 w v r)(hr:Yf r):Calls X 11 #[N O s,v] w (To s w (JH r)):=by
 refine(I4 w s v r hT hv (kG hr)).mono ?_;rintro e w'⟨x,rfl,hx,hg⟩;rw[dD hr]at hx;obtain⟨xa,xc,rfl⟩:=hx.slice.shape;exact⟨xa,xc,rfl,hx,hg⟩
theorem Ol(w:I)(k:Int):X0 w (tP #[N O k,C F 0 0,C F 0 0,C F 0 0,C F 0 0]) (My k):=⟨_,_,_,_,rfl,QH w,QH w,QH w,QH w⟩
theorem TU(rb:Nat)(W:I)(hrb:rb<=W.heap.size)(l:List (Ac×T))(h0:l≠[])(hl:l.length<=1000)(hp:∀y∈l,Qi 0 W y.2 y.1.data)(cs:Array T)(hcs:cs.toList=Jk l):K9 rb (W.alloc (.cells cs 38)) (C (M ⟨W.heap.size,0,F⟩) l.length l.length) (l.map (fun y=>y.1)):=by
 obtain rfl:cs=⟨Jk l⟩:=by rw[<-hcs]
 exact⟨Dq (w:=W.alloc _) rb W.heap.size l (tV W _) hrb hl fun y hy=>(hp y hy).keptT (tG _ _ F) (.inl rfl),fun e=>absurd (List.map_eq_nil_iff.1 e) h0⟩
theorem Rg.all{w:I}{a:Option Addr}{n cap:Nat}{l:List Rp}(h:Rg w (C a n cap) l)(i:Nat)(hi:i<l.length):∃b o a4 c4 a5 c5 a6 c6 a8 c8 a9 c9 a10 c10 a12 c12 a13 c13 a14 c14,a=M ⟨b,o,F⟩∧w.cell? ⟨b,o+i*15,F⟩=M (N O (l.getD i GP).sess)∧w.cell? ⟨b,o+i*15+1,F⟩=M (N O (l.getD i GP).code)∧w.cell? ⟨b,o+i*15+2,F⟩=M (N O (l.getD i GP).turn)∧w.cell? ⟨b,o+i*15+3,F⟩=M (tI (l.getD i GP).found)∧w.cell? ⟨b,o+i*15+4,F⟩=M (C a4 (l.getD i GP).value.length c4)∧w.cell? ⟨b,o+i*15+5,F⟩=M (C a5 (l.getD i GP).pairs.length c5)∧w.cell? ⟨b,o+i*15+6,F⟩=M (C a6 (jN (l.getD i GP)).length c6)∧w.cell? ⟨b,o+i*15+7,F⟩=M (tI (Jb (l.getD i GP)).empty)∧w.cell? ⟨b,o+i*15+8,F⟩=M (C a8 (Jb (l.getD i GP)).steps.length c8)∧w.cell? ⟨b,o+i*15+9,F⟩=M (C a9 (Jb (l.getD i GP)).pair.1.length c9)∧w.cell? ⟨b,o+i*15+10,F⟩=M (C a10 (Jb (l.getD i GP)).pair.2.length c10)∧w.cell? ⟨b,o+i*15+11,F⟩=M (tI (Ja (l.getD i GP)).empty)∧w.cell? ⟨b,o+i*15+12,F⟩=M (C a12 (Ja (l.getD i GP)).steps.length c12)∧w.cell? ⟨b,o+i*15+13,F⟩=M (C a13 (Ja (l.getD i GP)).pair.1.length c13)∧w.cell? ⟨b,o+i*15+14,F⟩=M (C a14 (Ja (l.getD i GP)).pair.2.length c14)∧Qe w (C a4 (l.getD i GP).value.length c4) (l.getD i GP).value∧Qq w (C a5 (l.getD i GP).pairs.length c5) (l.getD i GP).pairs∧Qe w (C a6 (jN (l.getD i GP)).length c6) (jN (l.getD i GP))∧KH w (tP #[tI (Jb (l.getD i GP)).empty,C a8 (Jb (l.getD i GP)).steps.length c8,C a9 (Jb (l.getD i GP)).pair.1.length c9,C a10 (Jb (l.getD i GP)).pair.2.length c10]) (Jb (l.getD i GP))∧KH w (tP #[tI (Ja (l.getD i GP)).empty,C a12 (Ja (l.getD i GP)).steps.length c12,C a13 (Ja (l.getD i GP)).pair.1.length c13,C a14 (Ja (l.getD i GP)).pair.2.length c14]) (Ja (l.getD i GP)):=by
 obtain⟨a',cap',e,_,h⟩:=h;simp only[Value.slice.injEq]at e;obtain⟨rfl,_,_⟩:=e;rcases h with rfl|⟨b,o,rfl,h⟩;·simp at hi
 ·obtain⟨cs,h1,h2,vv,vp,vr,oe,os,ok,ov,ie,is,ik,iv,e,h4,h5,h6,h7,h8⟩:=h i hi;simp only[Value.agg.injEq,Array.mk.injEq]at e;subst e;obtain⟨a4,c4,rfl⟩:=h4.shape;obtain⟨a5,c5,rfl⟩:=h5.shape;obtain⟨a6,c6,rfl⟩:=h6.shape;have h7':=h7;have h8':=h8;obtain⟨vs,vk,vw,e7,k1,k2,k3⟩:=h7;obtain⟨us,uk,uw,e8,m1,m2,m3⟩:=h8;simp only[Value.agg.injEq,Array.mk.injEq,List.cons.injEq,and_true]at e7 e8;obtain⟨rfl,rfl,rfl,rfl⟩:=e7;obtain⟨rfl,rfl,rfl,rfl⟩:=e8;obtain⟨a8,c8,rfl⟩:=k1.shape;obtain⟨a9,c9,rfl⟩:=k2.shape;obtain⟨a10,c10,rfl⟩:=k3.shape;obtain⟨a12,c12,rfl⟩:=m1.shape;obtain⟨a13,c13,rfl⟩:=m2.shape;obtain⟨a14,c14,rfl⟩:=m3.shape;exact⟨b,o,a4,c4,a5,c5,a6,c6,a8,c8,a9,c9,a10,c10,a12,c12,a13,c13,a14,c14,rfl,h2 0 (by decide),h2 1 (by decide),h2 2 (by decide),h2 3 (by decide),h2 4 (by decide),h2 5 (by decide),h2 6 (by decide),h2 7 (by decide),h2 8 (by decide),h2 9 (by decide),h2 10 (by decide),h2 11 (by decide),h2 12 (by decide),h2 13 (by decide),h2 14 (by decide),h4,h5,h6,h7',h8'⟩
theorem kM{w:I}{b:Nat}{n:Nat}{x:Int}(hx:x=(n:Int))(hn:n<256)(hb:w.heap[b]?=M (.cells #[N .u8 x] 5)):Qi 0 w (C (M ⟨b,0,F⟩) 1 1) [G n]:=by
 subst hx;refine⟨⟨M ⟨b,0,F⟩,1,rfl,tA _,.inr ⟨b,0,rfl,fun i hi=>?_⟩⟩,.inr ⟨b,rfl,(Array.getElem?_eq_some_iff.1 hb).1,.inr ⟨_,_,hb⟩⟩⟩;obtain rfl:i=0:=by simpa using hi
 simp[World.cell?,hb,Nat.mod_eq_of_lt hn]
theorem eP{k:Int}(hk:k=2∨k=4∨k=5∨k=8)(a b:UInt8):Yf ⟨k,[a],[b],[],[]⟩:=by
 rcases hk with rfl|rfl|rfl|rfl<;>(refine⟨⟨?_,?_⟩,?_,?_,?_,?_,?_,?_,?_,?_⟩<;>simp[QW])
theorem Iu(a b c:UInt8):Yf ⟨4,[a],[b],[],[c]⟩:=by
 refine⟨⟨?_,?_⟩,?_,?_,?_,?_,?_,?_,?_,?_⟩<;>simp[QW]
section
variable{D:List UInt8->List UInt8}
theorem Wq{r:Rq}(hr:Yf r)(hk:r.kind=4∨r.kind=5):ZW r=⟨r.name,r.key,r.value,decide (r.kind=5)⟩:=by
 have h:YN r=0:=by rw[YN,(Yd r).2 hr,if_pos rfl,if_pos hk]
 rw[ZW,if_pos h]
theorem IT(n:Nat):ZI (n:Int) (n:Int)=J:=by
 rw[ZI,decide_eq_true_iff];omega
end
section
variable{D:List UInt8->List UInt8}{v:Sv}
variable{P:Zf->Prop}
theorem W9{α:Type}[DecidableEq α]:∀(l L:List α),l.Nodup->(∀x∈l,x∈L)->l.length<=L.length|[],_,_,_=>tS _|x::l,L,h,hs=>by obtain⟨h1,h2⟩:=List.nodup_cons.1 h;have hx:=hs x List.mem_cons_self;have:=W9 l (L.erase x) h2 fun y hy=>(List.mem_erase_of_ne (fun e=>h1 (by rw[<-e];exact hy))).2 (hs y (List.mem_cons_of_mem _ hy));rw[List.length_erase_of_mem hx]at this;have hp:0<L.length:=tE hx;rw[List.length_cons];omega
end
section
variable{D:List UInt8->List UInt8}{v:Sv}
theorem Cj{s:Nat}{r:Rq}(hw:v.waits s=H)(hb:v.begun s=!decide (r.kind=1)):QK v s r=H:=by
 unfold QK;rw[hw,hb];by_cases h:r.kind=1<;>simp[h]
theorem fJ(hu:v.up=J){s:Nat}(hw:v.waits s=H)(hb:v.begun s=H):Y8 D v (Uh s (My 1))=ZC {v with begun:=Ks v.begun s J,txns:=Ks v.txns s ⟨(v.synced:Int),[],[]⟩} (Sz s (v.synced:Int)):=by
 rw[Nf v s (vG (.inl rfl)),if_neg (by simp[hu]),JK,if_neg (by decide:¬(My 1).kind=8),Cj hw (by rw[hb];rfl),if_neg (by decide),if_pos (show(My 1).kind=1from rfl)]
theorem Oi(hu:v.up=J){s:Nat}(hw:v.waits s=H)(hb:v.begun s=J)(hk:ZI (v.synced:Int) (v.txns s).start=J){r:Rq}(hr:Yf r)(h1:r.kind≠1)(h7:r.kind≠7)(h8:r.kind≠8):Y8 D v (Uh s r)=if r.kind=6then Y9 D v s else xH v s r:=by
 rw[Nf v s hr,if_neg (by simp[hu]),JK,if_neg h8,Cj hw (by rw[hb];simp[h1]),if_neg (by decide),if_neg h1,if_neg h7,hk,if_neg (by decide)]
end
section
variable{D:List UInt8->List UInt8}{v:Sv}{m:Nat}
def WL:Rq:=⟨2,[99],[110],[],[]⟩
def aE(b:UInt8):Rq:=⟨4,[99],[110],[],[b]⟩
def IU(i:Nat):Zf:=⟨[99],[110],[G i],H⟩
def aF(n:Nat):List XA:=(tU n).map fun i=>⟨((i+1:Nat):Int),[IU (i+1)]⟩
def Ru(n:Nat):FL:=if n=0then[]else[([99],[([110],[G n])])]
theorem jS:Yf WL:=eP (.inl rfl) 99 110
theorem Af(b:UInt8):Yf (aE b):=Iu 99 110 b
theorem F0(n:Nat):aF (n+1)=aF n++[⟨((n+1:Nat):Int),[IU (n+1)]⟩]:=by
 simp[aF,List.range_succ]
theorem OC(n k:Nat)(h:k<=n):(aF n).take k=aF k:=by
 unfold aF;rw[<-tN,tK,z h]
theorem bS(x:UInt8):QT [] [⟨[99],[110],[x],H⟩]=0∧Z6 [] [⟨[99],[110],[x],H⟩]=[([99],[([110],[x])])]:=⟨by
 kernel_rfl,by
 kernel_rfl⟩
theorem bG(x y:UInt8):QT [([99],[([110],[x])])] [⟨[99],[110],[y],H⟩]=0∧Z6 [([99],[([110],[x])])] [⟨[99],[110],[y],H⟩]=[([99],[([110],[y])])]:=⟨by
 kernel_rfl,by
 kernel_rfl⟩
theorem Do(n m:Nat):QT (Ru n) [IU m]=0∧Z6 (Ru n) [IU m]=[([99],[([110],[G m])])]:=by
 unfold Ru IU;by_cases h:n=0;·rw[if_pos h];exact bS _
 ·rw[if_neg h];exact bG _ _
theorem Sx:∀n,V8 [] (aF n)=Ru n|0=>rfl|n+1=>by rw[F0,TP,Sx n,(Do n (n+1)).2,Ru,if_neg (by omega)]
theorem Mh(n:Nat):Kl (Ru n) [99] [110]=decide (n≠0)∧Km (Ru n) [99] [110]=(if n=0then[]else[G n]):=by
 unfold Ru;by_cases h:n=0;·rw[if_pos h,if_pos h];exact⟨by subst h;decide,by decide⟩
 ·rw[if_neg h,if_neg h];have h1:∀x:UInt8,Kl [([99],[([110],[x])])] [99] [110]=J∧Km [([99],[([110],[x])])] [99] [110]=[x]:=fun x=>⟨by kernel_rfl,by kernel_rfl⟩;exact⟨by rw[(h1 _).1];simp[h],(h1 _).2⟩
structure aH (v : Sv) (m : Nat) : Prop where
  up : v.up = J
  begun : ∀ s, v.begun s = H
  commits : v.commits = aF v.commits.length
  few : v.commits.length <= m
  some : 0 < m -> 0 < v.commits.length
  who : ∀ s ∈ v.queue, s < 4
theorem aH.fold(h:aH v m){k:Nat}(hk:k<=v.commits.length):Qz v k=Ru k:=by
 unfold Qz;rw[h.commits,OC _ _ hk,Sx]
def fU(s y:Nat):Rp:=⟨(s:Int),0,(y:Int),decide (y≠0),if y=0then[]else[G y],[],F⟩
def WK(s:Nat):List Ac:=[Uh s (My 1),Uh s WL]
def aG(s y:Nat):List Ac:=[Uh s (aE (G (y+1))),Uh s (My 6)]
theorem DJ(h:aH v m){s:Nat}(hw:v.waits s=J):(WK s).foldl (Y8 D) v=ZC (ZC v (Va s 6)) (Va s 6):=by
 have e:∀(u:Sv)(r:Rq),Yf r->r.kind≠8->u.up=J->u.waits s=J->Y8 D u (Uh s r)=ZC u (Va s 6):=fun u r hr h8 hu hw=>by rw[Nf u s hr,if_neg (by simp[hu]),JK,if_neg h8];(have hb:QK u s r=J:=by unfold QK;rw[hw];rfl);rw[hb,if_pos rfl]
 show Y8 D (Y8 D v (Uh s (My 1))) (Uh s WL)=_;rw[e v _ (vG (.inl rfl)) (by decide) h.up hw,e (ZC v (Va s 6)) _ jS (by decide) h.up hw]
def gN(s y:Nat)(v:Sv):Sv:={v with begun:=Ks v.begun s J,txns:=Ks v.txns s ⟨(y:Int),[⟨[99],[110],H,[]⟩],[]⟩,out:=v.out++[Sz s (y:Int),fU s y]}
theorem TV(hD:∀x,(D x).length=4)(hg:Zd D v)(h:aH v m){s:Nat}(hs:s<=7)(hw:v.waits s=H):(WK s).foldl (Y8 D) v=gN s v.synced v:=by
 have g1:Zd D (Y8 D v (Uh s (My 1))):=hg.act hD (U6 hs (vG (.inl rfl)));have e1:=fJ (D:=D) h.up hw (h.begun s);obtain⟨v1,hv1⟩:∃u,u=ZC {v with begun:=Ks v.begun s J,txns:=Ks v.txns s ⟨(v.synced:Int),[],[]⟩} (Sz s (v.synced:Int)):=⟨_,rfl⟩;rw[<-hv1]at e1;rw[e1]at g1;have u1:v1.up=J:=by rw[hv1];exact h.up
 have w1:v1.waits s=H:=by rw[hv1];exact hw
 have b1:v1.begun s=J:=by rw[hv1];exact Zm v.begun s J
 have x1:v1.txns s=⟨(v.synced:Int),[],[]⟩:=by rw[hv1];exact Zm v.txns s _
 have s1:v1.synced=v.synced:=by rw[hv1];rfl
 have k1:ZI (v1.synced:Int) (v1.txns s).start=J:=by rw[x1,s1];exact IT _
 have hsy:v.synced<=v.commits.length:=by have:=hg.turn;omega
 have f1:Qz v1 (v1.txns s).start.toNat=Ru v.synced:=by rw[x1];show Qz v1 (v.synced:Int).toNat=_;rw[Int.toNat_natCast,hv1];exact h.fold hsy
 have hF:ZQ (Ru v.synced):=by rw[<-h.fold hsy];exact Vm _ _ Uy
 have ht:=(g1.tx s b1).1;have h0:Kj (Ru v.synced) (v1.txns s) [99] [110]=0:=Nh hF ht ⟨by simp,by simp⟩ ⟨by simp,by simp⟩;have at0:eG (v1.txns s).writes [99] [110]=F:=by rw[x1];rfl
 have l1:Uv (Ru v.synced) (v1.txns s) [99] [110]=H:=by rw[Uv,if_pos h0,at0];rfl
 have l2:K8 (Ru v.synced) (v1.txns s) [99] [110]=decide (v.synced≠0):=by rw[K8,if_pos h0,at0];exact(Mh v.synced).1
 have l3:KW (Ru v.synced) (v1.txns s) [99] [110]=(if v.synced=0then[]else[G v.synced]):=by rw[KW,if_pos h0,at0];exact(Mh v.synced).2
 have hrd:Zh WL=⟨[99],[110],H,[]⟩:=by rw[Zh,if_pos (by rw[(El jS).1];rfl)];rfl
 have hre:Xq (Zh WL)=0:=zC jS (.inl rfl);have hn:Xj (v1.txns s) (Zh WL)=0:=by rw[SS ht hre,x1];simp[Fk]
 have e2:Y8 D v1 (Uh s WL)=ZC {v1 with txns:=Ks v1.txns s ⟨(v.synced:Int),[⟨[99],[110],H,[]⟩],[]⟩} (fU s v.synced):=by rw[Oi u1 w1 b1 k1 jS (by decide) (by decide) (by decide),if_neg (by decide),xH,if_neg (by decide),if_pos (show WL.kind=2from rfl),Nj,f1];show(if Uv (Ru v.synced) (v1.txns s) [99] [110]=J then _ else _)=_;rw[l1,if_neg (by decide),UT,hn,if_pos rfl];(have e3:XT (v1.txns s) (Zh WL)=⟨(v.synced:Int),[⟨[99],[110],H,[]⟩],[]⟩:=by rw[XT,if_pos hn,hrd,x1,if_neg (by simp[Fk])];rfl);rw[e3];show ZC _ ⟨(s:Int),0,(v1.txns s).start,K8 (Ru v.synced) (v1.txns s) [99] [110],KW (Ru v.synced) (v1.txns s) [99] [110],[],F⟩=_;rw[l2,l3,x1];rfl
 show Y8 D (Y8 D v (Uh s (My 1))) (Uh s WL)=_;rw[e1,e2,hv1];unfold gN ZC;have eu:Ks (Ks v.txns s ⟨(v.synced:Int),[],[]⟩) s (⟨(v.synced:Int),[⟨[99],[110],H,[]⟩],[]⟩:Tx)=Ks v.txns s ⟨(v.synced:Int),[⟨[99],[110],H,[]⟩],[]⟩:=by funext j;by_cases e:j=s;(·rw[e,Zm,Zm]);·rw[Q4 _ _ e,Q4 _ _ e,Q4 _ _ e]
 simp only[List.append_assoc,List.cons_append,List.nil_append];rw[eu]
theorem LH(hD:∀x,(D x).length=4)(hg:Zd D v)(h:aH v m)(hm:m<200){s:Nat}(hs:s<4)(hw:v.waits s=H):aH ((aG s v.synced).foldl (Y8 D) (gN s v.synced v)) (m+1):=by
 have hr:=TV (D:=D) hD hg h (show s<=7by omega) hw;have g2:Zd D (gN s v.synced v):=by rw[<-hr];exact vM hD _ _ hg (fun a ha=>by simp only[WK,Y,V,or_false]at ha;rcases ha with rfl|rfl;(·exact U6 (by omega) (vG (.inl rfl)));·exact U6 (by omega) jS)
 obtain⟨v2,hv2⟩:∃u,u=gN s v.synced v:=⟨_,rfl⟩;rw[<-hv2]at g2⊢;have u2:v2.up=J:=by rw[hv2];exact h.up
 have w2:v2.waits s=H:=by rw[hv2];exact hw
 have b2:v2.begun s=J:=by rw[hv2];exact Zm v.begun s J
 have x2:v2.txns s=⟨(v.synced:Int),[⟨[99],[110],H,[]⟩],[]⟩:=by rw[hv2];exact Zm v.txns s _
 have s2:v2.synced=v.synced:=by rw[hv2];rfl
 have c2:v2.commits=v.commits:=by rw[hv2];rfl
 have q2:v2.queue=v.queue:=by rw[hv2];rfl
 have k2:ZI (v2.synced:Int) (v2.txns s).start=J:=by rw[x2,s2];exact IT _
 have hp:=Af (G (v.synced+1));have hwr:ZW (aE (G (v.synced+1)))=IU (v.synced+1):=by rw[Wq hp (.inl rfl)];rfl
 have hwe:QA (ZW (aE (G (v.synced+1))))=0:=Es hp (.inl rfl);have ew:Z5 (v2.txns s) (ZW (aE (G (v.synced+1))))=0:=by rw[Z5,if_pos ((qK _).2 (g2.tx s b2).1),if_pos hwe,x2];split;(·rfl);·rw[if_neg (by simp)]
 have g3:Zd D (Y8 D v2 (Uh s (aE (G (v.synced+1))))):=g2.act hD (U6 (by omega) hp);have e3:Y8 D v2 (Uh s (aE (G (v.synced+1))))=ZC {v2 with txns:=Ks v2.txns s ⟨(v.synced:Int),[⟨[99],[110],H,[]⟩],[IU (v.synced+1)]⟩} (Va s 0):=by rw[Oi u2 w2 b2 k2 hp (by show(4:Int)≠1;decide) (by show(4:Int)≠7;decide) (by show(4:Int)≠8;decide),if_neg (by show¬(4:Int)=6;decide),xH,if_pos (.inl rfl),qJ,ew,if_pos rfl,Yc,if_pos ew,x2,hwr];rfl
 rw[e3]at g3;obtain⟨v3,hv3⟩:∃u,u=ZC {v2 with txns:=Ks v2.txns s ⟨(v.synced:Int),[⟨[99],[110],H,[]⟩],[IU (v.synced+1)]⟩} (Va s 0):=⟨_,rfl⟩;rw[<-hv3]at e3 g3;have u3:v3.up=J:=by rw[hv3];exact u2
 have w3:v3.waits s=H:=by rw[hv3];exact w2
 have b3:v3.begun s=J:=by rw[hv3];exact b2
 have x3:v3.txns s=⟨(v.synced:Int),[⟨[99],[110],H,[]⟩],[IU (v.synced+1)]⟩:=by rw[hv3];exact Zm v2.txns s _
 have s3:v3.synced=v.synced:=by rw[hv3];exact s2
 have c3:v3.commits=v.commits:=by rw[hv3];exact c2
 have q3:v3.queue=v.queue:=by rw[hv3];exact q2
 have k3:ZI (v3.synced:Int) (v3.txns s).start=J:=by rw[x3,s3];exact IT _
 have hfew:=h.few;have hq:v.queue.length<=4:=by have:=W9 v.queue (tU 4) hg.once (fun j hj=>tD.2 (h.who j hj));simpa using this
 have hend:∀j,(XD v3 s).begun j=H:=fun j=>by show Ks v3.begun s H j=H;by_cases e:j=s;(·rw[e,Zm]);·rw[Q4 _ _ e,hv3];show v2.begun j=H;rw[hv2];show Ks v.begun s J j=H;rw[Q4 _ _ e];exact h.begun j
 have e4:(aG s v.synced).foldl (Y8 D) v2=Y9 D v3 s:=by show Y8 D (Y8 D v2 (Uh s (aE (G (v.synced+1))))) (Uh s (My 6))=_;rw[e3,Oi u3 w3 b3 k3 (vG (.inr (.inl rfl))) (by decide) (by decide) (by decide),if_pos (show(My 6).kind=6from rfl)]
 have h6:¬(v3.txns s).writes.length=0:=by rw[x3];simp
 have htx:VV (v3.txns s)=0:=(qK _).2 (g3.tx s b3).1;have hsy:v.synced<=v.commits.length:=by have:=hg.turn;omega
 rw[e4,Y9,if_neg h6,if_neg (by rw[q3,c3];omega)];by_cases hlt:v.synced<v.commits.length;·(have hcl:JS (v3.txns s) v3.commits=J:=by obtain⟨n,hn⟩:∃n,v.commits.length=n+1:=⟨v.commits.length-1,by omega⟩;rw[JS,if_pos htx,c3,h.commits,hn,F0];unfold N0;rw[List.any_append,Bool.or_eq_true];right;rw[x3];simp[dS,XH,IU];omega);rw[hcl,if_pos rfl];exact⟨u3,hend,by show v3.commits=aF v3.commits.length;rw[c3];exact h.commits,by show v3.commits.length<=_;rw[c3];omega,fun _=>by show 0<v3.commits.length;rw[c3];omega,by show∀j∈v3.queue,_;rw[q3];exact h.who⟩
 ·(have hsn:v.synced=v.commits.length:=by omega);(have hcl:JS (v3.txns s) v3.commits=H:=by rw[JS,if_pos htx,c3,h.commits];unfold N0;rw[List.any_eq_false];intro c hc;obtain⟨i,hi,rfl⟩:=tQ.1 hc;have hi:=tD.1 hi;rw[x3];simp;omega);(have hfo:Qz v3 v3.commits.length=Ru v.commits.length:=by(have e:Qz v3 v3.commits.length=Qz v v.commits.length:=by unfold Qz;rw[c3]);rw[e];exact h.fold (tA _));rw[hcl,if_neg (by decide),if_neg (by rw[hfo,x3];exact fun e=>e (Do _ _).1),if_neg (fun e=>e (aB hD g3 b3 h6))];refine⟨u3,hend,?_,?_,fun _=>?_,?_⟩;(·show v3.commits++[XZ v3 s]=aF (v3.commits++[XZ v3 s]).length;(have e:XZ v3 s=⟨((v.commits.length+1:Nat):Int),[IU (v.commits.length+1)]⟩:=by unfold XZ;rw[c3,x3,hsn]);rw[e,c3,tC,List.length_singleton,F0,<-h.commits]);(·show(v3.commits++[XZ v3 s]).length<=_;rw[tC,c3];simp;omega);(·show 0<(v3.commits++[XZ v3 s]).length;simp);·show∀j∈v3.queue++[s],j<4;intro j hj;rcases p.1 hj with h1|h1;(·rw[q3]at h1;exact h.who j h1);·obtain rfl:=tH.1 h1;exact hs
theorem cV(h:aH v m):aH (Y8 D v Yo) m:=by
 rw[DA,if_pos h.up];exact⟨h.up,h.begun,h.commits,h.few,h.some,fun s hs=>by cases hs⟩
def kB(zs:List Int)(m:Nat):Nat:=V4 (zs.getD m 0) 4
def Kw(D:List UInt8->List UInt8)(zs:List Int):Nat->List Ac|0=>[]|m+1=>(Kw D zs m++WK (kB zs m)++if(Xh D (Kw D zs m)).waits (kB zs m)=J then[]else aG (kB zs m) (Xh D (Kw D zs m)).synced)++if V4 (zs.getD m 0) 3=0then[Yo]else[]
theorem Oe{s:Nat}(hs:s<4):∀a∈WK s,YP a:=fun a ha=>by
 simp only[WK,Y,V,or_false]at ha;rcases ha with rfl|rfl;·exact U6 (by omega) (vG (.inl rfl))
 ·exact U6 (by omega) jS
theorem fH{s:Nat}(hs:s<4)(y:Nat):∀a∈aG s y,YP a:=fun a ha=>by
 simp only[aG,Y,V,or_false]at ha;rcases ha with rfl|rfl;·exact U6 (by omega) (Af _)
 ·exact U6 (by omega) (vG (.inr (.inl rfl)))
theorem Pp(zs:List Int)(m:Nat):kB zs m<4:=I6 _ (by
 decide)
theorem vL(zs:List Int):∀m,(∀a∈Kw D zs m,YP a)∧(Kw D zs m).length<=5*m|0=>⟨fun a ha=>(by rw[Kw]at ha;cases ha),by simp[Kw]⟩|m+1=>by obtain⟨h1,h2⟩:=vL zs m;refine⟨fun a ha=>?_,?_⟩;(·rw[Kw]at ha;rcases p.1 ha with ha|ha;(·rcases p.1 ha with ha|ha;(·rcases p.1 ha with ha|ha;(·exact h1 a ha);·exact Oe (Pp zs m) a ha);·split at ha;(·cases ha);·exact fH (Pp zs m) _ a ha);·split at ha;(·obtain rfl:=tH.1 ha;exact En);·cases ha);·rw[Kw];simp only[tC];have e1:(WK (kB zs m)).length=2:=rfl;(have e2:((if(Xh D (Kw D zs m)).waits (kB zs m)=J then[]else aG (kB zs m) (Xh D (Kw D zs m)).synced):List Ac).length<=2:=by split<;>simp[aG]);(have e3:((if V4 (zs.getD m 0) 3=0then[Yo]else[]):List Ac).length<=1:=by split<;>simp);omega
theorem NQ(hD:∀x,(D x).length=4)(zs:List Int):∀m,m<=100->aH (Xh D (Kw D zs m)) m|0,_=>⟨rfl,fun _=>rfl,rfl,tA _,fun h=>absurd h (by omega),fun s hs=>by cases hs⟩|m+1,hm=>by have h:=NQ hD zs m (by omega);have hg:=Gu hD _ (vL (D:=D) zs m).1;(have key:aH (Xh D (Kw D zs m++WK (kB zs m)++if(Xh D (Kw D zs m)).waits (kB zs m)=J then[]else aG (kB zs m) (Xh D (Kw D zs m)).synced)) (m+1):=by by_cases hw:(Xh D (Kw D zs m)).waits (kB zs m)=J;(·rw[if_pos hw,tL,UX,DJ h hw];have hq:=(hg.wait _).1 hw;have hl:0<(Xh D (Kw D zs m)).queue.length:=tE hq;have:=hg.turn;exact⟨h.up,h.begun,h.commits,Nat.le_succ_of_le h.few,fun _=>by show 0<(Xh D (Kw D zs m)).commits.length;omega,h.who⟩);·(have hw:(Xh D (Kw D zs m)).waits (kB zs m)=H:=by simpa using hw);rw[if_neg (by rw[hw];decide),UX,UX,TV hD hg h (by have:=Pp zs m;omega) hw];exact LH hD hg h (by omega) (Pp zs m) hw);rw[Kw];by_cases h3:V4 (zs.getD m 0) 3=0;(·rw[if_pos h3,UX];exact cV (D:=D) key);·rw[if_neg h3,tL];exact key
theorem aR(hD:∀x,(D x).length=4)(zs:List Int)(m:Nat)(hm:m<=100){A:Oc}(hA:A=Pk (Xh D (Kw D zs m++WK (kB zs m)))):A.replies.length≠0∧((Xh D (Kw D zs m)).waits (kB zs m)=J->(A.replies.getD (A.replies.length-1) GP).code=6)∧((Xh D (Kw D zs m)).waits (kB zs m)=H->A.replies.getD (A.replies.length-1) GP=fU (kB zs m) (Xh D (Kw D zs m)).synced):=by
 have h:=NQ hD zs m hm;have hg:=Gu hD _ (vL (D:=D) zs m).1;rw[UX]at hA;cases hw:(Xh D (Kw D zs m)).waits (kB zs m)with|true=>rw[DJ h hw]at hA;(have e:A.replies=((Xh D (Kw D zs m)).out++[Va (kB zs m) 6])++[Va (kB zs m) 6]:=by rw[hA];rfl);exact⟨by rw[e];simp,fun _=>by rw[e];simp[Va],fun h=>by cases h⟩|false=>rw[TV hD hg h (by have:=Pp zs m;omega) hw]at hA;(have e:A.replies=(Xh D (Kw D zs m)).out++[Sz (kB zs m) ((Xh D (Kw D zs m)).synced:Int),fU (kB zs m) (Xh D (Kw D zs m)).synced]:=by rw[hA];rfl);exact⟨by rw[e];simp,fun h=>by(cases h),fun _=>by rw[e];simp⟩
theorem eQ(hD:∀x,(D x).length=4)(zs:List Int)(m:Nat)(hm:m<=100){A:Oc}(hA:A=Pk (Xh D (Kw D zs m++[Yo]))):∃n:Nat,n<=m∧(0<m->0<n)∧A.turn=(n:Int)∧A.forest=Ru n:=by
 have h:=NQ hD zs m hm;have hg:=Gu hD _ (vL (D:=D) zs m).1;rw[Eg,DA,if_pos h.up]at hA;have ht:=hg.turn;refine⟨(Xh D (Kw D zs m)).commits.length,h.few,h.some,?_,?_⟩;·rw[hA];show(((Xh D (Kw D zs m)).synced+(Xh D (Kw D zs m)).queue.length:Nat):Int)=_;rw[ht]
 ·rw[hA];show Qz (Xh D (Kw D zs m)) ((Xh D (Kw D zs m)).synced+(Xh D (Kw D zs m)).queue.length)=_;rw[ht];exact h.fold (tA _)
theorem Wf(hD:∀x,(D x).length=4)(zs:List Int)(m:Nat)(hm:m<=100):(Xh D (Kw D zs m)).synced<=m:=by
 have h:=NQ hD zs m hm;have hg:=Gu hD _ (vL (D:=D) zs m).1;have:=hg.turn;have:=h.few;omega
end
theorem G6{w w':I}{g:Nat}(h:tB w w' (M g))(cs:Array T):tB w (w'.setRow g cs) (M g):=⟨h.os,h.tape,h.output,by
 rw[size_setRow];exact h.size,fun i hi hn=>by
 rw[setRow_other _ _ _ _ (fun e=>hn (by rw[e]))];exact h.block i hi hn⟩
def Jf(up:Bool)(d:T)(ts:Int)(c f:T)(n:Int)(u:T):Array T:=#[tI up,d,N O ts,c,f,N O n,C F 0 0,N O 0,N O 0,C F 0 0,C F 0 0,N O 0,N O 0,C F 0 0,C F 0 0,N O 0,N O 0,C F 0 0,C F 0 0,N O 0,N O 0,C F 0 0,C F 0 0,N O 0,N O 0,C F 0 0,C F 0 0,N O 0,N O 0,C F 0 0,C F 0 0,N O 0,N O 0,C F 0 0,C F 0 0,N O 0,N O 0,C F 0 0,C F 0 0,u]
theorem YY.fresh{R B:Nat}{w:I}{up:Bool}{t:VS}{cs:List XA}{o:List Rp}{d c f u:T}(hd:Zc 0 w (fun w=>Qe w d t.data))(hc:Ko B w c cs)(hf:JW B w f (Zq (VU up t cs o)))(hu:Yr B w u o)(hr:∀g,u.ownBlock=M g->g<R):YY R B w (VU up t cs o) (Jf up d t.synced c f (cs.length:Int) u):=by
 refine⟨rfl,rfl,⟨d,rfl,hd⟩,rfl,⟨c,rfl,hc⟩,⟨f,rfl,hf⟩,rfl,⟨C F 0 0,rfl,uS _ _ _ _ _⟩,fun s hs=>?_,⟨u,rfl,hu,hr⟩⟩;refine⟨Fb,C F 0 0,C F 0 0,?_,?_,?_,?_,fun w' _=>zQ w',fun h=>by cases h⟩;all_goals(obtain rfl|rfl|rfl|rfl|rfl|rfl|rfl|rfl:s=0∨s=1∨s=2∨s=3∨s=4∨s=5∨s=6∨s=7:=by omega)
 all_goals rfl
theorem Wi(v:Sv){j:Nat}(hj:j<=v.commits.length)(up:Bool)(t:VS)(o:List Rp):(Zq v).take (j+1)=Zq (VU up t (v.commits.take j) o):=by
 unfold Zq Qz VU;simp only[tJ,z hj];rw[<-tN,tK,z (by omega)];apply List.map_congr_left;intro n hn;rw[tD]at hn;rw[List.take_take,z (by omega)]
theorem bD{base B:Nat}{w:I}{v:T}{l:List XA}(h:Y6 base w v l)(hB:B<=base):Ko B w v l:=by
 obtain⟨us,h1,h2,h3,h4⟩:=h;refine⟨us.map fun x=>([N O x.1.turn,x.2],x.1),?_,?_,h3,fun x hx=>?_⟩;·rw[<-h1];simp
 ·(have:(us.map fun x=>(([N O x.1.turn,x.2]:List T),x.1)).flatMap (·.1)=jC us:=by simp[jC,List.flatMap_map]);rw[this];refine⟨h2.1,?_⟩;rcases h2.2with h|⟨g,cap,cur,e,hb,rest⟩;(·exact .inl h);·exact .inr ⟨g,cap,cur,e,Nat.le_trans hB hb,rest⟩
 ·obtain⟨y,hy,rfl⟩:=tQ.1 hx;have hw:=h4 y hy;obtain⟨a,cap,e,_⟩:=id hw;refine⟨rfl,fun u hu=>?_,fun q hq=>by simp at hq,(Rt hw).mono fun w' h=>⟨_,rfl,h⟩⟩;simp only[Y,V,or_false]at hu;rcases hu with rfl|rfl;(·rfl);·rw[e];rfl
theorem AX{D:List UInt8->List UInt8}{v:Sv}(h:Zd D v){k:Int}(hk:0<=k):xI (Xp v.tape k):=by
 have hm:=h.may;obtain⟨m1,m2,m3⟩:=(Ky _).1 hm;have hce:Un v.tape k=0:=by rw[Un,if_pos hm,if_neg (by omega)]
 have hcn:Xt v.tape k<=v.tape.data.length:=by rw[Xt];split<;>omega
 rw[Xp,if_pos hce];refine⟨?_,?_⟩;·simp only[tJ];omega
 ·simp only;omega
theorem xC{ops:Array tM}{o:tM}{a:Act}{w:I}{K:Act->I->Prop}{Q:Exit->Act->I->Prop}{E:Prop}(hgd:o.guard=F)(ty:tR)(x y:tW)(ho:o.op=.store ty x y)(g:Nat)(cells:Array T)(hx:a.eval x=.pointer (M ⟨g,0,F⟩))(hy:a.eval y=tP cells)(t:tR)(old:Array T)(hg:w.heap[g]?=M (.cells old t (0,0)))(hi:(X.info? ty).map (·.size)=M cells.size)(hold:old.size=cells.size)(h1:cells.all (·.oneCell')=J)(h:K (a.put o.dst undef) (w.setRow g cells)):if Region.wanted o (yielded ops a.tmps)=J then Oper.wp X o a w K Q else E:=by
 have hw:Region.wanted o (yielded ops a.tmps)=J:=by simp[Region.wanted,hgd]
 rw[if_pos hw];exact wp_store_row ty x y ho g cells hx hy t old hg hi hold h1 h
theorem VI{ops:Array tM}{Q:Exit->Act->I->Prop}{md:Region.Mode}{S:I->Prop}{k n:Nat}{done:Array Bool}{a:Act}{w:I}{o:tM}(hr:Region.ready md ops done=[k])(ho:ops[k]?=M o)(hgd:o.guard=F){ty:tR}{x y:tW}(hop:o.op=.store ty x y)(g:Nat)(cells:Array T)(hx:a.eval x=.pointer (M ⟨g,0,F⟩))(hy:a.eval y=tP cells)(t:tR)(old:Array T)(hg:w.heap[g]?=M (.cells old t (0,0)))(hi:(X.info? ty).map (·.size)=M cells.size)(hold:old.size=cells.size)(h1:cells.all (·.oneCell')=J)(hd:Region.ready md ops (done.setIfInBounds k J)=[])(h:Q .normal (a.put o.dst undef) (w.setRow g cells)):ZD X md ops Q S k (n+1) done a w:=UD hr ho fun _ hK=>xC hgd ty x y hop g cells hx hy t old hg hi hold h1 (hK _ _ (wpAny_done hd h _))
end Go.Proofs.YtieoehicoocpjaaGreatDoor
