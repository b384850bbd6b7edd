/-
  Texts of this proof, joined, with few blanks: AcN, AcL, TAskQ, TLit, SvFr.
-/
import Derived.Test.YtjnapechlkbfmaaGreatDoorQ45
import Derived.Laws.Tables
set_option maxRecDepth 100000
set_option maxHeartbeats 8000000
open Go renaming World->L,Value->M,heap_alloc_new->V,TypeId->tH,Oper->tJ,Operand->tL,Calls->tM
open Go.IntKind renaming i64->H,u8->tE
open Go.Obj renaming cells->N
open Go.Proofs.Tryz renaming prog->O
open Go.Value renaming slice->C,int->G,agg->tC,bool->tG
open Go.World renaming grownBy_alloc->J,grownBy->T
open List renaming not_mem_nil->Y,mem_cons->tB,length_take->tI
open Nat renaming min_eq_left->tA,zero_le->tD,le_refl->tK
open Option renaming none->F,some->I
open UInt8 renaming ofNat->X
namespace Go.Proofs.YtjnapechlkbfmaaGreatDoor
open Go.RowKit
def UY(rb:Nat)(w:L)(v:M)(l:List Ac):Prop:=Ji rb w v l∧(l=[]->v=C F 0 0)
theorem Og(rb:Nat)(w:L):UY rb w (C F 0 0) []:=⟨I8 _ _,fun _=>rfl⟩
theorem UY.grown{rb:Nat}{w w':L}{v:M}{l:List Ac}(h:UY rb w v l)(hg:T w w' F):UY rb w' v l:=⟨h.1.grownNone hg,h.2⟩
theorem UY.shape{rb:Nat}{w:L}{v:M}{l:List Ac}(h:UY rb w v l):∃a cap,v=C a l.length cap:=h.1.shape
theorem UY.list{rb:Nat}{w:L}{v:M}{l:List Ac}(h:UY rb w v l):YI w v l:=h.1.list
theorem UY.row{rb:Nat}{w:L}{v:M}{l:List Ac}(h:UY rb w v l):∀g,v.ownBlock=I g->∃cs t fz,w.heap[g]?=I (N cs t fz)∧¬Vf t∧t≠48∧∀q,cs[0]?≠I (G tE q):=fun g e=>by
 obtain⟨⟨us,hul,hr,hp⟩,h0⟩:=h;rcases hr.2with⟨rfl,_⟩|⟨g',cap,cur,rfl,hb,hg,hn,hmx,hcs,ht⟩;·cases e
 ·cases e;refine⟨cur,_,_,hg,by simp[Vf],by decide,fun q hq=>?_⟩;cases us with|nil=>have:=h0 (by rw[<-hul];rfl);cases this|cons x us=>(have hl:0<l.length:=by rw[<-hul];simp);(have e:(cur.toList.take (l.length*4))[0]?=(YW (x::us))[0]?:=by rw[ht]);rw[List.getElem?_take,if_pos (by omega),Array.getElem?_toList,hq]at e;simp[YW]at e
theorem UY.other{rb:Nat}{w:L}{v:M}{l:List Ac}(h:UY rb w v l){b:Nat}{cs:Array M}{t:tH}{fz:Nat×Nat}(hb:w.heap[b]?=I (N cs t fz))(ht:t≠35):I b≠v.ownBlock:=fun e=>by
 rcases h.1.row with h|⟨g,cur,fz',h1,_,h2⟩;·rw[h]at e;cases e
 ·rw[h1]at e;cases e;rw[hb]at h2;simp only[Option.some.injEq,Obj.cells.injEq]at h2;exact ht h2.2.1
structure cG (rb : Nat) (w w' : L) (v v' : M) (l : List Ac) : Prop where
  own : UY rb w' v' l
  kl : KL w w'
  grown : T w w' v.ownBlock
  lies : ∀ g, v'.ownBlock = I g -> v.ownBlock = I g ∨ w.heap.size <= g
theorem Lu{w:L}{ops:Array tJ}{rest:List tJ}{o:tJ}{a:Act}{Q:Exit->Act->L->Prop}(hgd:o.guard=F)(s x:tL)(ho:o.op=.call {callee:=.builtin .append,args:=#[s,x],argTypes:=#[37,37]})(rb:Nat)(v:M)(l:List Ac)(hs:a.eval s=v)(hown:UY rb w v l)(r2:Nat)(u:M)(m:List Ac)(hx:a.eval x=u)(hsrc:Ji r2 w u m)(hl:l.length+m.length<=1000)(hbase:rb<=w.heap.size)(h:∀v' w',cG rb w w' v v' (l++m)->wpList O ops Q rest (a.put o.dst v') w'):wpList O ops Q (o::rest) a w:=by
 by_cases h0:l++m=[];·obtain⟨rfl,rfl⟩:=List.append_eq_nil_iff.1 h0;have hv:=hown.2 rfl;obtain⟨xa,xc,rfl⟩:=hsrc.shape;obtain⟨i0,hi,hz0,hz1,hz2⟩:=info_parts RI;refine wpList_plain hgd fun K hK=>?_;have hrun:=Vk (P:=O) (w:=w) rb 37 o.type 35 i0 4 Tryz.underlying37 hi (C F 0 0) 0 [] (World.ownsRow_nil _ _ _ _) xa xc;rw[hv]at hs;unfold Oper.wp;simp[execOp,ho,resolve,invoke,builtin,hs,hx,hrun,Result.andThen];rw[hv]at hown h;exact hK _ _ (h _ w ⟨hown,KL.refl _,⟨rfl,rfl,rfl,tK _,fun _ _ _=>rfl⟩,fun _ e=>.inl e⟩)
 ·refine Pa hgd s x ho rb v l hs hown.1 r2 u m hx hsrc (by omega) hbase fun v' w' h1 h2 h3=>h v' w' ⟨⟨h1,fun e=>absurd e h0⟩,KL.turn h2 hown.row,h2,h3⟩
theorem UY.aside{rx ry:Nat}{w w':L}{vx vy:M}{lx ly:List Ac}(h:UY rx w vx lx)(hy:UY ry w vy ly)(hg:T w w' vy.ownBlock)(hne:∀g,vx.ownBlock=I g->vy.ownBlock≠I g):UY rx w' vx lx:=by
 refine⟨?_,h.2⟩;cases e:vy.ownBlock with|none=>rw[e]at hg;exact h.1.grownNone hg|some b=>rw[e]at hg;rcases hy.1.row with h0|⟨g,cur,fz,h1,_,h2⟩;(·rw[h0]at e;cases e);·(obtain rfl:g=b:=by rw[h1]at e;cases e;rfl);obtain⟨us,h1',h2',h3⟩:=h.1;refine⟨us,h1',World.ownsRow.kept h2' hg ?_,fun x hx=>(h3 x hx).keptT hg (.inr ⟨_,_,_,_,rfl,tD _,h2,by decide⟩)⟩;exact .inr fun e'=>hne _ e' h1
theorem cG.apart{rb ry:Nat}{w w':L}{v v' u:M}{l m:List Ac}(h:cG rb w w' v v' l)(hu:UY ry w u m)(hne:∀g,v.ownBlock=I g->u.ownBlock≠I g):∀g,v'.ownBlock=I g->u.ownBlock≠I g:=fun g e e'=>by
 rcases h.lies g e with h1|h1;·exact hne g h1 e'
 ·have:=(hu.1.lt g e').2;omega
theorem fU{rb:Nat}{w W w1:L}{v:M}{l:List Ac}(h:T w W F)(ho:UY rb W v l)(hb:w.heap.size<=rb)(hg:T W w1 v.ownBlock):T w w1 F:=Tl h ho.1 hb hg
theorem T5(W:L)(A:Ac)(vd:M)(hp:Qh 0 W vd A.data):Ji 0 (W.alloc (N #[G H A.kind,G H A.sess,G H A.keep,vd] 35)) (C (I ⟨W.heap.size,0,F⟩) 1 1) [A]:=Ra (w:=W.alloc _) 0 W.heap.size [(A,vd)] (V W _) (tD _) (by
 simp) fun y hy=>by
 simp only[tB,Y,or_false]at hy;subst hy;exact hp.keptT (J _ _ F) (.inl rfl)
theorem OD(W:L)(A B:Ac)(va vb:M)(ha:Qh 0 W va A.data)(hb:Qh 0 W vb B.data):Ji 0 (W.alloc (N #[G H A.kind,G H A.sess,G H A.keep,va,G H B.kind,G H B.sess,G H B.keep,vb] 35)) (C (I ⟨W.heap.size,0,F⟩) 2 2) [A,B]:=Ra (w:=W.alloc _) 0 W.heap.size [(A,va),(B,vb)] (V W _) (tD _) (by
 simp) fun y hy=>by
 simp only[tB,Y,or_false]at hy;rcases hy with rfl|rfl;·exact ha.keptT (J _ _ F) (.inl rfl)
 ·exact hb.keptT (J _ _ F) (.inl rfl)
theorem vQ(w:L):Qh 0 w (C F 0 0) []:=⟨Qw w,.inl rfl⟩
theorem gZ(W:L):Ji 0 (W.alloc (N #[G H 4,G H 0,G H 0,C F 0 0] 35)) (C (I ⟨W.heap.size,0,F⟩) 1 1) [F3]:=T5 W F3 _ (vQ W)
theorem iZ(W:L):Ji 0 (W.alloc (N #[G H 2,G H 0,G H 0,C F 0 0] 35)) (C (I ⟨W.heap.size,0,F⟩) 1 1) [Bq]:=T5 W Bq _ (vQ W)
theorem iC(W:L)(k:Int):Ji 0 (W.alloc (N #[G H 3,G H 0,G H k,C F 0 0] 35)) (C (I ⟨W.heap.size,0,F⟩) 1 1) [Te k]:=T5 W (Te k) _ (vQ W)
theorem mG(W:L)(k:Int):Ji 0 (W.alloc (N #[G H 3,G H 0,G H k,C F 0 0,G H 4,G H 0,G H 0,C F 0 0] 35)) (C (I ⟨W.heap.size,0,F⟩) 2 2) [Te k,F3]:=OD W (Te k) F3 _ _ (vQ W) (vQ W)
def dA(s:Int)(w:L)(d:List UInt8)(e:Ending)(w':L):Prop:=∃xa xc,e=.returned (tC #[G H 1,G H s,G H 0,C xa d.length xc])∧Qh 0 w' (C xa d.length xc) d∧T w w' F
theorem FY(w:L)(s:Int)(v:M)(r:Rq)(hT:KR w)(hv:Xp w v r)(hr:X8 r):tM O 17 #[G H s,v] w (dA s w (Kb r)):=by
 refine(Ci w s v r hT hv (qI hr)).mono ?_;rintro e w'⟨x,rfl,hx,hg⟩;rw[eP hr]at hx;obtain⟨xa,xc,rfl⟩:=hx.slice.shape;exact⟨xa,xc,rfl,hx,hg⟩
theorem gG(w:L)(k:Int):Xp w (tC #[G H k,C F 0 0,C F 0 0,C F 0 0,C F 0 0]) (gU k):=⟨_,_,_,_,rfl,Qw w,Qw w,Qw w,Qw w⟩
theorem i9(rb:Nat)(W:L)(hrb:rb<=W.heap.size)(l:List (Ac×M))(h0:l≠[])(hl:l.length<=1000)(hp:∀y∈l,Qh 0 W y.2 y.1.data)(cs:Array M)(hcs:cs.toList=YW l):UY rb (W.alloc (N cs 35)) (C (I ⟨W.heap.size,0,F⟩) l.length l.length) (l.map (fun y=>y.1)):=by
 obtain rfl:cs=⟨YW l⟩:=by rw[<-hcs]
 exact⟨Ra (w:=W.alloc _) rb W.heap.size l (V W _) hrb hl fun y hy=>(hp y hy).keptT (J _ _ F) (.inl rfl),fun e=>absurd (List.map_eq_nil_iff.1 e) h0⟩
theorem Fu.all{w:L}{a:Option Addr}{n cap:Nat}{l:List Rp}(h:Fu w (C a n cap) l)(i:Nat)(hi:i<l.length):∃b o a4 c4 a5 c5 a6 c6 a8 c8 a9 c9 a10 c10 a12 c12 a13 c13 a14 c14,a=I ⟨b,o,F⟩∧w.cell? ⟨b,o+i*15,F⟩=I (G H (l.getD i zT).sess)∧w.cell? ⟨b,o+i*15+1,F⟩=I (G H (l.getD i zT).code)∧w.cell? ⟨b,o+i*15+2,F⟩=I (G H (l.getD i zT).turn)∧w.cell? ⟨b,o+i*15+3,F⟩=I (tG (l.getD i zT).found)∧w.cell? ⟨b,o+i*15+4,F⟩=I (C a4 (l.getD i zT).value.length c4)∧w.cell? ⟨b,o+i*15+5,F⟩=I (C a5 (l.getD i zT).pairs.length c5)∧w.cell? ⟨b,o+i*15+6,F⟩=I (C a6 (Pj (l.getD i zT)).length c6)∧w.cell? ⟨b,o+i*15+7,F⟩=I (tG (KO (l.getD i zT)).empty)∧w.cell? ⟨b,o+i*15+8,F⟩=I (C a8 (KO (l.getD i zT)).steps.length c8)∧w.cell? ⟨b,o+i*15+9,F⟩=I (C a9 (KO (l.getD i zT)).pair.1.length c9)∧w.cell? ⟨b,o+i*15+10,F⟩=I (C a10 (KO (l.getD i zT)).pair.2.length c10)∧w.cell? ⟨b,o+i*15+11,F⟩=I (tG (KN (l.getD i zT)).empty)∧w.cell? ⟨b,o+i*15+12,F⟩=I (C a12 (KN (l.getD i zT)).steps.length c12)∧w.cell? ⟨b,o+i*15+13,F⟩=I (C a13 (KN (l.getD i zT)).pair.1.length c13)∧w.cell? ⟨b,o+i*15+14,F⟩=I (C a14 (KN (l.getD i zT)).pair.2.length c14)∧Qe w (C a4 (l.getD i zT).value.length c4) (l.getD i zT).value∧Qr w (C a5 (l.getD i zT).pairs.length c5) (l.getD i zT).pairs∧Qe w (C a6 (Pj (l.getD i zT)).length c6) (Pj (l.getD i zT))∧KJ w (tC #[tG (KO (l.getD i zT)).empty,C a8 (KO (l.getD i zT)).steps.length c8,C a9 (KO (l.getD i zT)).pair.1.length c9,C a10 (KO (l.getD i zT)).pair.2.length c10]) (KO (l.getD i zT))∧KJ w (tC #[tG (KN (l.getD i zT)).empty,C a12 (KN (l.getD i zT)).steps.length c12,C a13 (KN (l.getD i zT)).pair.1.length c13,C a14 (KN (l.getD i zT)).pair.2.length c14]) (KN (l.getD i zT)):=by
 obtain⟨a',cap',e,_,h⟩:=h;simp only[Value.slice.injEq]at e;obtain⟨rfl,_,_⟩:=e;rcases h with rfl|⟨b,o,rfl,h⟩;·simp at hi
 ·obtain⟨cs,h1,h2,vv,vp,vr,oe,os,ok,ov,ie,is,ik,iv,e,h4,h5,h6,h7,h8⟩:=h i hi;simp only[Value.agg.injEq,Array.mk.injEq]at e;subst e;obtain⟨a4,c4,rfl⟩:=h4.shape;obtain⟨a5,c5,rfl⟩:=h5.shape;obtain⟨a6,c6,rfl⟩:=h6.shape;have h7':=h7;have h8':=h8;obtain⟨vs,vk,vw,e7,k1,k2,k3⟩:=h7;obtain⟨us,uk,uw,e8,m1,m2,m3⟩:=h8;simp only[Value.agg.injEq,Array.mk.injEq,List.cons.injEq,and_true]at e7 e8;obtain⟨rfl,rfl,rfl,rfl⟩:=e7;obtain⟨rfl,rfl,rfl,rfl⟩:=e8;obtain⟨a8,c8,rfl⟩:=k1.shape;obtain⟨a9,c9,rfl⟩:=k2.shape;obtain⟨a10,c10,rfl⟩:=k3.shape;obtain⟨a12,c12,rfl⟩:=m1.shape;obtain⟨a13,c13,rfl⟩:=m2.shape;obtain⟨a14,c14,rfl⟩:=m3.shape;exact⟨b,o,a4,c4,a5,c5,a6,c6,a8,c8,a9,c9,a10,c10,a12,c12,a13,c13,a14,c14,rfl,h2 0 (by decide),h2 1 (by decide),h2 2 (by decide),h2 3 (by decide),h2 4 (by decide),h2 5 (by decide),h2 6 (by decide),h2 7 (by decide),h2 8 (by decide),h2 9 (by decide),h2 10 (by decide),h2 11 (by decide),h2 12 (by decide),h2 13 (by decide),h2 14 (by decide),h4,h5,h6,h7',h8'⟩
theorem GK{w:L}{b:Nat}{n:Nat}{x:Int}(hx:x=(n:Int))(hn:n<256)(hb:w.heap[b]?=I (N #[G tE x] 5)):Qh 0 w (C (I ⟨b,0,F⟩) 1 1) [X n]:=by
 subst hx;refine⟨⟨I ⟨b,0,F⟩,1,rfl,tK _,.inr ⟨b,0,rfl,fun i hi=>?_⟩⟩,.inr ⟨b,rfl,(Array.getElem?_eq_some_iff.1 hb).1,.inr ⟨_,_,hb⟩⟩⟩;obtain rfl:i=0:=by simpa using hi
 simp[World.cell?,hb,Nat.mod_eq_of_lt hn]
theorem F0{w:L}{b:Nat}{o p:Obj}(h:w.heap[b]?=I o):(w.alloc p).heap[b]?=I o:=Qd (J _ _ F) h
theorem MO(w:L)(p q:Obj):((w.alloc q).alloc p).heap[w.heap.size+1]?=I p:=by
 have h:=V (w.alloc q) p;rwa[show(w.alloc q).heap.size=w.heap.size+1by simp]at h
theorem OH(w:L)(p q r:Obj):(((w.alloc r).alloc q).alloc p).heap[w.heap.size+1+1]?=I p:=by
 have h:=MO (w.alloc r) p q;rwa[show(w.alloc r).heap.size=w.heap.size+1by simp]at h
theorem iJ{w W:L}(hP:KR w)(hg:T w W F)(s k:Int){a b:Nat}{x y:Int}(hx:x=(a:Int))(hy:y=(b:Int))(ha:a<256)(hb:b<256){r:Rq}(hr:r=⟨k,[X a],[X b],[],[]⟩)(hok:X8 r):tM O 17 #[G H s,tC #[G H k,C (I ⟨W.heap.size,0,F⟩) 1 1,C (I ⟨W.heap.size+1,0,F⟩) 1 1,C F 0 0,C F 0 0]] ((W.alloc (N #[G tE x] 5)).alloc (N #[G tE y] 5)) (dA s W (Kb r)):=by
 have hgA:T W ((W.alloc (N #[G tE x] 5)).alloc (N #[G tE y] 5)) F:=Qa (J _ _ F) (J _ _ F);refine(FY _ s _ r (hP.grown (Qa hg hgA)) ?_ hok).mono ?_;·subst hr;exact⟨_,_,_,_,rfl,(GK hx ha (F0 (V W _))).1,(GK hy hb (MO W _ _)).1,Qw _,Qw _⟩
 ·rintro e w'⟨xa,xc,rfl,hp,hg'⟩;exact⟨xa,xc,rfl,hp,Qa hgA hg'⟩
theorem lQ{w W:L}(hP:KR w)(hg:T w W F)(s k:Int){a b c:Nat}{x y z:Int}(hx:x=(a:Int))(hy:y=(b:Int))(hz:z=(c:Int))(ha:a<256)(hb:b<256)(hc:c<256){r:Rq}(hr:r=⟨k,[X a],[X b],[],[X c]⟩)(hok:X8 r):tM O 17 #[G H s,tC #[G H k,C (I ⟨W.heap.size,0,F⟩) 1 1,C (I ⟨W.heap.size+1,0,F⟩) 1 1,C F 0 0,C (I ⟨W.heap.size+1+1,0,F⟩) 1 1]] (((W.alloc (N #[G tE x] 5)).alloc (N #[G tE y] 5)).alloc (N #[G tE z] 5)) (dA s W (Kb r)):=by
 have hgA:T W (((W.alloc (N #[G tE x] 5)).alloc (N #[G tE y] 5)).alloc (N #[G tE z] 5)) F:=Qa (J _ _ F) (Qa (J _ _ F) (J _ _ F));refine(FY _ s _ r (hP.grown (Qa hg hgA)) ?_ hok).mono ?_;·subst hr;exact⟨_,_,_,_,rfl,(GK hx ha (F0 (F0 (V W _)))).1,(GK hy hb (F0 (MO W _ _))).1,Qw _,(GK hz hc (OH W _ _ _)).1⟩
 ·rintro e w'⟨xa,xc,rfl,hp,hg'⟩;exact⟨xa,xc,rfl,hp,Qa hgA hg'⟩
theorem mI{w W:L}(hP:KR w)(hg:T w W F)(s k:Int)(hk:k=1∨k=6∨k=7):tM O 17 #[G H s,tC #[G H k,C F 0 0,C F 0 0,C F 0 0,C F 0 0]] W (dA s W (Kb (gU k))):=FY W s _ (gU k) (hP.grown hg) (gG W k) (lW hk)
theorem mA{k:Int}(hk:k=2∨k=4∨k=5∨k=8)(a b:UInt8):X8 ⟨k,[a],[b],[],[]⟩:=by
 rcases hk with rfl|rfl|rfl|rfl<;>(refine⟨⟨?_,?_⟩,?_,?_,?_,?_,?_,?_,?_,?_⟩<;>simp[QU])
theorem iQ(a b c:UInt8):X8 ⟨4,[a],[b],[],[c]⟩:=by
 refine⟨⟨?_,?_⟩,?_,?_,?_,?_,?_,?_,?_,?_⟩<;>simp[QU]
theorem lY(a b c:UInt8):X8 ⟨3,[a],[b],[c],[]⟩:=by
 refine⟨⟨?_,?_⟩,?_,?_,?_,?_,?_,?_,?_,?_⟩<;>simp[QU]
theorem qW{w w':L}{g:Nat}(h:T w w' (I g))(cs:Array M):T w (w'.setRow g cs) (I g):=⟨h.os,h.tape,h.output,by
 rw[size_setRow];exact h.size,fun i hi hn=>by
 rw[setRow_other _ _ _ _ (fun e=>hn (by rw[e]))];exact h.block i hi hn⟩
def Jj(up:Bool)(d:M)(ts:Int)(c f:M)(n:Int)(u:M):Array M:=#[tG up,d,G H ts,c,f,G H n,C F 0 0,G H 0,G H 0,C F 0 0,C F 0 0,G H 0,G H 0,C F 0 0,C F 0 0,G H 0,G H 0,C F 0 0,C F 0 0,G H 0,G H 0,C F 0 0,C F 0 0,G H 0,G H 0,C F 0 0,C F 0 0,G H 0,G H 0,C F 0 0,C F 0 0,G H 0,G H 0,C F 0 0,C F 0 0,G H 0,G H 0,C F 0 0,C F 0 0,u]
theorem YZ.fresh{R B:Nat}{w:L}{up:Bool}{t:V8}{cs:List XD}{o:List Rp}{d c f u:M}(hd:Ze 0 w (fun w=>Qe w d t.data))(hc:Ks B w c cs)(hf:J0 B w f (Zp (Gb up t cs o)))(hu:Yw B w u o)(hr:∀g,u.ownBlock=I g->g<R):YZ R B w (Gb up t cs o) (Jj up d t.synced c f (cs.length:Int) u):=by
 refine⟨rfl,rfl,⟨d,rfl,hd⟩,rfl,⟨c,rfl,hc⟩,⟨f,rfl,hf⟩,rfl,⟨C F 0 0,rfl,vL _ _ _ _ _⟩,fun s hs=>?_,⟨u,rfl,hu,hr⟩⟩;refine⟨FH,C F 0 0,C F 0 0,?_,?_,?_,?_,fun w' _=>xI w',fun h=>by cases h⟩;all_goals(obtain rfl|rfl|rfl|rfl|rfl|rfl|rfl|rfl:s=0∨s=1∨s=2∨s=3∨s=4∨s=5∨s=6∨s=7:=by omega)
 all_goals rfl
theorem Ic(v:Sv){j:Nat}(hj:j<=v.commits.length)(up:Bool)(t:V8)(o:List Rp):(Zp v).take (j+1)=Zp (Gb up t (v.commits.take j) o):=by
 unfold Zp QE Gb;simp only[tI,tA hj];rw[<-List.map_take,List.take_range,tA (by omega)];apply List.map_congr_left;intro n hn;rw[List.mem_range]at hn;rw[List.take_take,tA (by omega)]
theorem cM{base B:Nat}{w:L}{v:M}{l:List XD}(h:Ja base w v l)(hB:B<=base):Ks B w v l:=by
 obtain⟨us,h1,h2,h3,h4⟩:=h;refine⟨us.map fun x=>([G H x.1.turn,x.2],x.1),?_,?_,h3,fun x hx=>?_⟩;·rw[<-h1];simp
 ·(have:(us.map fun x=>(([G H x.1.turn,x.2]:List M),x.1)).flatMap (·.1)=jZ us:=by simp[jZ,List.flatMap_map]);rw[this];refine⟨h2.1,?_⟩;rcases h2.2with h|⟨g,cap,cur,e,hb,rest⟩;(·exact .inl h);·exact .inr ⟨g,cap,cur,e,Nat.le_trans hB hb,rest⟩
 ·obtain⟨y,hy,rfl⟩:=List.mem_map.1 hx;have hw:=h4 y hy;obtain⟨a,cap,e,_⟩:=id hw;refine⟨rfl,fun u hu=>?_,fun q hq=>by simp at hq,(Eh hw).mono fun w' h=>⟨_,rfl,h⟩⟩;simp only[tB,Y,or_false]at hu;rcases hu with rfl|rfl;(·rfl);·rw[e];rfl
theorem SH{D:List UInt8->List UInt8}{v:Sv}(h:Zb D v){k:Int}(hk:0<=k):yC (Xs v.tape k):=by
 have hm:=h.may;obtain⟨m1,m2,m3⟩:=(Kz _).1 hm;have hce:Ut v.tape k=0:=by rw[Ut,if_pos hm,if_neg (by omega)]
 have hcn:Xw v.tape k<=v.tape.data.length:=by rw[Xw];split<;>omega
 rw[Xs,if_pos hce];refine⟨?_,?_⟩;·simp only[tI];omega
 ·simp only;omega
theorem xZ{ops:Array tJ}{o:tJ}{a:Act}{w:L}{K:Act->L->Prop}{Q:Exit->Act->L->Prop}{E:Prop}(hgd:o.guard=F)(ty:tH)(x y:tL)(ho:o.op=.store ty x y)(g:Nat)(cells:Array M)(hx:a.eval x=.pointer (I ⟨g,0,F⟩))(hy:a.eval y=tC cells)(t:tH)(old:Array M)(hg:w.heap[g]?=I (N old t (0,0)))(hi:(O.info? ty).map (·.size)=I cells.size)(hold:old.size=cells.size)(h1:cells.all (·.oneCell')=true)(h:K (a.put o.dst undef) (w.setRow g cells)):if Region.wanted o (yielded ops a.tmps)=true then Oper.wp O o a w K Q else E:=by
 have hw:Region.wanted o (yielded ops a.tmps)=true:=by simp[Region.wanted,hgd]
 rw[if_pos hw];exact wp_store_row ty x y ho g cells hx hy t old hg hi hold h1 h
theorem VW{ops:Array tJ}{Q:Exit->Act->L->Prop}{md:Region.Mode}{S:L->Prop}{k n:Nat}{done:Array Bool}{a:Act}{w:L}{o:tJ}(hr:Region.ready md ops done=[k])(ho:ops[k]?=I o)(hgd:o.guard=F){ty:tH}{x y:tL}(hop:o.op=.store ty x y)(g:Nat)(cells:Array M)(hx:a.eval x=.pointer (I ⟨g,0,F⟩))(hy:a.eval y=tC cells)(t:tH)(old:Array M)(hg:w.heap[g]?=I (N old t (0,0)))(hi:(O.info? ty).map (·.size)=I cells.size)(hold:old.size=cells.size)(h1:cells.all (·.oneCell')=true)(hd:Region.ready md ops (done.setIfInBounds k true)=[])(h:Q .normal (a.put o.dst undef) (w.setRow g cells)):ZJ O md ops Q S k (n+1) done a w:=UH hr ho fun _ hK=>xZ hgd ty x y hop g cells hx hy t old hg hi hold h1 (hK _ _ (wpAny_done hd h _))
end Go.Proofs.YtjnapechlkbfmaaGreatDoor
