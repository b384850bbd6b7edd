/-
  Texts of this proof, joined, with few blanks: AcN, AcL, SvFr, TAskQ.
-/
import Derived.Test.YtgnknpcnpjnohaaGreatDoorQ46
import Derived.Laws.Tables
set_option maxRecDepth 100000
set_option maxHeartbeats 8000000
open Go renaming World->I,Value->L,heap_alloc_new->z,TypeId->tC,Oper->tE,Operand->tI
open Go.IntKind renaming i64->H
open Go.Obj renaming cells->O
open Go.Proofs.Tryz renaming prog->M
open Go.Region renaming wanted->Y,ready->tG
open Go.Value renaming slice->C,int->G,bool->tB,agg->tH
open Go.World renaming grownBy_alloc->N,grownBy->T
open List renaming not_mem_nil->V,mem_cons->p,length_take->tD
open Nat renaming min_eq_left->X,zero_le->tA
open Option renaming none->F,some->J
namespace Go.Proofs.YtgnknpcnpjnohaaGreatDoor
open Go.RowKit
def UI(rb:Nat)(w:I)(v:L)(l:List Ac):Prop:=Jp rb w v l∧(l=[]->v=C F 0 0)
theorem Ce(rb:Nat)(w:I):UI rb w (C F 0 0) []:=⟨OK _ _,fun _=>rfl⟩
theorem UI.grown{rb:Nat}{w w':I}{v:L}{l:List Ac}(h:UI rb w v l)(hg:T w w' F):UI rb w' v l:=⟨h.1.grownNone hg,h.2⟩
theorem UI.shape{rb:Nat}{w:I}{v:L}{l:List Ac}(h:UI rb w v l):∃a cap,v=C a l.length cap:=h.1.shape
theorem UI.list{rb:Nat}{w:I}{v:L}{l:List Ac}(h:UI rb w v l):Yg w v l:=h.1.list
theorem UI.row{rb:Nat}{w:I}{v:L}{l:List Ac}(h:UI rb w v l):∀g,v.ownBlock=J g->∃cs t fz,w.heap[g]?=J (O cs t fz)∧¬Vm t∧t≠48∧∀q,cs[0]?≠J (G .u8 q):=fun g e=>by
 obtain⟨⟨us,hul,hr,hp⟩,h0⟩:=h;rcases hr.2with⟨rfl,_⟩|⟨g',cap,cur,rfl,hb,hg,hn,hmx,hcs,ht⟩;·cases e
 ·cases e;refine⟨cur,_,_,hg,by simp[Vm],by decide,fun q hq=>?_⟩;cases us with|nil=>have:=h0 (by rw[<-hul];rfl);cases this|cons x us=>(have hl:0<l.length:=by rw[<-hul];simp);(have e:(cur.toList.take (l.length*4))[0]?=(Y6 (x::us))[0]?:=by rw[ht]);rw[List.getElem?_take,if_pos (by omega),Array.getElem?_toList,hq]at e;simp[Y6]at e
theorem UI.other{rb:Nat}{w:I}{v:L}{l:List Ac}(h:UI rb w v l){b:Nat}{cs:Array L}{t:tC}{fz:Nat×Nat}(hb:w.heap[b]?=J (O cs t fz))(ht:t≠39):J b≠v.ownBlock:=fun e=>by
 rcases h.1.row with h|⟨g,cur,fz',h1,_,h2⟩;·rw[h]at e;cases e
 ·rw[h1]at e;cases e;rw[hb]at h2;simp only[Option.some.injEq,Obj.cells.injEq]at h2;exact ht h2.2.1
structure iH (rb : Nat) (w w' : I) (v v' : L) (l : List Ac) : Prop where
  own : UI rb w' v' l
  kl : KL w w'
  grown : T w w' v.ownBlock
  lies : ∀ g, v'.ownBlock = J g -> v.ownBlock = J g ∨ w.heap.size <= g
theorem UF{w:I}{ops:Array tE}{rest:List tE}{o:tE}{a:Act}{Q:Exit->Act->I->Prop}(hgd:o.guard=F)(s x:tI)(ho:o.op=.call {callee:=.builtin .append,args:=#[s,x],argTypes:=#[24,24]})(rb:Nat)(v:L)(l:List Ac)(hs:a.eval s=v)(hown:UI rb w v l)(r2:Nat)(u:L)(m:List Ac)(hx:a.eval x=u)(hsrc:Jp r2 w u m)(hl:l.length+m.length<=1000)(hbase:rb<=w.heap.size)(h:∀v' w',iH rb w w' v v' (l++m)->wpList M ops Q rest (a.put o.dst v') w'):wpList M ops Q (o::rest) a w:=by
 by_cases h0:l++m=[];·obtain⟨rfl,rfl⟩:=List.append_eq_nil_iff.1 h0;have hv:=hown.2 rfl;obtain⟨xa,xc,rfl⟩:=hsrc.shape;obtain⟨i0,hi,hz0,hz1,hz2⟩:=info_parts M7;refine wpList_plain hgd fun K hK=>?_;have hrun:=zU (P:=M) (w:=w) rb 24 o.type 39 i0 4 Tryz.underlying24 hi (C F 0 0) 0 [] (World.ownsRow_nil _ _ _ _) xa xc;rw[hv]at hs;unfold Oper.wp;simp[execOp,ho,resolve,invoke,builtin,hs,hx,hrun,Result.andThen];rw[hv]at hown h;exact hK _ _ (h _ w ⟨hown,KL.refl _,⟨rfl,rfl,rfl,Nat.le_refl _,fun _ _ _=>rfl⟩,fun _ e=>.inl e⟩)
 ·refine Pj hgd s x ho rb v l hs hown.1 r2 u m hx hsrc (by omega) hbase fun v' w' h1 h2 h3=>h v' w' ⟨⟨h1,fun e=>absurd e h0⟩,KL.turn h2 hown.row,h2,h3⟩
theorem UI.aside{rx ry:Nat}{w w':I}{vx vy:L}{lx ly:List Ac}(h:UI rx w vx lx)(hy:UI ry w vy ly)(hg:T w w' vy.ownBlock)(hne:∀g,vx.ownBlock=J g->vy.ownBlock≠J g):UI rx w' vx lx:=by
 refine⟨?_,h.2⟩;cases e:vy.ownBlock with|none=>rw[e]at hg;exact h.1.grownNone hg|some b=>rw[e]at hg;rcases hy.1.row with h0|⟨g,cur,fz,h1,_,h2⟩;(·rw[h0]at e;cases e);·(obtain rfl:g=b:=by rw[h1]at e;cases e;rfl);obtain⟨us,h1',h2',h3⟩:=h.1;refine⟨us,h1',World.ownsRow.kept h2' hg ?_,fun x hx=>(h3 x hx).keptT hg (.inr ⟨_,_,_,_,rfl,tA _,h2,by decide⟩)⟩;exact .inr fun e'=>hne _ e' h1
theorem iH.apart{rb ry:Nat}{w w':I}{v v' u:L}{l m:List Ac}(h:iH rb w w' v v' l)(hu:UI ry w u m)(hne:∀g,v.ownBlock=J g->u.ownBlock≠J g):∀g,v'.ownBlock=J g->u.ownBlock≠J g:=fun g e e'=>by
 rcases h.lies g e with h1|h1;·exact hne g h1 e'
 ·have:=(hu.1.lt g e').2;omega
theorem TI{rb:Nat}{w W w1:I}{v:L}{l:List Ac}(h:T w W F)(ho:UI rb W v l)(hb:w.heap.size<=rb)(hg:T W w1 v.ownBlock):T w w1 F:=Ts h ho.1 hb hg
theorem Rf(W:I)(A:Ac)(vd:L)(hp:Qi 0 W vd A.data):Jp 0 (W.alloc (O #[G H A.kind,G H A.sess,G H A.keep,vd] 39)) (C (J ⟨W.heap.size,0,F⟩) 1 1) [A]:=Rk (w:=W.alloc _) 0 W.heap.size [(A,vd)] (z W _) (tA _) (by
 simp) fun y hy=>by
 simp only[p,V,or_false]at hy;subst hy;exact hp.keptT (N _ _ F) (.inl rfl)
theorem aL(W:I)(A B:Ac)(va vb:L)(ha:Qi 0 W va A.data)(hb:Qi 0 W vb B.data):Jp 0 (W.alloc (O #[G H A.kind,G H A.sess,G H A.keep,va,G H B.kind,G H B.sess,G H B.keep,vb] 39)) (C (J ⟨W.heap.size,0,F⟩) 2 2) [A,B]:=Rk (w:=W.alloc _) 0 W.heap.size [(A,va),(B,vb)] (z W _) (tA _) (by
 simp) fun y hy=>by
 simp only[p,V,or_false]at hy;rcases hy with rfl|rfl;·exact ha.keptT (N _ _ F) (.inl rfl)
 ·exact hb.keptT (N _ _ F) (.inl rfl)
theorem vX(w:I):Qi 0 w (C F 0 0) []:=⟨Qx w,.inl rfl⟩
theorem lL(W:I):Jp 0 (W.alloc (O #[G H 4,G H 0,G H 0,C F 0 0] 39)) (C (J ⟨W.heap.size,0,F⟩) 1 1) [Zh]:=Rf W Zh _ (vX W)
theorem mE(W:I):Jp 0 (W.alloc (O #[G H 2,G H 0,G H 0,C F 0 0] 39)) (C (J ⟨W.heap.size,0,F⟩) 1 1) [Pn]:=Rf W Pn _ (vX W)
theorem lQ(W:I)(k:Int):Jp 0 (W.alloc (O #[G H 3,G H 0,G H k,C F 0 0] 39)) (C (J ⟨W.heap.size,0,F⟩) 1 1) [Zj k]:=Rf W (Zj k) _ (vX W)
theorem cT(W:I)(k:Int):Jp 0 (W.alloc (O #[G H 3,G H 0,G H k,C F 0 0,G H 4,G H 0,G H 0,C F 0 0] 39)) (C (J ⟨W.heap.size,0,F⟩) 2 2) [Zj k,Zh]:=aL W (Zj k) Zh _ _ (vX W) (vX W)
theorem qY{w w':I}{g:Nat}(h:T w w' (J g))(cs:Array L):T w (w'.setRow g cs) (J g):=⟨h.os,h.tape,h.output,by
 rw[size_setRow];exact h.size,fun i hi hn=>by
 rw[setRow_other _ _ _ _ (fun e=>hn (by rw[e]))];exact h.block i hi hn⟩
def Jm(up:Bool)(d:L)(ts:Int)(c f:L)(n:Int)(u:L):Array L:=#[tB up,d,G H ts,c,f,G H n,C F 0 0,G H 0,G H 0,C F 0 0,C F 0 0,G H 0,G H 0,C F 0 0,C F 0 0,G H 0,G H 0,C F 0 0,C F 0 0,G H 0,G H 0,C F 0 0,C F 0 0,G H 0,G H 0,C F 0 0,C F 0 0,G H 0,G H 0,C F 0 0,C F 0 0,G H 0,G H 0,C F 0 0,C F 0 0,G H 0,G H 0,C F 0 0,C F 0 0,u]
theorem Y9.fresh{R B:Nat}{w:I}{up:Bool}{t:Gc}{cs:List XG}{o:List Rp}{d c f u:L}(hd:Ze 0 w (fun w=>Qe w d t.data))(hc:Kz B w c cs)(hf:J9 B w f (Zs (Ge up t cs o)))(hu:Yz B w u o)(hr:∀g,u.ownBlock=J g->g<R):Y9 R B w (Ge up t cs o) (Jm up d t.synced c f (cs.length:Int) u):=by
 refine⟨rfl,rfl,⟨d,rfl,hd⟩,rfl,⟨c,rfl,hc⟩,⟨f,rfl,hf⟩,rfl,⟨C F 0 0,rfl,vT _ _ _ _ _⟩,fun s hs=>?_,⟨u,rfl,hu,hr⟩⟩;refine⟨FW,C F 0 0,C F 0 0,?_,?_,?_,?_,fun w' _=>xM w',fun h=>by cases h⟩;all_goals(obtain rfl|rfl|rfl|rfl|rfl|rfl|rfl|rfl:s=0∨s=1∨s=2∨s=3∨s=4∨s=5∨s=6∨s=7:=by omega)
 all_goals rfl
theorem II(v:Sv){j:Nat}(hj:j<=v.commits.length)(up:Bool)(t:Gc)(o:List Rp):(Zs v).take (j+1)=Zs (Ge up t (v.commits.take j) o):=by
 unfold Zs QE Ge;simp only[tD,X hj];rw[<-List.map_take,List.take_range,X (by omega)];apply List.map_congr_left;intro n hn;rw[List.mem_range]at hn;rw[List.take_take,X (by omega)]
theorem eH{base B:Nat}{w:I}{v:L}{l:List XG}(h:Jf base w v l)(hB:B<=base):Kz B w v l:=by
 obtain⟨us,h1,h2,h3,h4⟩:=h;refine⟨us.map fun x=>([G H x.1.turn,x.2],x.1),?_,?_,h3,fun x hx=>?_⟩;·rw[<-h1];simp
 ·(have:(us.map fun x=>(([G H x.1.turn,x.2]:List L),x.1)).flatMap (·.1)=kB us:=by simp[kB,List.flatMap_map]);rw[this];refine⟨h2.1,?_⟩;rcases h2.2with h|⟨g,cap,cur,e,hb,rest⟩;(·exact .inl h);·exact .inr ⟨g,cap,cur,e,Nat.le_trans hB hb,rest⟩
 ·obtain⟨y,hy,rfl⟩:=List.mem_map.1 hx;have hw:=h4 y hy;obtain⟨a,cap,e,_⟩:=id hw;refine⟨rfl,fun u hu=>?_,fun q hq=>by simp at hq,(Es hw).mono fun w' h=>⟨_,rfl,h⟩⟩;simp only[p,V,or_false]at hu;rcases hu with rfl|rfl;(·rfl);·rw[e];rfl
theorem Lg{D:List UInt8->List UInt8}{v:Sv}(h:Za D v){k:Int}(hk:0<=k):yD (Xu v.tape k):=by
 have hm:=h.may;obtain⟨m1,m2,m3⟩:=(KO _).1 hm;have hce:Uy v.tape k=0:=by rw[Uy,if_pos hm,if_neg (by omega)]
 have hcn:Xy v.tape k<=v.tape.data.length:=by rw[Xy];split<;>omega
 rw[Xu,if_pos hce];refine⟨?_,?_⟩;·simp only[tD];omega
 ·simp only;omega
theorem yA{ops:Array tE}{o:tE}{a:Act}{w:I}{K:Act->I->Prop}{Q:Exit->Act->I->Prop}{E:Prop}(hgd:o.guard=F)(ty:tC)(x y:tI)(ho:o.op=.store ty x y)(g:Nat)(cells:Array L)(hx:a.eval x=.pointer (J ⟨g,0,F⟩))(hy:a.eval y=tH cells)(t:tC)(old:Array L)(hg:w.heap[g]?=J (O old t (0,0)))(hi:(M.info? ty).map (·.size)=J cells.size)(hold:old.size=cells.size)(h1:cells.all (·.oneCell')=true)(h:K (a.put o.dst undef) (w.setRow g cells)):if Y o (yielded ops a.tmps)=true then Oper.wp M o a w K Q else E:=by
 have hw:Y o (yielded ops a.tmps)=true:=by simp[Y,hgd]
 rw[if_pos hw];exact wp_store_row ty x y ho g cells hx hy t old hg hi hold h1 h
theorem VZ{ops:Array tE}{Q:Exit->Act->I->Prop}{md:Region.Mode}{S:I->Prop}{k n:Nat}{done:Array Bool}{a:Act}{w:I}{o:tE}(hr:tG md ops done=[k])(ho:ops[k]?=J o)(hgd:o.guard=F){ty:tC}{x y:tI}(hop:o.op=.store ty x y)(g:Nat)(cells:Array L)(hx:a.eval x=.pointer (J ⟨g,0,F⟩))(hy:a.eval y=tH cells)(t:tC)(old:Array L)(hg:w.heap[g]?=J (O old t (0,0)))(hi:(M.info? ty).map (·.size)=J cells.size)(hold:old.size=cells.size)(h1:cells.all (·.oneCell')=true)(hd:tG md ops (done.setIfInBounds k true)=[])(h:Q .normal (a.put o.dst undef) (w.setRow g cells)):ZK M md ops Q S k (n+1) done a w:=UV hr ho fun _ hK=>yA hgd ty x y hop g cells hx hy t old hg hi hold h1 (hK _ _ (wpAny_done hd h _))
def nF(s:Int)(w:I)(d:List UInt8)(e:Ending)(w':I):Prop:=∃xa xc,e=.returned (tH #[G H 1,G H s,G H 0,C xa d.length xc])∧Qi 0 w' (C xa d.length xc) d∧T w w' F
theorem m8(w:I)(s:Int)(v:L)(r:Rq)(hT:UJ w)(hv:Xt w v r)(hr:X0 r):Calls M 20 #[G H s,v] w (nF s w (Ki r)):=by
 refine(Cs w s v r hT hv (qK hr)).mono ?_;rintro e w'⟨x,rfl,hx,hg⟩;rw[L5 hr]at hx;obtain⟨xa,xc,rfl⟩:=hx.slice.shape;exact⟨xa,xc,rfl,hx,hg⟩
theorem nH(w:I)(k:Int):Xt w (tH #[G H k,C F 0 0,C F 0 0,C F 0 0,C F 0 0]) (F7 k):=⟨_,_,_,_,rfl,Qx w,Qx w,Qx w,Qx w⟩
theorem mI(rb:Nat)(W:I)(hrb:rb<=W.heap.size)(l:List (Ac×L))(h0:l≠[])(hl:l.length<=1000)(hp:∀y∈l,Qi 0 W y.2 y.1.data)(cs:Array L)(hcs:cs.toList=Y6 l):UI rb (W.alloc (O cs 39)) (C (J ⟨W.heap.size,0,F⟩) l.length l.length) (l.map (fun y=>y.1)):=by
 obtain rfl:cs=⟨Y6 l⟩:=by rw[<-hcs]
 exact⟨Rk (w:=W.alloc _) rb W.heap.size l (z W _) hrb hl fun y hy=>(hp y hy).keptT (N _ _ F) (.inl rfl),fun e=>absurd (List.map_eq_nil_iff.1 e) h0⟩
theorem FM.all{w:I}{a:Option Addr}{n cap:Nat}{l:List Rp}(h:FM w (C a n cap) l)(i:Nat)(hi:i<l.length):∃b o a4 c4 a5 c5 a6 c6 a8 c8 a9 c9 a10 c10 a12 c12 a13 c13 a14 c14,a=J ⟨b,o,F⟩∧w.cell? ⟨b,o+i*15,F⟩=J (G H (l.getD i zX).sess)∧w.cell? ⟨b,o+i*15+1,F⟩=J (G H (l.getD i zX).code)∧w.cell? ⟨b,o+i*15+2,F⟩=J (G H (l.getD i zX).turn)∧w.cell? ⟨b,o+i*15+3,F⟩=J (tB (l.getD i zX).found)∧w.cell? ⟨b,o+i*15+4,F⟩=J (C a4 (l.getD i zX).value.length c4)∧w.cell? ⟨b,o+i*15+5,F⟩=J (C a5 (l.getD i zX).pairs.length c5)∧w.cell? ⟨b,o+i*15+6,F⟩=J (C a6 (Pv (l.getD i zX)).length c6)∧w.cell? ⟨b,o+i*15+7,F⟩=J (tB (KU (l.getD i zX)).empty)∧w.cell? ⟨b,o+i*15+8,F⟩=J (C a8 (KU (l.getD i zX)).steps.length c8)∧w.cell? ⟨b,o+i*15+9,F⟩=J (C a9 (KU (l.getD i zX)).pair.1.length c9)∧w.cell? ⟨b,o+i*15+10,F⟩=J (C a10 (KU (l.getD i zX)).pair.2.length c10)∧w.cell? ⟨b,o+i*15+11,F⟩=J (tB (KT (l.getD i zX)).empty)∧w.cell? ⟨b,o+i*15+12,F⟩=J (C a12 (KT (l.getD i zX)).steps.length c12)∧w.cell? ⟨b,o+i*15+13,F⟩=J (C a13 (KT (l.getD i zX)).pair.1.length c13)∧w.cell? ⟨b,o+i*15+14,F⟩=J (C a14 (KT (l.getD i zX)).pair.2.length c14)∧Qe w (C a4 (l.getD i zX).value.length c4) (l.getD i zX).value∧Qr w (C a5 (l.getD i zX).pairs.length c5) (l.getD i zX).pairs∧Qe w (C a6 (Pv (l.getD i zX)).length c6) (Pv (l.getD i zX))∧KR w (tH #[tB (KU (l.getD i zX)).empty,C a8 (KU (l.getD i zX)).steps.length c8,C a9 (KU (l.getD i zX)).pair.1.length c9,C a10 (KU (l.getD i zX)).pair.2.length c10]) (KU (l.getD i zX))∧KR w (tH #[tB (KT (l.getD i zX)).empty,C a12 (KT (l.getD i zX)).steps.length c12,C a13 (KT (l.getD i zX)).pair.1.length c13,C a14 (KT (l.getD i zX)).pair.2.length c14]) (KT (l.getD i zX)):=by
 obtain⟨a',cap',e,_,h⟩:=h;simp only[Value.slice.injEq]at e;obtain⟨rfl,_,_⟩:=e;rcases h with rfl|⟨b,o,rfl,h⟩;·simp at hi
 ·obtain⟨cs,h1,h2,vv,vp,vr,oe,os,ok,ov,ie,is,ik,iv,e,h4,h5,h6,h7,h8⟩:=h i hi;simp only[Value.agg.injEq,Array.mk.injEq]at e;subst e;obtain⟨a4,c4,rfl⟩:=h4.shape;obtain⟨a5,c5,rfl⟩:=h5.shape;obtain⟨a6,c6,rfl⟩:=h6.shape;have h7':=h7;have h8':=h8;obtain⟨vs,vk,vw,e7,k1,k2,k3⟩:=h7;obtain⟨us,uk,uw,e8,m1,m2,m3⟩:=h8;simp only[Value.agg.injEq,Array.mk.injEq,List.cons.injEq,and_true]at e7 e8;obtain⟨rfl,rfl,rfl,rfl⟩:=e7;obtain⟨rfl,rfl,rfl,rfl⟩:=e8;obtain⟨a8,c8,rfl⟩:=k1.shape;obtain⟨a9,c9,rfl⟩:=k2.shape;obtain⟨a10,c10,rfl⟩:=k3.shape;obtain⟨a12,c12,rfl⟩:=m1.shape;obtain⟨a13,c13,rfl⟩:=m2.shape;obtain⟨a14,c14,rfl⟩:=m3.shape;exact⟨b,o,a4,c4,a5,c5,a6,c6,a8,c8,a9,c9,a10,c10,a12,c12,a13,c13,a14,c14,rfl,h2 0 (by decide),h2 1 (by decide),h2 2 (by decide),h2 3 (by decide),h2 4 (by decide),h2 5 (by decide),h2 6 (by decide),h2 7 (by decide),h2 8 (by decide),h2 9 (by decide),h2 10 (by decide),h2 11 (by decide),h2 12 (by decide),h2 13 (by decide),h2 14 (by decide),h4,h5,h6,h7',h8'⟩
end Go.Proofs.YtgnknpcnpjnohaaGreatDoor
