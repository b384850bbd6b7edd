/-
  Texts of this proof, joined, with few blanks: AcN, AcL, SvFr, TAskQ.
-/
import Derived.Test.YteohkbehnmjliaaGreatDoorQ46
import Derived.Laws.Tables
set_option maxRecDepth 100000
set_option maxHeartbeats 8000000
open Go renaming World->G,Value->L,heap_alloc_new->p,Oper->tC,TypeId->tG,Operand->tH
open Go.IntKind renaming i64->I
open Go.Proofs.Tryz renaming prog->M
open Go.Region renaming wanted->X,ready->tD
open Go.Value renaming slice->C,int->H,bool->tA,agg->tE
open Go.World renaming grownBy_alloc->N,grownBy->O
open List renaming not_mem_nil->T,mem_cons->Y,length_take->tB
open Nat renaming min_eq_left->V,zero_le->z
open Option renaming none->F,some->J
namespace Go.Proofs.YteohkbehnmjliaaGreatDoor
open Go.RowKit
def Ya(rb:Nat)(w:G)(v:L)(l:List Ac):Prop:=Kf rb w v l∧(l=[]->v=C F 0 0)
theorem T8(rb:Nat)(w:G):Ya rb w (C F 0 0) []:=⟨OH _ _,fun _=>rfl⟩
theorem Ya.grown{rb:Nat}{w w':G}{v:L}{l:List Ac}(h:Ya rb w v l)(hg:O w w' F):Ya rb w' v l:=⟨h.1.grownNone hg,h.2⟩
theorem Ya.shape{rb:Nat}{w:G}{v:L}{l:List Ac}(h:Ya rb w v l):∃a cap,v=C a l.length cap:=h.1.shape
theorem Ya.list{rb:Nat}{w:G}{v:L}{l:List Ac}(h:Ya rb w v l):YA w v l:=h.1.list
theorem Ya.row{rb:Nat}{w:G}{v:L}{l:List Ac}(h:Ya rb w v l):∀g,v.ownBlock=J g->∃cs t fz,w.heap[g]?=J (.cells cs t fz)∧¬V5 t∧t≠46∧∀q,cs[0]?≠J (H .u8 q):=fun g e=>by
 obtain⟨⟨us,hul,hr,hp⟩,h0⟩:=h;rcases hr.2with⟨rfl,_⟩|⟨g',cap,cur,rfl,hb,hg,hn,hmx,hcs,ht⟩;·cases e
 ·cases e;refine⟨cur,_,_,hg,by simp[V5],by decide,fun q hq=>?_⟩;cases us with|nil=>have:=h0 (by rw[<-hul];rfl);cases this|cons x us=>(have hl:0<l.length:=by rw[<-hul];simp);(have e:(cur.toList.take (l.length*4))[0]?=(Y9 (x::us))[0]?:=by rw[ht]);rw[List.getElem?_take,if_pos (by omega),Array.getElem?_toList,hq]at e;simp[Y9]at e
structure mA (rb : Nat) (w w' : G) (v v' : L) (l : List Ac) : Prop where
  own : Ya rb w' v' l
  kl : KL w w'
  grown : O w w' v.ownBlock
  lies : ∀ g, v'.ownBlock = J g -> v.ownBlock = J g ∨ w.heap.size <= g
theorem XE{w:G}{ops:Array tC}{rest:List tC}{o:tC}{a:Act}{Q:Exit->Act->G->Prop}(hgd:o.guard=F)(s x:tH)(ho:o.op=.call {callee:=.builtin .append,args:=#[s,x],argTypes:=#[23,23]})(rb:Nat)(v:L)(l:List Ac)(hs:a.eval s=v)(hown:Ya rb w v l)(r2:Nat)(u:L)(m:List Ac)(hx:a.eval x=u)(hsrc:Kf r2 w u m)(hl:l.length+m.length<=1000)(hbase:rb<=w.heap.size)(h:∀v' w',mA rb w w' v v' (l++m)->wpList M ops Q rest (a.put o.dst v') w'):wpList M ops Q (o::rest) a w:=by
 by_cases h0:l++m=[];·obtain⟨rfl,rfl⟩:=List.append_eq_nil_iff.1 h0;have hv:=hown.2 rfl;obtain⟨xa,xc,rfl⟩:=hsrc.shape;obtain⟨i0,hi,hz0,hz1,hz2⟩:=info_parts Db;refine wpList_plain hgd fun K hK=>?_;have hrun:=zT (P:=M) (w:=w) rb 23 o.type 27 i0 4 Tryz.underlying23 hi (C F 0 0) 0 [] (World.ownsRow_nil _ _ _ _) xa xc;rw[hv]at hs;unfold Oper.wp;simp[execOp,ho,resolve,invoke,builtin,hs,hx,hrun,Result.andThen];rw[hv]at hown h;exact hK _ _ (h _ w ⟨hown,KL.refl _,⟨rfl,rfl,rfl,Nat.le_refl _,fun _ _ _=>rfl⟩,fun _ e=>.inl e⟩)
 ·refine Pe hgd s x ho rb v l hs hown.1 r2 u m hx hsrc (by omega) hbase fun v' w' h1 h2 h3=>h v' w' ⟨⟨h1,fun e=>absurd e h0⟩,KL.turn h2 hown.row,h2,h3⟩
theorem Ya.aside{rx ry:Nat}{w w':G}{vx vy:L}{lx ly:List Ac}(h:Ya rx w vx lx)(hy:Ya ry w vy ly)(hg:O w w' vy.ownBlock)(hne:∀g,vx.ownBlock=J g->vy.ownBlock≠J g):Ya rx w' vx lx:=by
 refine⟨?_,h.2⟩;cases e:vy.ownBlock with|none=>rw[e]at hg;exact h.1.grownNone hg|some b=>rw[e]at hg;rcases hy.1.row with h0|⟨g,cur,fz,h1,_,h2⟩;(·rw[h0]at e;cases e);·(obtain rfl:g=b:=by rw[h1]at e;cases e;rfl);obtain⟨us,h1',h2',h3⟩:=h.1;refine⟨us,h1',World.ownsRow.kept h2' hg ?_,fun x hx=>(h3 x hx).keptT hg (.inr ⟨_,_,_,_,rfl,z _,h2,by decide⟩)⟩;exact .inr fun e'=>hne _ e' h1
theorem VS{rb:Nat}{w W w1:G}{v:L}{l:List Ac}(h:O w W F)(ho:Ya rb W v l)(hb:w.heap.size<=rb)(hg:O W w1 v.ownBlock):O w w1 F:=Tm h ho.1 hb hg
theorem OY(W:G)(A:Ac)(vd:L)(hp:Qi 0 W vd A.data):Kf 0 (W.alloc (.cells #[H I A.kind,H I A.sess,H I A.keep,vd] 27)) (C (J ⟨W.heap.size,0,F⟩) 1 1) [A]:=Rj (w:=W.alloc _) 0 W.heap.size [(A,vd)] (p W _) (z _) (by
 simp) fun y hy=>by
 simp only[Y,T,or_false]at hy;subst hy;exact hp.keptT (N _ _ F) (.inl rfl)
theorem aI(W:G)(A B:Ac)(va vb:L)(ha:Qi 0 W va A.data)(hb:Qi 0 W vb B.data):Kf 0 (W.alloc (.cells #[H I A.kind,H I A.sess,H I A.keep,va,H I B.kind,H I B.sess,H I B.keep,vb] 27)) (C (J ⟨W.heap.size,0,F⟩) 2 2) [A,B]:=Rj (w:=W.alloc _) 0 W.heap.size [(A,va),(B,vb)] (p W _) (z _) (by
 simp) fun y hy=>by
 simp only[Y,T,or_false]at hy;rcases hy with rfl|rfl;·exact ha.keptT (N _ _ F) (.inl rfl)
 ·exact hb.keptT (N _ _ F) (.inl rfl)
theorem Da(w:G):Qi 0 w (C F 0 0) []:=⟨Qx w,.inl rfl⟩
theorem qY{w w':G}{g:Nat}(h:O w w' (J g))(cs:Array L):O w (w'.setRow g cs) (J g):=⟨h.os,h.tape,h.output,by
 rw[size_setRow];exact h.size,fun i hi hn=>by
 rw[setRow_other _ _ _ _ (fun e=>hn (by rw[e]))];exact h.block i hi hn⟩
def Jq(up:Bool)(d:L)(ts:Int)(c f:L)(n:Int)(u:L):Array L:=#[tA up,d,H I ts,c,f,H I n,C F 0 0,H I 0,H I 0,C F 0 0,C F 0 0,H I 0,H I 0,C F 0 0,C F 0 0,H I 0,H I 0,C F 0 0,C F 0 0,H I 0,H I 0,C F 0 0,C F 0 0,H I 0,H I 0,C F 0 0,C F 0 0,H I 0,H I 0,C F 0 0,C F 0 0,H I 0,H I 0,C F 0 0,C F 0 0,H I 0,H I 0,C F 0 0,C F 0 0,u]
theorem Jb.fresh{R B:Nat}{w:G}{up:Bool}{t:Gg}{cs:List XI}{o:List Rp}{d c f u:L}(hd:Zc 0 w (fun w=>Qe w d t.data))(hc:KH B w c cs)(hf:Ka B w f (Zo (Gi up t cs o)))(hu:YF B w u o)(hr:∀g,u.ownBlock=J g->g<R):Jb R B w (Gi up t cs o) (Jq up d t.synced c f (cs.length:Int) u):=by
 refine⟨rfl,rfl,⟨d,rfl,hd⟩,rfl,⟨c,rfl,hc⟩,⟨f,rfl,hf⟩,rfl,⟨C F 0 0,rfl,vQ _ _ _ _ _⟩,fun s hs=>?_,⟨u,rfl,hu,hr⟩⟩;refine⟨FN,C F 0 0,C F 0 0,?_,?_,?_,?_,fun w' _=>xM w',fun h=>by cases h⟩;all_goals(obtain rfl|rfl|rfl|rfl|rfl|rfl|rfl|rfl:s=0∨s=1∨s=2∨s=3∨s=4∨s=5∨s=6∨s=7:=by omega)
 all_goals rfl
theorem IA(v:Sv){j:Nat}(hj:j<=v.commits.length)(up:Bool)(t:Gg)(o:List Rp):(Zo v).take (j+1)=Zo (Gi up t (v.commits.take j) o):=by
 unfold Zo QH Gi;simp only[tB,V hj];rw[<-List.map_take,List.take_range,V (by omega)];apply List.map_congr_left;intro n hn;rw[List.mem_range]at hn;rw[List.take_take,V (by omega)]
theorem dY{base B:Nat}{w:G}{v:L}{l:List XI}(h:Ji base w v l)(hB:B<=base):KH B w v l:=by
 obtain⟨us,h1,h2,h3,h4⟩:=h;refine⟨us.map fun x=>([H I x.1.turn,x.2],x.1),?_,?_,h3,fun x hx=>?_⟩;·rw[<-h1];simp
 ·(have:(us.map fun x=>(([H I x.1.turn,x.2]:List L),x.1)).flatMap (·.1)=j9 us:=by simp[j9,List.flatMap_map]);rw[this];refine⟨h2.1,?_⟩;rcases h2.2with h|⟨g,cap,cur,e,hb,rest⟩;(·exact .inl h);·exact .inr ⟨g,cap,cur,e,Nat.le_trans hB hb,rest⟩
 ·obtain⟨y,hy,rfl⟩:=List.mem_map.1 hx;have hw:=h4 y hy;obtain⟨a,cap,e,_⟩:=id hw;refine⟨rfl,fun u hu=>?_,fun q hq=>by simp at hq,(Eu hw).mono fun w' h=>⟨_,rfl,h⟩⟩;simp only[Y,T,or_false]at hu;rcases hu with rfl|rfl;(·rfl);·rw[e];rfl
theorem Le{D:List UInt8->List UInt8}{v:Sv}(h:Zg D v){k:Int}(hk:0<=k):yD (Xv v.tape k):=by
 have hm:=h.may;obtain⟨m1,m2,m3⟩:=(KT _).1 hm;have hce:UB v.tape k=0:=by rw[UB,if_pos hm,if_neg (by omega)]
 have hcn:Xz v.tape k<=v.tape.data.length:=by rw[Xz];split<;>omega
 rw[Xv,if_pos hce];refine⟨?_,?_⟩;·simp only[tB];omega
 ·simp only;omega
theorem yA{ops:Array tC}{o:tC}{a:Act}{w:G}{K:Act->G->Prop}{Q:Exit->Act->G->Prop}{E:Prop}(hgd:o.guard=F)(ty:tG)(x y:tH)(ho:o.op=.store ty x y)(g:Nat)(cells:Array L)(hx:a.eval x=.pointer (J ⟨g,0,F⟩))(hy:a.eval y=tE cells)(t:tG)(old:Array L)(hg:w.heap[g]?=J (.cells old t (0,0)))(hi:(M.info? ty).map (·.size)=J cells.size)(hold:old.size=cells.size)(h1:cells.all (·.oneCell')=true)(h:K (a.put o.dst undef) (w.setRow g cells)):if X o (yielded ops a.tmps)=true then Oper.wp M o a w K Q else E:=by
 have hw:X o (yielded ops a.tmps)=true:=by simp[X,hgd]
 rw[if_pos hw];exact wp_store_row ty x y ho g cells hx hy t old hg hi hold h1 h
theorem V4{ops:Array tC}{Q:Exit->Act->G->Prop}{md:Region.Mode}{S:G->Prop}{k n:Nat}{done:Array Bool}{a:Act}{w:G}{o:tC}(hr:tD md ops done=[k])(ho:ops[k]?=J o)(hgd:o.guard=F){ty:tG}{x y:tH}(hop:o.op=.store ty x y)(g:Nat)(cells:Array L)(hx:a.eval x=.pointer (J ⟨g,0,F⟩))(hy:a.eval y=tE cells)(t:tG)(old:Array L)(hg:w.heap[g]?=J (.cells old t (0,0)))(hi:(M.info? ty).map (·.size)=J cells.size)(hold:old.size=cells.size)(h1:cells.all (·.oneCell')=true)(hd:tD md ops (done.setIfInBounds k true)=[])(h:Q .normal (a.put o.dst undef) (w.setRow g cells)):ZD M md ops Q S k (n+1) done a w:=US hr ho fun _ hK=>yA hgd ty x y hop g cells hx hy t old hg hi hold h1 (hK _ _ (wpAny_done hd h _))
def g8(s:Int)(w:G)(d:List UInt8)(e:Ending)(w':G):Prop:=∃xa xc,e=.returned (tE #[H I 1,H I s,H I 0,C xa d.length xc])∧Qi 0 w' (C xa d.length xc) d∧O w w' F
theorem dN(w:G)(s:Int)(v:L)(r:Rq)(hT:UL w)(hv:Xu w v r)(hr:YS r):Calls M 8 #[H I s,v] w (g8 s w (KN r)):=by
 refine(Cz w s v r hT hv (qM hr)).mono ?_;rintro e w'⟨x,rfl,hx,hg⟩;rw[L8 hr]at hx;obtain⟨xa,xc,rfl⟩:=hx.slice.shape;exact⟨xa,xc,rfl,hx,hg⟩
theorem iH(w:G)(k:Int):Xu w (tE #[H I k,C F 0 0,C F 0 0,C F 0 0,C F 0 0]) (Hl k):=⟨_,_,_,_,rfl,Qx w,Qx w,Qx w,Qx w⟩
theorem aV(rb:Nat)(W:G)(hrb:rb<=W.heap.size)(l:List (Ac×L))(h0:l≠[])(hl:l.length<=1000)(hp:∀y∈l,Qi 0 W y.2 y.1.data)(cs:Array L)(hcs:cs.toList=Y9 l):Ya rb (W.alloc (.cells cs 27)) (C (J ⟨W.heap.size,0,F⟩) l.length l.length) (l.map (fun y=>y.1)):=by
 obtain rfl:cs=⟨Y9 l⟩:=by rw[<-hcs]
 exact⟨Rj (w:=W.alloc _) rb W.heap.size l (p W _) hrb hl fun y hy=>(hp y hy).keptT (N _ _ F) (.inl rfl),fun e=>absurd (List.map_eq_nil_iff.1 e) h0⟩
theorem Fx.all{w:G}{a:Option Addr}{n cap:Nat}{l:List Rp}(h:Fx w (C a n cap) l)(i:Nat)(hi:i<l.length):∃b o a4 c4 a5 c5 a6 c6 a8 c8 a9 c9 a10 c10 a12 c12 a13 c13 a14 c14,a=J ⟨b,o,F⟩∧w.cell? ⟨b,o+i*15,F⟩=J (H I (l.getD i zX).sess)∧w.cell? ⟨b,o+i*15+1,F⟩=J (H I (l.getD i zX).code)∧w.cell? ⟨b,o+i*15+2,F⟩=J (H I (l.getD i zX).turn)∧w.cell? ⟨b,o+i*15+3,F⟩=J (tA (l.getD i zX).found)∧w.cell? ⟨b,o+i*15+4,F⟩=J (C a4 (l.getD i zX).value.length c4)∧w.cell? ⟨b,o+i*15+5,F⟩=J (C a5 (l.getD i zX).pairs.length c5)∧w.cell? ⟨b,o+i*15+6,F⟩=J (C a6 (Vp (l.getD i zX)).length c6)∧w.cell? ⟨b,o+i*15+7,F⟩=J (tA (X9 (l.getD i zX)).empty)∧w.cell? ⟨b,o+i*15+8,F⟩=J (C a8 (X9 (l.getD i zX)).steps.length c8)∧w.cell? ⟨b,o+i*15+9,F⟩=J (C a9 (X9 (l.getD i zX)).pair.1.length c9)∧w.cell? ⟨b,o+i*15+10,F⟩=J (C a10 (X9 (l.getD i zX)).pair.2.length c10)∧w.cell? ⟨b,o+i*15+11,F⟩=J (tA (X5 (l.getD i zX)).empty)∧w.cell? ⟨b,o+i*15+12,F⟩=J (C a12 (X5 (l.getD i zX)).steps.length c12)∧w.cell? ⟨b,o+i*15+13,F⟩=J (C a13 (X5 (l.getD i zX)).pair.1.length c13)∧w.cell? ⟨b,o+i*15+14,F⟩=J (C a14 (X5 (l.getD i zX)).pair.2.length c14)∧Qe w (C a4 (l.getD i zX).value.length c4) (l.getD i zX).value∧Qr w (C a5 (l.getD i zX).pairs.length c5) (l.getD i zX).pairs∧Qe w (C a6 (Vp (l.getD i zX)).length c6) (Vp (l.getD i zX))∧KW w (tE #[tA (X9 (l.getD i zX)).empty,C a8 (X9 (l.getD i zX)).steps.length c8,C a9 (X9 (l.getD i zX)).pair.1.length c9,C a10 (X9 (l.getD i zX)).pair.2.length c10]) (X9 (l.getD i zX))∧KW w (tE #[tA (X5 (l.getD i zX)).empty,C a12 (X5 (l.getD i zX)).steps.length c12,C a13 (X5 (l.getD i zX)).pair.1.length c13,C a14 (X5 (l.getD i zX)).pair.2.length c14]) (X5 (l.getD i zX)):=by
 obtain⟨a',cap',e,_,h⟩:=h;simp only[Value.slice.injEq]at e;obtain⟨rfl,_,_⟩:=e;rcases h with rfl|⟨b,o,rfl,h⟩;·simp at hi
 ·obtain⟨cs,h1,h2,vv,vp,vr,oe,os,ok,ov,ie,is,ik,iv,e,h4,h5,h6,h7,h8⟩:=h i hi;simp only[Value.agg.injEq,Array.mk.injEq]at e;subst e;obtain⟨a4,c4,rfl⟩:=h4.shape;obtain⟨a5,c5,rfl⟩:=h5.shape;obtain⟨a6,c6,rfl⟩:=h6.shape;have h7':=h7;have h8':=h8;obtain⟨vs,vk,vw,e7,k1,k2,k3⟩:=h7;obtain⟨us,uk,uw,e8,m1,m2,m3⟩:=h8;simp only[Value.agg.injEq,Array.mk.injEq,List.cons.injEq,and_true]at e7 e8;obtain⟨rfl,rfl,rfl,rfl⟩:=e7;obtain⟨rfl,rfl,rfl,rfl⟩:=e8;obtain⟨a8,c8,rfl⟩:=k1.shape;obtain⟨a9,c9,rfl⟩:=k2.shape;obtain⟨a10,c10,rfl⟩:=k3.shape;obtain⟨a12,c12,rfl⟩:=m1.shape;obtain⟨a13,c13,rfl⟩:=m2.shape;obtain⟨a14,c14,rfl⟩:=m3.shape;exact⟨b,o,a4,c4,a5,c5,a6,c6,a8,c8,a9,c9,a10,c10,a12,c12,a13,c13,a14,c14,rfl,h2 0 (by decide),h2 1 (by decide),h2 2 (by decide),h2 3 (by decide),h2 4 (by decide),h2 5 (by decide),h2 6 (by decide),h2 7 (by decide),h2 8 (by decide),h2 9 (by decide),h2 10 (by decide),h2 11 (by decide),h2 12 (by decide),h2 13 (by decide),h2 14 (by decide),h4,h5,h6,h7',h8'⟩
end Go.Proofs.YteohkbehnmjliaaGreatDoor
