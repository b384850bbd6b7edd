/-
  Texts of this proof, joined, with few blanks: AcN, SvFr, TAskQ, TLit, RgAsk.
-/
import Derived.Test.YtieoehicoocpjaaGreatDoorQ47
import Derived.Laws.Tables
set_option maxRecDepth 100000
set_option maxHeartbeats 8000000
open Go renaming World->F,Value->G,TypeId->V,Operand->X,Oper->tA
open Go.IntKind renaming i64->J
open Go.Proofs.Tryz renaming prog->L
open Go.Region renaming wanted->O,ready->Y
open Go.Value renaming slice->A,int->I,bool->T,agg->z
open Go.World renaming grownBy->M
open Nat renaming min_eq_left->N,le_refl->tB
open Option renaming none->C,some->H
namespace Go.Proofs.YtieoehicoocpjaaGreatDoor
open Go.RowKit
def KO(rb:Nat)(w:F)(v:G)(l:List Ac):Prop:=Ud rb w v l∧(l=[]->v=A C 0 0)
theorem D0(rb:Nat)(w:F):KO rb w (A C 0 0) []:=⟨Ol _ _,fun _=>rfl⟩
theorem KO.grown{rb:Nat}{w w':F}{v:G}{l:List Ac}(h:KO rb w v l)(hg:M w w' C):KO rb w' v l:=⟨h.1.grownNone hg,h.2⟩
theorem KO.shape{rb:Nat}{w:F}{v:G}{l:List Ac}(h:KO rb w v l):∃a cap,v=A a l.length cap:=h.1.shape
theorem KO.list{rb:Nat}{w:F}{v:G}{l:List Ac}(h:KO rb w v l):YW w v l:=h.1.list
theorem KO.row{rb:Nat}{w:F}{v:G}{l:List Ac}(h:KO rb w v l):∀g,v.ownBlock=H g->∃cs t fz,w.heap[g]?=H (.cells cs t fz)∧¬VZ t∧t≠48∧∀q,cs[0]?≠H (I .u8 q):=fun g e=>by
 obtain⟨⟨us,hul,hr,hp⟩,h0⟩:=h;rcases hr.2with⟨rfl,_⟩|⟨g',cap,cur,rfl,hb,hg,hn,hmx,hcs,ht⟩;·cases e
 ·cases e;refine⟨cur,_,_,hg,by simp[VZ],by decide,fun q hq=>?_⟩;cases us with|nil=>have:=h0 (by rw[<-hul];rfl);cases this|cons x us=>(have hl:0<l.length:=by rw[<-hul];simp);(have e:(cur.toList.take (l.length*4))[0]?=(YS (x::us))[0]?:=by rw[ht]);rw[List.getElem?_take,if_pos (by omega),Array.getElem?_toList,hq]at e;simp[YS]at e
theorem KO.other{rb:Nat}{w:F}{v:G}{l:List Ac}(h:KO rb w v l){b:Nat}{cs:Array G}{t:V}{fz:Nat×Nat}(hb:w.heap[b]?=H (.cells cs t fz))(ht:t≠38):H b≠v.ownBlock:=fun e=>by
 rcases h.1.row with h|⟨g,cur,fz',h1,_,h2⟩;·rw[h]at e;cases e
 ·rw[h1]at e;cases e;rw[hb]at h2;simp only[Option.some.injEq,Obj.cells.injEq]at h2;exact ht h2.2.1
structure Og (rb : Nat) (w w' : F) (v v' : G) (l : List Ac) : Prop where
  own : KO rb w' v' l
  kl : KL w w'
  grown : M w w' v.ownBlock
  lies : ∀ g, v'.ownBlock = H g -> v.ownBlock = H g ∨ w.heap.size <= g
theorem BH{rb:Nat}{w W w1:F}{v:G}{l:List Ac}(h:M w W C)(ho:KO rb W v l)(hb:w.heap.size<=rb)(hg:M W w1 v.ownBlock):M w w1 C:=Tf h ho.1 hb hg
theorem Vw{w w':F}{g:Nat}(h:M w w' (H g))(cs:Array G):M w (w'.setRow g cs) (H g):=⟨h.os,h.tape,h.output,by
 rw[size_setRow];exact h.size,fun i hi hn=>by
 rw[setRow_other _ _ _ _ (fun e=>hn (by rw[e]))];exact h.block i hi hn⟩
def Je(up:Bool)(d:G)(ts:Int)(c f:G)(n:Int)(u:G):Array G:=#[T up,d,I J ts,c,f,I J n,A C 0 0,I J 0,I J 0,A C 0 0,A C 0 0,I J 0,I J 0,A C 0 0,A C 0 0,I J 0,I J 0,A C 0 0,A C 0 0,I J 0,I J 0,A C 0 0,A C 0 0,I J 0,I J 0,A C 0 0,A C 0 0,I J 0,I J 0,A C 0 0,A C 0 0,I J 0,I J 0,A C 0 0,A C 0 0,I J 0,I J 0,A C 0 0,A C 0 0,u]
theorem YV.fresh{R B:Nat}{w:F}{up:Bool}{t:V9}{cs:List XA}{o:List Rp}{d c f u:G}(hd:Zb 0 w (fun w=>Qe w d t.data))(hc:Ks B w c cs)(hf:JY B w f (Zq (Gb up t cs o)))(hu:Yl B w u o)(hr:∀g,u.ownBlock=H g->g<R):YV R B w (Gb up t cs o) (Je up d t.synced c f (cs.length:Int) u):=by
 refine⟨rfl,rfl,⟨d,rfl,hd⟩,rfl,⟨c,rfl,hc⟩,⟨f,rfl,hf⟩,rfl,⟨A C 0 0,rfl,vR _ _ _ _ _⟩,fun s hs=>?_,⟨u,rfl,hu,hr⟩⟩;refine⟨FF,A C 0 0,A C 0 0,?_,?_,?_,?_,fun w' _=>xG w',fun h=>by cases h⟩;all_goals(obtain rfl|rfl|rfl|rfl|rfl|rfl|rfl|rfl:s=0∨s=1∨s=2∨s=3∨s=4∨s=5∨s=6∨s=7:=by omega)
 all_goals rfl
theorem Io(v:Sv){j:Nat}(hj:j<=v.commits.length)(up:Bool)(t:V9)(o:List Rp):(Zq v).take (j+1)=Zq (Gb up t (v.commits.take j) o):=by
 unfold Zq QH Gb;simp only[List.length_take,N hj];rw[<-List.map_take,List.take_range,N (by omega)];apply List.map_congr_left;intro n hn;rw[List.mem_range]at hn;rw[List.take_take,N (by omega)]
theorem dF{base B:Nat}{w:F}{v:G}{l:List XA}(h:Y6 base w v l)(hB:B<=base):Ks B w v l:=by
 obtain⟨us,h1,h2,h3,h4⟩:=h;refine⟨us.map fun x=>([I J x.1.turn,x.2],x.1),?_,?_,h3,fun x hx=>?_⟩;·rw[<-h1];simp
 ·(have:(us.map fun x=>(([I J x.1.turn,x.2]:List G),x.1)).flatMap (·.1)=jZ us:=by simp[jZ,List.flatMap_map]);rw[this];refine⟨h2.1,?_⟩;rcases h2.2with h|⟨g,cap,cur,e,hb,rest⟩;(·exact .inl h);·exact .inr ⟨g,cap,cur,e,Nat.le_trans hB hb,rest⟩
 ·obtain⟨y,hy,rfl⟩:=List.mem_map.1 hx;have hw:=h4 y hy;obtain⟨a,cap,e,_⟩:=id hw;refine⟨rfl,fun u hu=>?_,fun q hq=>by simp at hq,(Ee hw).mono fun w' h=>⟨_,rfl,h⟩⟩;simp only[List.mem_cons,List.not_mem_nil,or_false]at hu;rcases hu with rfl|rfl;(·rfl);·rw[e];rfl
theorem SZ{D:List UInt8->List UInt8}{v:Sv}(h:Zk D v){k:Int}(hk:0<=k):xX (Xn v.tape k):=by
 have hm:=h.may;obtain⟨m1,m2,m3⟩:=(Kz _).1 hm;have hce:Up v.tape k=0:=by rw[Up,if_pos hm,if_neg (by omega)]
 have hcn:Xr v.tape k<=v.tape.data.length:=by rw[Xr];split<;>omega
 rw[Xn,if_pos hce];refine⟨?_,?_⟩;·simp only[List.length_take];omega
 ·simp only;omega
theorem xU{ops:Array tA}{o:tA}{a:Act}{w:F}{K:Act->F->Prop}{Q:Exit->Act->F->Prop}{E:Prop}(hgd:o.guard=C)(ty:V)(x y:X)(ho:o.op=.store ty x y)(g:Nat)(cells:Array G)(hx:a.eval x=.pointer (H ⟨g,0,C⟩))(hy:a.eval y=z cells)(t:V)(old:Array G)(hg:w.heap[g]?=H (.cells old t (0,0)))(hi:(L.info? ty).map (·.size)=H cells.size)(hold:old.size=cells.size)(h1:cells.all (·.oneCell')=true)(h:K (a.put o.dst undef) (w.setRow g cells)):if O o (yielded ops a.tmps)=true then Oper.wp L o a w K Q else E:=by
 have hw:O o (yielded ops a.tmps)=true:=by simp[O,hgd]
 rw[if_pos hw];exact wp_store_row ty x y ho g cells hx hy t old hg hi hold h1 h
theorem VY{ops:Array tA}{Q:Exit->Act->F->Prop}{md:Region.Mode}{S:F->Prop}{k n:Nat}{done:Array Bool}{a:Act}{w:F}{o:tA}(hr:Y md ops done=[k])(ho:ops[k]?=H o)(hgd:o.guard=C){ty:V}{x y:X}(hop:o.op=.store ty x y)(g:Nat)(cells:Array G)(hx:a.eval x=.pointer (H ⟨g,0,C⟩))(hy:a.eval y=z cells)(t:V)(old:Array G)(hg:w.heap[g]?=H (.cells old t (0,0)))(hi:(L.info? ty).map (·.size)=H cells.size)(hold:old.size=cells.size)(h1:cells.all (·.oneCell')=true)(hd:Y md ops (done.setIfInBounds k true)=[])(h:Q .normal (a.put o.dst undef) (w.setRow g cells)):ZC L md ops Q S k (n+1) done a w:=UJ hr ho fun _ hK=>xU hgd ty x y hop g cells hx hy t old hg hi hold h1 (hK _ _ (wpAny_done hd h _))
def iZ(s:Int)(w:F)(d:List UInt8)(e:Ending)(w':F):Prop:=∃xa xc,e=.returned (z #[I J 1,I J s,I J 0,A xa d.length xc])∧Qh 0 w' (A xa d.length xc) d∧M w w' C
theorem cS(w:F)(s:Int)(v:G)(r:Rq)(hT:UD w)(hv:Xc w v r)(hr:Ys r):Calls L 11 #[I J s,v] w (iZ s w (J9 r)):=by
 refine(Cf w s v r hT hv (yN hr)).mono ?_;rintro e w'⟨x,rfl,hx,hg⟩;rw[LS hr]at hx;obtain⟨xa,xc,rfl⟩:=hx.slice.shape;exact⟨xa,xc,rfl,hx,hg⟩
theorem aE(rb:Nat)(W:F)(hrb:rb<=W.heap.size)(l:List (Ac×G))(h0:l≠[])(hl:l.length<=1000)(hp:∀y∈l,Qh 0 W y.2 y.1.data)(cs:Array G)(hcs:cs.toList=YS l):KO rb (W.alloc (.cells cs 38)) (A (H ⟨W.heap.size,0,C⟩) l.length l.length) (l.map (fun y=>y.1)):=by
 obtain rfl:cs=⟨YS l⟩:=by rw[<-hcs]
 exact⟨OO (w:=W.alloc _) rb W.heap.size l (heap_alloc_new W _) hrb hl fun y hy=>(hp y hy).keptT (World.grownBy_alloc _ _ C) (.inl rfl),fun e=>absurd (List.map_eq_nil_iff.1 e) h0⟩
theorem RU.all{w:F}{a:Option Addr}{n cap:Nat}{l:List Rp}(h:RU w (A a n cap) l)(i:Nat)(hi:i<l.length):∃b o a4 c4 a5 c5 a6 c6 a8 c8 a9 c9 a10 c10 a12 c12 a13 c13 a14 c14,a=H ⟨b,o,C⟩∧w.cell? ⟨b,o+i*15,C⟩=H (I J (l.getD i VF).sess)∧w.cell? ⟨b,o+i*15+1,C⟩=H (I J (l.getD i VF).code)∧w.cell? ⟨b,o+i*15+2,C⟩=H (I J (l.getD i VF).turn)∧w.cell? ⟨b,o+i*15+3,C⟩=H (T (l.getD i VF).found)∧w.cell? ⟨b,o+i*15+4,C⟩=H (A a4 (l.getD i VF).value.length c4)∧w.cell? ⟨b,o+i*15+5,C⟩=H (A a5 (l.getD i VF).pairs.length c5)∧w.cell? ⟨b,o+i*15+6,C⟩=H (A a6 (kI (l.getD i VF)).length c6)∧w.cell? ⟨b,o+i*15+7,C⟩=H (T (Y9 (l.getD i VF)).empty)∧w.cell? ⟨b,o+i*15+8,C⟩=H (A a8 (Y9 (l.getD i VF)).steps.length c8)∧w.cell? ⟨b,o+i*15+9,C⟩=H (A a9 (Y9 (l.getD i VF)).pair.1.length c9)∧w.cell? ⟨b,o+i*15+10,C⟩=H (A a10 (Y9 (l.getD i VF)).pair.2.length c10)∧w.cell? ⟨b,o+i*15+11,C⟩=H (T (Y8 (l.getD i VF)).empty)∧w.cell? ⟨b,o+i*15+12,C⟩=H (A a12 (Y8 (l.getD i VF)).steps.length c12)∧w.cell? ⟨b,o+i*15+13,C⟩=H (A a13 (Y8 (l.getD i VF)).pair.1.length c13)∧w.cell? ⟨b,o+i*15+14,C⟩=H (A a14 (Y8 (l.getD i VF)).pair.2.length c14)∧Qe w (A a4 (l.getD i VF).value.length c4) (l.getD i VF).value∧Qq w (A a5 (l.getD i VF).pairs.length c5) (l.getD i VF).pairs∧Qe w (A a6 (kI (l.getD i VF)).length c6) (kI (l.getD i VF))∧KJ w (z #[T (Y9 (l.getD i VF)).empty,A a8 (Y9 (l.getD i VF)).steps.length c8,A a9 (Y9 (l.getD i VF)).pair.1.length c9,A a10 (Y9 (l.getD i VF)).pair.2.length c10]) (Y9 (l.getD i VF))∧KJ w (z #[T (Y8 (l.getD i VF)).empty,A a12 (Y8 (l.getD i VF)).steps.length c12,A a13 (Y8 (l.getD i VF)).pair.1.length c13,A a14 (Y8 (l.getD i VF)).pair.2.length c14]) (Y8 (l.getD i VF)):=by
 obtain⟨a',cap',e,_,h⟩:=h;simp only[Value.slice.injEq]at e;obtain⟨rfl,_,_⟩:=e;rcases h with rfl|⟨b,o,rfl,h⟩;·simp at hi
 ·obtain⟨cs,h1,h2,vv,vp,vr,oe,os,ok,ov,ie,is,ik,iv,e,h4,h5,h6,h7,h8⟩:=h i hi;simp only[Value.agg.injEq,Array.mk.injEq]at e;subst e;obtain⟨a4,c4,rfl⟩:=h4.shape;obtain⟨a5,c5,rfl⟩:=h5.shape;obtain⟨a6,c6,rfl⟩:=h6.shape;have h7':=h7;have h8':=h8;obtain⟨vs,vk,vw,e7,k1,k2,k3⟩:=h7;obtain⟨us,uk,uw,e8,m1,m2,m3⟩:=h8;simp only[Value.agg.injEq,Array.mk.injEq,List.cons.injEq,and_true]at e7 e8;obtain⟨rfl,rfl,rfl,rfl⟩:=e7;obtain⟨rfl,rfl,rfl,rfl⟩:=e8;obtain⟨a8,c8,rfl⟩:=k1.shape;obtain⟨a9,c9,rfl⟩:=k2.shape;obtain⟨a10,c10,rfl⟩:=k3.shape;obtain⟨a12,c12,rfl⟩:=m1.shape;obtain⟨a13,c13,rfl⟩:=m2.shape;obtain⟨a14,c14,rfl⟩:=m3.shape;exact⟨b,o,a4,c4,a5,c5,a6,c6,a8,c8,a9,c9,a10,c10,a12,c12,a13,c13,a14,c14,rfl,h2 0 (by decide),h2 1 (by decide),h2 2 (by decide),h2 3 (by decide),h2 4 (by decide),h2 5 (by decide),h2 6 (by decide),h2 7 (by decide),h2 8 (by decide),h2 9 (by decide),h2 10 (by decide),h2 11 (by decide),h2 12 (by decide),h2 13 (by decide),h2 14 (by decide),h4,h5,h6,h7',h8'⟩
theorem Dp{w:F}{b:Nat}{n:Nat}{x:Int}(hx:x=(n:Int))(hn:n<256)(hb:w.heap[b]?=H (.cells #[I .u8 x] 5)):Qh 0 w (A (H ⟨b,0,C⟩) 1 1) [UInt8.ofNat n]:=by
 subst hx;refine⟨⟨H ⟨b,0,C⟩,1,rfl,tB _,.inr ⟨b,0,rfl,fun i hi=>?_⟩⟩,.inr ⟨b,rfl,(Array.getElem?_eq_some_iff.1 hb).1,.inr ⟨_,_,hb⟩⟩⟩;obtain rfl:i=0:=by simpa using hi
 simp[World.cell?,hb,Nat.mod_eq_of_lt hn]
def SP.ask(s:Int)(d:List UInt8):SP:=⟨fun v w=>∃xa xc,v=z #[I J 1,I J s,I J 0,A xa d.length xc]∧Qh 0 w (A xa d.length xc) d,fun _ _ _ hg⟨xa,xc,e,h⟩=>⟨xa,xc,e,h.keptT hg (.inl rfl)⟩⟩
def SP.own(l:List Ac):SP:=⟨fun v w=>KO 0 w v l,fun _ _ _ hg h=>h.grown hg⟩
theorem GS{o:tA}{ev:X->G}{w:F}{v:G}{p:G->F->Prop}(h:(execOp ev o).run L w=.ok (.value v) w)(hp:p v w):Ux L o ev w (fun v w'=>M w w' C∧p v w'):=Ux.val h ⟨Qb _ _,hp⟩
theorem jQ{w:F}{o:tA}{a:Act}{K:Act->F->Prop}{Q:Exit->Act->F->Prop}(s x:X)(ho:o.op=.call {callee:=.builtin .append,args:=#[s,x],argTypes:=#[25,25]})(rb:Nat)(v:G)(l:List Ac)(hs:a.eval s=v)(hown:KO rb w v l)(r2:Nat)(u:G)(m:List Ac)(hx:a.eval x=u)(hsrc:Ud r2 w u m)(hl:l.length+m.length<=1000)(hbase:rb<=w.heap.size)(h:∀v' w',Og rb w w' v v' (l++m)->K (a.put o.dst v') w'):o.wp L a w K Q:=by
 by_cases h0:l++m=[];·obtain⟨rfl,rfl⟩:=List.append_eq_nil_iff.1 h0;have hv:=hown.2 rfl;obtain⟨xa,xc,rfl⟩:=hsrc.shape;obtain⟨i0,hi,hz0,hz1,hz2⟩:=info_parts MN;have hrun:=zN (P:=L) (w:=w) rb 25 o.type 38 i0 4 Tryz.underlying25 hi (A C 0 0) 0 [] (World.ownsRow_nil _ _ _ _) xa xc;rw[hv]at hs;unfold Oper.wp;simp[execOp,ho,resolve,invoke,builtin,hs,hx,hrun,Result.andThen];rw[hv]at hown h;exact h _ w ⟨hown,KL.refl _,⟨rfl,rfl,rfl,tB _,fun _ _ _=>rfl⟩,fun _ e=>.inl e⟩
 ·refine Ek s x ho rb v l hs hown.1 r2 u m hx hsrc (by omega) hbase fun v' w' h1 h2 h3=>h v' w' ⟨⟨h1,fun e=>absurd e h0⟩,KL.turn h2 hown.row,h2,h3⟩
end Go.Proofs.YtieoehicoocpjaaGreatDoor
