/-
  Texts of this proof, joined, with few blanks: AcN, AcL, SvFr, TAskQ, RgAsk.
-/
import Derived.Test.YtjnapechlkbfmaaGreatDoorQ46
import Derived.Laws.Tables
set_option maxRecDepth 100000
set_option maxHeartbeats 8000000
open Go renaming Value->C,World->G,Operand->T,TypeId->V,Oper->X
open Go.IntKind renaming i64->I
open Go.Proofs.Tryz renaming prog->J
open Go.Region renaming wanted->O,ready->Y
open Go.Value renaming slice->A,int->H,agg->z
open Go.World renaming grownBy->L
open Nat renaming min_eq_left->N
open Option renaming none->F,some->M
namespace Go.Proofs.YtjnapechlkbfmaaGreatDoor
open Go.RowKit
def UT(rb:Nat)(w:G)(v:C)(l:List Ac):Prop:=GC rb w v l∧(l=[]->v=A F 0 0)
theorem OH(rb:Nat)(w:G):UT rb w (A F 0 0) []:=⟨Oy _ _,fun _=>rfl⟩
theorem UT.grown{rb:Nat}{w w':G}{v:C}{l:List Ac}(h:UT rb w v l)(hg:L w w' F):UT rb w' v l:=⟨h.1.grownNone hg,h.2⟩
theorem UT.shape{rb:Nat}{w:G}{v:C}{l:List Ac}(h:UT rb w v l):∃a cap,v=A a l.length cap:=h.1.shape
theorem UT.list{rb:Nat}{w:G}{v:C}{l:List Ac}(h:UT rb w v l):Y6 w v l:=h.1.list
theorem UT.row{rb:Nat}{w:G}{v:C}{l:List Ac}(h:UT rb w v l):∀g,v.ownBlock=M g->∃cs t fz,w.heap[g]?=M (.cells cs t fz)∧¬VR t∧t≠48∧∀q,cs[0]?≠M (H .u8 q):=fun g e=>by
 obtain⟨⟨us,hul,hr,hp⟩,h0⟩:=h;rcases hr.2with⟨rfl,_⟩|⟨g',cap,cur,rfl,hb,hg,hn,hmx,hcs,ht⟩;·cases e
 ·cases e;refine⟨cur,_,_,hg,by simp[VR],by decide,fun q hq=>?_⟩;cases us with|nil=>have:=h0 (by rw[<-hul];rfl);cases this|cons x us=>(have hl:0<l.length:=by rw[<-hul];simp);(have e:(cur.toList.take (l.length*4))[0]?=(Jk (x::us))[0]?:=by rw[ht]);rw[List.getElem?_take,if_pos (by omega),Array.getElem?_toList,hq]at e;simp[Jk]at e
theorem UT.other{rb:Nat}{w:G}{v:C}{l:List Ac}(h:UT rb w v l){b:Nat}{cs:Array C}{t:V}{fz:Nat×Nat}(hb:w.heap[b]?=M (.cells cs t fz))(ht:t≠35):M b≠v.ownBlock:=fun e=>by
 rcases h.1.row with h|⟨g,cur,fz',h1,_,h2⟩;·rw[h]at e;cases e
 ·rw[h1]at e;cases e;rw[hb]at h2;simp only[Option.some.injEq,Obj.cells.injEq]at h2;exact ht h2.2.1
structure Oq (rb : Nat) (w w' : G) (v v' : C) (l : List Ac) : Prop where
  own : UT rb w' v' l
  kl : KL w w'
  grown : L w w' v.ownBlock
  lies : ∀ g, v'.ownBlock = M g -> v.ownBlock = M g ∨ w.heap.size <= g
theorem Ae{rb:Nat}{w W w1:G}{v:C}{l:List Ac}(h:L w W F)(ho:UT rb W v l)(hb:w.heap.size<=rb)(hg:L W w1 v.ownBlock):L w w1 F:=BJ h ho.1 hb hg
theorem e9(w:G):Qh 0 w (A F 0 0) []:=⟨QK w,.inl rfl⟩
theorem qR{w w':G}{g:Nat}(h:L w w' (M g))(cs:Array C):L w (w'.setRow g cs) (M g):=⟨h.os,h.tape,h.output,by
 rw[size_setRow];exact h.size,fun i hi hn=>by
 rw[setRow_other _ _ _ _ (fun e=>hn (by rw[e]))];exact h.block i hi hn⟩
def Je(up:Bool)(d:C)(ts:Int)(c f:C)(n:Int)(u:C):Array C:=#[.bool up,d,H I ts,c,f,H I n,A F 0 0,H I 0,H I 0,A F 0 0,A F 0 0,H I 0,H I 0,A F 0 0,A F 0 0,H I 0,H I 0,A F 0 0,A F 0 0,H I 0,H I 0,A F 0 0,A F 0 0,H I 0,H I 0,A F 0 0,A F 0 0,H I 0,H I 0,A F 0 0,A F 0 0,H I 0,H I 0,A F 0 0,A F 0 0,H I 0,H I 0,A F 0 0,A F 0 0,u]
theorem YW.fresh{R B:Nat}{w:G}{up:Bool}{t:V2}{cs:List XC}{o:List Rp}{d c f u:C}(hd:Zf 0 w (fun w=>Qe w d t.data))(hc:Kn B w c cs)(hf:JV B w f (Zs (V5 up t cs o)))(hu:Yx B w u o)(hr:∀g,u.ownBlock=M g->g<R):YW R B w (V5 up t cs o) (Je up d t.synced c f (cs.length:Int) u):=by
 refine⟨rfl,rfl,⟨d,rfl,hd⟩,rfl,⟨c,rfl,hc⟩,⟨f,rfl,hf⟩,rfl,⟨A F 0 0,rfl,vF _ _ _ _ _⟩,fun s hs=>?_,⟨u,rfl,hu,hr⟩⟩;refine⟨Fw,A F 0 0,A F 0 0,?_,?_,?_,?_,fun w' _=>xC w',fun h=>by cases h⟩;all_goals(obtain rfl|rfl|rfl|rfl|rfl|rfl|rfl|rfl:s=0∨s=1∨s=2∨s=3∨s=4∨s=5∨s=6∨s=7:=by omega)
 all_goals rfl
theorem IA(v:Sv){j:Nat}(hj:j<=v.commits.length)(up:Bool)(t:V2)(o:List Rp):(Zs v).take (j+1)=Zs (V5 up t (v.commits.take j) o):=by
 unfold Zs QE V5;simp only[List.length_take,N hj];rw[<-List.map_take,List.take_range,N (by omega)];apply List.map_congr_left;intro n hn;rw[List.mem_range]at hn;rw[List.take_take,N (by omega)]
theorem dS{base B:Nat}{w:G}{v:C}{l:List XC}(h:Y5 base w v l)(hB:B<=base):Kn B w v l:=by
 obtain⟨us,h1,h2,h3,h4⟩:=h;refine⟨us.map fun x=>([H I x.1.turn,x.2],x.1),?_,?_,h3,fun x hx=>?_⟩;·rw[<-h1];simp
 ·(have:(us.map fun x=>(([H I x.1.turn,x.2]:List C),x.1)).flatMap (·.1)=jT us:=by simp[jT,List.flatMap_map]);rw[this];refine⟨h2.1,?_⟩;rcases h2.2with h|⟨g,cap,cur,e,hb,rest⟩;(·exact .inl h);·exact .inr ⟨g,cap,cur,e,Nat.le_trans hB hb,rest⟩
 ·obtain⟨y,hy,rfl⟩:=List.mem_map.1 hx;have hw:=h4 y hy;obtain⟨a,cap,e,_⟩:=id hw;refine⟨rfl,fun u hu=>?_,fun q hq=>by simp at hq,(Ei hw).mono fun w' h=>⟨_,rfl,h⟩⟩;simp only[List.mem_cons,List.not_mem_nil,or_false]at hu;rcases hu with rfl|rfl;(·rfl);·rw[e];rfl
theorem La{D:List UInt8->List UInt8}{v:Sv}(h:Zd D v){k:Int}(hk:0<=k):xV (Xs v.tape k):=by
 have hm:=h.may;obtain⟨m1,m2,m3⟩:=(Kw _).1 hm;have hce:Uh v.tape k=0:=by rw[Uh,if_pos hm,if_neg (by omega)]
 have hcn:Xv v.tape k<=v.tape.data.length:=by rw[Xv];split<;>omega
 rw[Xs,if_pos hce];refine⟨?_,?_⟩;·simp only[List.length_take];omega
 ·simp only;omega
theorem xR{ops:Array X}{o:X}{a:Act}{w:G}{K:Act->G->Prop}{Q:Exit->Act->G->Prop}{E:Prop}(hgd:o.guard=F)(ty:V)(x y:T)(ho:o.op=.store ty x y)(g:Nat)(cells:Array C)(hx:a.eval x=.pointer (M ⟨g,0,F⟩))(hy:a.eval y=z cells)(t:V)(old:Array C)(hg:w.heap[g]?=M (.cells old t (0,0)))(hi:(J.info? ty).map (·.size)=M cells.size)(hold:old.size=cells.size)(h1:cells.all (·.oneCell')=true)(h:K (a.put o.dst undef) (w.setRow g cells)):if O o (yielded ops a.tmps)=true then Oper.wp J o a w K Q else E:=by
 have hw:O o (yielded ops a.tmps)=true:=by simp[O,hgd]
 rw[if_pos hw];exact wp_store_row ty x y ho g cells hx hy t old hg hi hold h1 h
theorem VQ{ops:Array X}{Q:Exit->Act->G->Prop}{md:Region.Mode}{S:G->Prop}{k n:Nat}{done:Array Bool}{a:Act}{w:G}{o:X}(hr:Y md ops done=[k])(ho:ops[k]?=M o)(hgd:o.guard=F){ty:V}{x y:T}(hop:o.op=.store ty x y)(g:Nat)(cells:Array C)(hx:a.eval x=.pointer (M ⟨g,0,F⟩))(hy:a.eval y=z cells)(t:V)(old:Array C)(hg:w.heap[g]?=M (.cells old t (0,0)))(hi:(J.info? ty).map (·.size)=M cells.size)(hold:old.size=cells.size)(h1:cells.all (·.oneCell')=true)(hd:Y md ops (done.setIfInBounds k true)=[])(h:Q .normal (a.put o.dst undef) (w.setRow g cells)):ZK J md ops Q S k (n+1) done a w:=UB hr ho fun _ hK=>xR hgd ty x y hop g cells hx hy t old hg hi hold h1 (hK _ _ (wpAny_done hd h _))
def l9(s:Int)(w:G)(d:List UInt8)(e:Ending)(w':G):Prop:=∃xa xc,e=.returned (z #[H I 1,H I s,H I 0,A xa d.length xc])∧Qh 0 w' (A xa d.length xc) d∧L w w' F
theorem dF(w:G)(s:Int)(v:C)(r:Rq)(hT:UX w)(hv:XJ w v r)(hr:XY r):Calls J 17 #[H I s,v] w (l9 s w (Jn r)):=by
 refine(aF w s v r hT hv (yK hr)).mono ?_;rintro e w'⟨x,rfl,hx,hg⟩;rw[fV hr]at hx;obtain⟨xa,xc,rfl⟩:=hx.slice.shape;exact⟨xa,xc,rfl,hx,hg⟩
theorem aT(w:G)(k:Int):XJ w (z #[H I k,A F 0 0,A F 0 0,A F 0 0,A F 0 0]) (vX k):=⟨_,_,_,_,rfl,QK w,QK w,QK w,QK w⟩
theorem aN(rb:Nat)(W:G)(hrb:rb<=W.heap.size)(l:List (Ac×C))(h0:l≠[])(hl:l.length<=1000)(hp:∀y∈l,Qh 0 W y.2 y.1.data)(cs:Array C)(hcs:cs.toList=Jk l):UT rb (W.alloc (.cells cs 35)) (A (M ⟨W.heap.size,0,F⟩) l.length l.length) (l.map (fun y=>y.1)):=by
 obtain rfl:cs=⟨Jk l⟩:=by rw[<-hcs]
 exact⟨O6 (w:=W.alloc _) rb W.heap.size l (heap_alloc_new W _) hrb hl fun y hy=>(hp y hy).keptT (World.grownBy_alloc _ _ F) (.inl rfl),fun e=>absurd (List.map_eq_nil_iff.1 e) h0⟩
def SP.rq(r:Rq):SP:=⟨fun v w=>XJ w v r,fun _ _ _ hg h=>h.grown hg⟩
def SP.ask(s:Int)(d:List UInt8):SP:=⟨fun v w=>∃xa xc,v=z #[H I 1,H I s,H I 0,A xa d.length xc]∧Qh 0 w (A xa d.length xc) d,fun _ _ _ hg⟨xa,xc,e,h⟩=>⟨xa,xc,e,h.keptT hg (.inl rfl)⟩⟩
def SP.own(l:List Ac):SP:=⟨fun v w=>UT 0 w v l,fun _ _ _ hg h=>h.grown hg⟩
theorem Zc{o:X}{ev:T->C}{w:G}{v:C}{p:C->G->Prop}(h:(execOp ev o).run J w=.ok (.value v) w)(hp:p v w):V6 J o ev w (fun v w'=>L w w' F∧p v w'):=V6.val h ⟨Qb _ _,hp⟩
theorem RH{o:X}{ev:T->C}{w:G}{s:Int}{v:C}{r:Rq}{d:List UInt8}(h:(execOp ev o).run J w=.ok (.enter 17 #[H I s,v]) w)(hP:UX w)(hv:XJ w v r)(hr:XY r)(hd:d=Jn r):V6 J o ev w (fun v w'=>L w w' F∧(SP.ask s d).p v w'):=by
 refine V6.call h ((dF w s v r hP hv hr).mono ?_);rintro e w'⟨xa,xc,rfl,hp,hg⟩;subst hd;exact⟨_,rfl,hg,xa,xc,rfl,hp⟩
theorem Em{w:G}{o:X}{a:Act}{K:Act->G->Prop}{Q:Exit->Act->G->Prop}(s x:T)(ho:o.op=.call {callee:=.builtin .append,args:=#[s,x],argTypes:=#[37,37]})(rb:Nat)(v:C)(l:List Ac)(hs:a.eval s=v)(hown:UT rb w v l)(r2:Nat)(u:C)(m:List Ac)(hx:a.eval x=u)(hsrc:GC r2 w u m)(hl:l.length+m.length<=1000)(hbase:rb<=w.heap.size)(h:∀v' w',Oq rb w w' v v' (l++m)->K (a.put o.dst v') w'):o.wp J a w K Q:=by
 by_cases h0:l++m=[];·obtain⟨rfl,rfl⟩:=List.append_eq_nil_iff.1 h0;have hv:=hown.2 rfl;obtain⟨xa,xc,rfl⟩:=hsrc.shape;obtain⟨i0,hi,hz0,hz1,hz2⟩:=info_parts SA;have hrun:=zL (P:=J) (w:=w) rb 37 o.type 35 i0 4 Tryz.underlying37 hi (A F 0 0) 0 [] (World.ownsRow_nil _ _ _ _) xa xc;rw[hv]at hs;unfold Oper.wp;simp[execOp,ho,resolve,invoke,builtin,hs,hx,hrun,Result.andThen];rw[hv]at hown h;exact h _ w ⟨hown,KL.refl _,⟨rfl,rfl,rfl,Nat.le_refl _,fun _ _ _=>rfl⟩,fun _ e=>.inl e⟩
 ·refine Et s x ho rb v l hs hown.1 r2 u m hx hsrc (by omega) hbase fun v' w' h1 h2 h3=>h v' w' ⟨⟨h1,fun e=>absurd e h0⟩,KL.turn h2 hown.row,h2,h3⟩
end Go.Proofs.YtjnapechlkbfmaaGreatDoor
