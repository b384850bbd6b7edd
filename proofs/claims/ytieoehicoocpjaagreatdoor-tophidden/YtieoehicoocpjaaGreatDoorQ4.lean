/-
  Texts of this proof, joined, with few blanks: AcApp, SvM, TenRow, TpApp, RootMem, PCPr, ProofBut, FCProve, FCRoot, Frame11, FrameG, FrameGr, LFV, TpRec.
-/
import Derived.Laws.AppendOwnNone
import Derived.Test.YtieoehicoocpjaaGreatDoorQ3
import Derived.Laws.CopyRow
import Derived.Lib.AppendZerosOnto
import Derived.Lib.SliceRun
import Derived.Lib.LaidTab
import Derived.Test.YtieoehicoocpjaaGreatDoorCards
import Derived.Test.YtieoehicoocpjaaGreatDoorTie
import Derived.Deep.SlicePairs
import Derived.Lib.SmallJoins
set_option maxRecDepth 100000
set_option maxHeartbeats 8000000
open Array renaming getElem?_eq_some_iff->Y
open Bool renaming true->tP
open Go renaming World->C,Value->F,TypeId->tA,undef->tH,info_parts->tN,maxLen->sC,Addr->sH,Calls->sP,Oper->sX,Operand->sY
open Go.Builtin renaming append_->tB,clear_->tK,zeroCells->tS,lenOf->tZ,firstCells->sG,copy_->sO
open Go.DataW renaming trod_int->O,trod->tI,trod_struct->sK
open Go.Ending renaming returned->tR
open Go.IntKind renaming i64->T
open Go.Lib renaming TabIs->tE,cells_of_tab->tJ,tabData->tY
open Go.Obj renaming cells->X
open Go.Proofs.Tryz renaming prog->A,underlying3->L,underlying242->sJ,underlying25->sL
open Go.Value renaming slice->J,int->N,agg->tC,cells->tM,tuple->tW,ownBlock->sB,bool->sW
open Go.World renaming grownBy->M,cell?->tL,setCell->tQ
open List renaming eq_nil_of_length_eq_zero->S,length_map->tD,getElem?_take->tU,flatMap_cons->tV,not_mem_nil->tX,range->sA,mem_cons->sD,length_append->sI,mem_flatMap->sM,cons_append->sN,append_nil->sQ,nil_append->sR
open Nat renaming lt_of_lt_of_le->tG,zero_add->sF,le_trans->sS,add_zero->sU,le_refl->sV
open Option renaming some->E,none->I
open Option.some renaming inj->V,injEq->sE
namespace Go.Proofs.YtieoehicoocpjaaGreatDoor
open Go.RowKit
theorem Ej{w:C}{o:sX}{a:Act}{K:Act->C->Prop}{Q:Exit->Act->C->Prop}(s x:sY)(ho:o.op=.call {callee:=.builtin .append,args:=#[s,x],argTypes:=#[25,25]})(rb:Nat)(v:F)(l:List Ac)(hs:a.eval s=v)(hown:Ud rb w v l)(ad:sH)(cap:Nat)(us:List AV)(hx:a.eval x=J (E ad) us.length cap)(hc:∀j u,(YS us)[j]?=E u->w.cell? (ad.add j)=E u)(hpt:∀y∈us,Qh 0 w y.2 y.1.data)(h0:0<us.length)(hl:(l.length+us.length)*48<=140737488355328)(hbase:rb<=w.heap.size)(h:∀v' w',Ud rb w' v' (l++us.map (·.1))->M w w' v.ownBlock->(∀g,v'.ownBlock=E g->v.ownBlock=E g∨w.heap.size<=g)->K (a.put o.dst v') w'):o.wp A a w K Q:=by
 obtain⟨i0,hi,hz0,hz1,hz2⟩:=tN MN;have hrow:v.ownBlock=I∨∃g cur t fz,v.ownBlock=E g∧0<=g∧w.heap[g]?=E (X cur t fz)∧t≠5:=by rcases hown.row with h|⟨g,cur,fz,e,_,h⟩;(·exact .inl h);·exact .inr ⟨g,cur,_,fz,e,Nat.zero_le _,h,aD⟩
 obtain⟨vs,hul,hr,hp⟩:=hown;refine wp_append_lies w s x 25 ho rb 38 i0 (tC #[N T 0,N T 0,N T 0,J I 0 0]) 4 48 sL hi hz0 hz1 hz2 rfl (by decide) v l.length (YS vs) hs hr ad us.length cap (YS us) hx (yQ us) hc ?_ h0 (by unfold sC;omega) hl hbase _ rfl ?_;·intro u hu;obtain⟨p,hp1,hp2⟩:=sM.1 hu;have:=hpt p hp1;simp only[sD,tX,or_false]at hp2;rcases hp2 with rfl|rfl|rfl|rfl;(·rfl);(·rfl);(·rfl);·exact Zx this
 ·intro g cap w' q1 q2 q3 _;refine h _ w' ⟨vs++us,by simp[hul],?_,?_⟩ q2 (fun g' e=>by cases e;exact q3.imp id (fun e=>by show w.heap.size<=g;omega));(·rw[vK,sI,tD];exact q1);·intro y hy;rcases List.mem_append.1 hy with hy|hy;(·exact(hp y hy).keptT q2 hrow);·exact(hpt y hy).keptT q2 hrow
theorem zN{P:Program}{w:C}(base:Nat)(t ty e:tA)(i:TypeInfo)(size:Nat)(ht:P.underlying t=E (.slice e))(hi:P.info? e=E i)(v:F)(n:Nat)(xs:List F)(hown:w.ownsRow base e size v n xs)(ad:Option sH)(c:Nat):(tB #[t,t] ty #[v,J ad 0 c]).run P w=.ok v w:=by
 rcases hown.2with⟨rfl,rfl⟩|⟨g,cap,cur,rfl,_,_,hnc,_⟩;·cases ad<;>simp[tB,run_underlying ht,sizeOf,typeInfo,hi,tZ,sG,loadCells,loadCellsFrom]
 ·cases ad<;>simp[tB,run_underlying ht,sizeOf,typeInfo,hi,tZ,sG,loadCells,loadCellsFrom,hnc,storeCells]
theorem Ek{w:C}{o:sX}{a:Act}{K:Act->C->Prop}{Q:Exit->Act->C->Prop}(s x:sY)(ho:o.op=.call {callee:=.builtin .append,args:=#[s,x],argTypes:=#[25,25]})(rb:Nat)(v:F)(l:List Ac)(hs:a.eval s=v)(hown:Ud rb w v l)(r2:Nat)(u:F)(m:List Ac)(hx:a.eval x=u)(hsrc:Ud r2 w u m)(hl:(l.length+m.length)*48<=140737488355328)(hbase:rb<=w.heap.size)(h:∀v' w',Ud rb w' v' (l++m)->M w w' v.ownBlock->(∀g,v'.ownBlock=E g->v.ownBlock=E g∨w.heap.size<=g)->K (a.put o.dst v') w'):o.wp A a w K Q:=by
 by_cases h0:m.length=0;·obtain⟨xa,xc,rfl⟩:=hsrc.shape;obtain⟨i0,hi,hz0,hz1,hz2⟩:=tN MN;obtain⟨vs,hul,hr,hp⟩:=hown;have hrun:=zN (P:=A) rb 25 o.type 38 i0 4 sL hi v l.length (YS vs) hr xa xc;rw[h0]at hx;unfold Oper.wp;simp[execOp,ho,resolve,invoke,builtin,hs,hx,hrun,Result.andThen];refine h v w ?_ ⟨rfl,rfl,rfl,sV _,fun _ _ _=>rfl⟩ (fun _ e=>.inl e);rw[S h0,sQ];exact⟨vs,hul,hr,hp⟩
 ·obtain⟨us,hul,hr,hp⟩:=hsrc;(have hlen:us.length=m.length:=by rw[<-hul];simp);rcases hr.2with⟨_,e⟩|⟨g,cap,cur,rfl,hb,hg,hn,hm,hcs,ht⟩;(·exact absurd e h0);·(have hcell:∀j y,(YS us)[j]?=E y->w.cell? ((⟨g,0,I⟩:sH).add j)=E y:=by intro j y hj;(have hlt:j<m.length*4:=by have:=(List.getElem?_eq_some_iff.1 hj).1;rw[hr.1]at this;exact this);(have e2:(cur.toList.take (m.length*4))[j]?=(YS us)[j]?:=by rw[ht]);rw[tU,if_pos hlt,hj]at e2;rw[Z4,sF];simp[tL,hg];simpa using e2);refine Ej s x ho rb v l hs hown ⟨g,0,I⟩ cap us (by rw[hx,hlen]) hcell hp (by omega) (by rw[hlen];exact hl) hbase ?_;rw[hul];exact h
theorem OO{w:C}(rb:Nat)(nb:Nat)(us:List AV)(hb:w.heap[nb]?=E (X ⟨YS us⟩ 38))(hr:rb<=nb)(hl:us.length<=1000)(hpt:∀y∈us,Qh 0 w y.2 y.1.data):Ud rb w (J (E ⟨nb,0,I⟩) us.length us.length) (us.map (·.1)):=by
 refine⟨us,rfl,⟨by rw[tD,yQ],.inr ⟨nb,us.length,⟨YS us⟩,by rw[tD],hr,hb,by rw[tD];omega,by unfold sC;omega,by simp[yQ],?_⟩⟩,hpt⟩;rw[tD,List.take_of_length_le (by simp[yQ])]
def kI(r:Rp):List UInt8:=match r.pf with|E (f,_,_)=>qG f|none=>[]
def Y9(r:Rp):D4:=match r.pf with|E (f,n,k)=>Kg f n k|none=>Va
def Y8(r:Rp):D4:=match r.pf with|E (f,n,k)=>Kj f n k|none=>Va
def zR(w:C)(v:F)(r:Rp):Prop:=∃vv vp vr oe os ok ov ie is ik iv,v=tC #[N T r.sess,N T r.code,N T r.turn,sW r.found,vv,vp,vr,oe,os,ok,ov,ie,is,ik,iv]∧Qe w vv r.value∧Qq w vp r.pairs∧Qe w vr (kI r)∧KJ w (tC #[oe,os,ok,ov]) (Y9 r)∧KJ w (tC #[ie,is,ik,iv]) (Y8 r)
theorem zR.grown{w w':C}{v:F}{r:Rp}(h:zR w v r)(hg:M w w' I):zR w' v r:=by
 obtain⟨vv,vp,vr,oe,os,ok,ov,ie,is,ik,iv,rfl,h1,h2,h3,h4,h5⟩:=h;exact⟨vv,vp,vr,oe,os,ok,ov,ie,is,ik,iv,rfl,h1.grown hg,h2.grown hg,h3.grown hg,h4.grown hg,h5.grown hg⟩
def lZ(w:C)(cs:List F)(r:Rp):Prop:=zR w (tC ⟨cs⟩) r
def mA(w:C)(cs:List F)(c:XA):Prop:=∃vw,cs=[N T c.turn,vw]∧Xk 0 w vw c.writes
def l8(w:C)(cs:List F)(f:FL):Prop:=∃v,cs=[v]∧Zz 0 w v f
def l6(_:C)(cs:List F)(n:Nat):Prop:=cs=[N T (n:Int)]
abbrev Yl:=JB 48 15 lZ
abbrev Ks:=JB 188 2 mA
abbrev JY:=JB 31 1 l8
abbrev U8:=JB 3 1 l6
def Zq(v:Sv):List FL:=(sA (v.commits.length+1)).map (QH v)
theorem UR(v:Sv):(Zq v).length=v.commits.length+1:=by
 simp[Zq]
theorem Au(v:Sv){n:Nat}(h:n<=v.commits.length):(Zq v).getD n []=QH v n:=by
 simp[Zq,List.getD,List.getElem?_map,List.getElem?_range (show n<v.commits.length+1by omega)]
def Jj(v:Sv)(s:Nat):Int:=if v.waits s=tP then 2 else if v.begun s=tP then 1 else 0
def lP(_B:Nat)(w:C)(v:Sv)(s:Nat)(cs:Array F):Prop:=∃t vr vw,cs[7+s*4]?=E (N T (Jj v s))∧cs[7+s*4+1]?=E (N T t.start)∧cs[7+s*4+2]?=E vr∧cs[7+s*4+3]?=E vw∧Zb 0 w (fun w=>GO w (tC #[N T t.start,vr,vw]) t)∧(v.begun s=tP->t=v.txns s)
structure YV (R B : Nat) (w : C) (v : Sv) (cs : Array F) : Prop where
  size : cs.size = 40
  up : cs[0]? = E (sW v.up)
  tape : ∃ vd, cs[1]? = E vd ∧ Zb 0 w (fun w => Qe w vd v.tape.data)
  mark : cs[2]? = E (N T v.tape.synced)
  commits : ∃ u, cs[3]? = E u ∧ Ks B w u v.commits
  forests : ∃ u, cs[4]? = E u ∧ JY B w u (Zq v)
  synced : cs[5]? = E (N T (v.synced : Int))
  queue : ∃ u, cs[6]? = E u ∧ U8 B w u v.queue
  sess : ∀ s, s < 8 -> lP B w v s cs
  replies : ∃ u, cs[39]? = E u ∧ Yl B w u v.out ∧ ∀ g, u.ownBlock = E g -> g < R
def ZN(R B:Nat)(w:C)(b:Nat)(v:Sv):Prop:=∃cs,B<=b∧w.heap[b]?=E (X cs 90 (0,0))∧YV R B w v cs
theorem PC:Po 90:=.inl rfl
theorem uN:Po 48:=.inr (.inl rfl)
theorem iY:Po 188:=.inr (.inr (.inl rfl))
theorem lM:Po 31:=.inr (.inr (.inr (.inl rfl)))
theorem iX:Po 3:=.inr (.inr (.inr (.inr rfl)))
theorem lP.later{B:Nat}{w w':C}{v:Sv}{s:Nat}{cs:Array F}(h:lP B w v s cs)(k:Kp B w w'):lP B w' v s cs:=by
 obtain⟨t,vr,vw,h1,h2,h3,h4,h5,h6⟩:=h;exact⟨t,vr,vw,h1,h2,h3,h4,h5.later k,h6⟩
theorem YV.grown{R B:Nat}{w w':C}{v:Sv}{cs:Array F}(h:YV R B w v cs)(hg:M w w' I):YV R B w' v cs:=by
 obtain⟨h0,h1,⟨x2,h2,k2⟩,h3,⟨x4,h4,k4⟩,⟨x5,h5,k5⟩,h6,⟨x7,h7,k7⟩,h8,⟨x9,h9,k9,r9⟩⟩:=h;exact⟨h0,h1,⟨x2,h2,k2.grown hg⟩,h3,⟨x4,h4,k4.grown hg⟩,⟨x5,h5,k5.grown hg⟩,h6,⟨x7,h7,k7.grown hg⟩,fun s hs=>(h8 s hs).later (Kp.grown hg),⟨x9,h9,k9.grown hg,r9⟩⟩
theorem YV.turned{R B:Nat}{w w':C}{v:Sv}{cs:Array F}(h:YV R B w v cs){g:Nat}{ds:Array F}{t:tA}{fz:Nat×Nat}(hk:Kp B w w')(hg:M w w' (E g))(hb:w.heap[g]?=E (X ds t fz))(h1':t≠48)(h2':t≠188)(h3':t≠31)(h4':t≠3):YV R B w' v cs:=by
 obtain⟨h0,h1,⟨x2,h2,k2⟩,h3,⟨x4,h4,k4⟩,⟨x5,h5,k5⟩,h6,⟨x7,h7,k7⟩,h8,⟨x9,h9,k9,r9⟩⟩:=h;exact⟨h0,h1,⟨x2,h2,k2.later hk⟩,h3,⟨x4,h4,k4.other (by decide) hk hg (.inr ⟨g,ds,t,fz,rfl,hb,h2'⟩)⟩,⟨x5,h5,k5.other (by decide) hk hg (.inr ⟨g,ds,t,fz,rfl,hb,h3'⟩)⟩,h6,⟨x7,h7,k7.other (by decide) hk hg (.inr ⟨g,ds,t,fz,rfl,hb,h4'⟩)⟩,fun s hs=>(h8 s hs).later hk,⟨x9,h9,k9.other (by decide) hk hg (.inr ⟨g,ds,t,fz,rfl,hb,h1'⟩),r9⟩⟩
theorem YV.box{R B:Nat}{w w':C}{v:Sv}{cs:Array F}(h:YV R B w v cs){nb:Nat}{ds:Array F}{fz:Nat×Nat}(hk:Kp B w w')(hg:M w w' (E nb))(hn:R<=nb)(hb:w.heap[nb]?=E (X ds 48 fz)):YV R B w' v cs:=by
 obtain⟨h0,h1,⟨x2,h2,k2⟩,h3,⟨x4,h4,k4⟩,⟨x5,h5,k5⟩,h6,⟨x7,h7,k7⟩,h8,⟨x9,h9,k9,r9⟩⟩:=h;refine⟨h0,h1,⟨x2,h2,k2.later hk⟩,h3,⟨x4,h4,k4.other (by decide) hk hg (.inr ⟨nb,ds,_,fz,rfl,hb,by decide⟩)⟩,⟨x5,h5,k5.other (by decide) hk hg (.inr ⟨nb,ds,_,fz,rfl,hb,by decide⟩)⟩,h6,⟨x7,h7,k7.other (by decide) hk hg (.inr ⟨nb,ds,_,fz,rfl,hb,by decide⟩)⟩,fun s hs=>(h8 s hs).later hk,⟨x9,h9,k9.kept hk (fun g e=>hg.block g (k9.lt g e).2 (fun q=>?_)),r9⟩⟩;have:=r9 g e;cases q;omega
theorem YV.more{R R' B:Nat}{w:C}{v:Sv}{cs:Array F}(h:YV R B w v cs)(hR:R<=R'):YV R' B w v cs:=by
 obtain⟨h0,h1,h2,h3,h4,h5,h6,h7,h8,⟨x9,h9,k9,r9⟩⟩:=h;exact⟨h0,h1,h2,h3,h4,h5,h6,h7,h8,⟨x9,h9,k9,fun g e=>tG (r9 g e) hR⟩⟩
theorem GP{R B:Nat}{w:C}{v:Sv}{cs:Array F}(h:YV R B w v cs):∀q,cs[0]?≠E (N .u8 q):=fun q e=>by
 rw[h.up]at e;cases e
theorem Yp{R B:Nat}{w w':C}{v:Sv}{b:Nat}{cs:Array F}(h:YV R B w v cs)(hB:B<=b)(hb:w.heap[b]?=E (X cs 90 (0,0)))(hg:M w w' (E b)):Kp B w w'∧YV R B w' v cs:=have k:=Kp.turn hg hB hb PC (GP h);⟨k,h.turned k hg hb (by
 decide) (by
 decide) (by
 decide) (by
 decide)⟩
theorem Qm{w:C}{b i:Nat}{cs:Array F}{t:tA}{u:F}{fz:Nat×Nat}(hb:w.heap[b]?=E (X cs t fz))(h:cs[i]?=E u):w.cell? ⟨b,i,I⟩=E u:=by
 simp[tL,hb,h]
theorem Qg{w:C}{b:Nat}{cs:Array F}{t:tA}(hb:w.heap[b]?=E (X cs t (0,0)))(i:Nat):w.frozen? ⟨b,i,I⟩=false:=by
 simp[World.frozen?,hb]
abbrev VP:=F×F
def YY(w:C)(g:Nat)(all:List VP):Prop:=w.heap[g]?=E (X (flat all).toArray 64 (0,0))
def JI(w:C)(g:Nat)(all:List VP):C:=w.setRow g (flat all).toArray
theorem YY.set{w:C}{g:Nat}{all:List VP}(h:YY w g all)(all':List VP):YY (JI w g all') g all':=setRow_heap w g _ _ _ _ h
theorem Wf{w:C}{g:Nat}{all:List VP}(h:YY w g all):JI w g all=w:=setRow_self w g _ _ _ h
theorem YY.lt{w:C}{g:Nat}{all:List VP}(h:YY w g all):g<w.heap.size:=(Y.1 h).1
theorem YY.drew{w:C}{g:Nat}{all:List VP}(h:YY w g all):YY w.drew g all:=h
theorem KU(w:C)(g:Nat)(all:List VP):M w (JI w g all) (E g):=⟨rfl,rfl,rfl,by
 simp[JI,World.setRow],fun k _ hne=>setRow_other w g k _ (fun e=>hne (by
 rw[e]))⟩
theorem Ye{w w1 w2:C}{r:Option Nat}(h1:M w w1 r)(h2:M w1 w2 r):M w w2 r:=⟨h2.os.trans h1.os,h2.tape.trans h1.tape,h2.output.trans h1.output,sS h1.size h2.size,fun k hk hn=>(h2.block k (tG hk h1.size) hn).trans (h1.block k hk hn)⟩
theorem XQ{w w1:C}{r:Option Nat}(h1:M w w1 I):M w w1 r:=⟨h1.os,h1.tape,h1.output,h1.size,fun k hk _=>h1.block k hk (by
 simp)⟩
theorem yM:∀(n:Nat)(cs:List F),cs.length=n*2->∃vs:List VP,vs.length=n∧flat vs=cs|0,cs,h=>⟨[],rfl,by rw[S (by omega:cs.length=0)];rfl⟩|n+1,[],h=>by simp at h|n+1,[_],h=>by simp at h;omega|n+1,a::b::r,h=>by obtain⟨vs,h1,h2⟩:=yM n r (by simp at h;omega);exact⟨(a,b)::vs,by simp[h1],by simp only[flat,tV,sN,sR]at h2⊢;rw[h2]⟩
theorem Ct:∀(a b:List VP),flat a=flat b->a=b|[],[],_=>rfl|[],x::r,h=>by simp[flat]at h|x::r,[],h=>by simp[flat]at h|x::r,y::s,h=>by simp only[flat,tV,sN,sR,List.cons.injEq]at h;obtain⟨h1,h2,h3⟩:=h;rw[Ct r s h3,Prod.ext h1 h2]
def Ev(l:List VP):Prop:=∀x∈l,x.1.oneCell'=tP∧x.2.oneCell'=tP
theorem Ev.flat{l:List VP}(h:Ev l):∀u∈flat l,u.oneCell'=tP:=by
 intro u hu;simp only[Go.Proofs.YtieoehicoocpjaaGreatDoor.flat,sM,sD,tX,or_false]at hu;obtain⟨x,hx,rfl|rfl⟩:=hu;·exact(h x hx).1
 ·exact(h x hx).2
def iG(base:Nat)(w:C)(x:VP)(t:Tn):Prop:=Qh base w x.1 t.1∧QN base w x.2 t.2
def iJ:VP:=(tH,tH)
def YP(base:Nat)(w:C)(vs:List VP)(l:FL):Prop:=vs.length=l.length∧∀i,i<l.length->iG base w (vs.getD i iJ) (l.getD i ([],[]))
theorem YP.take{base:Nat}{w:C}{vs:List VP}{l:FL}(h:YP base w vs l)(n:Nat):YP base w (vs.take n) (l.take n):=by
 refine⟨by simp[h.1],fun i hi=>?_⟩;have hi':i<n∧i<l.length:=by simp at hi;omega
 have:=h.2 i hi'.2;rwa[show(vs.take n).getD i iJ=vs.getD i iJ by simp[hi'.1],show(l.take n).getD i ([],[])=l.getD i ([],[])by simp[hi'.1]]
theorem YP.drop{base:Nat}{w:C}{vs:List VP}{l:FL}(h:YP base w vs l)(n:Nat):YP base w (vs.drop n) (l.drop n):=by
 refine⟨by simp[h.1],fun i hi=>?_⟩;have hi':n+i<l.length:=by simp at hi;omega
 have:=h.2 (n+i) hi';rwa[show(vs.drop n).getD i iJ=vs.getD (n+i) iJ by simp,show(l.drop n).getD i ([],[])=l.getD (n+i) ([],[])by simp]
theorem YP.append{base:Nat}{w:C}{vs us:List VP}{l m:FL}(h:YP base w vs l)(h2:YP base w us m):YP base w (vs++us) (l++m):=by
 refine⟨by simp[h.1,h2.1],fun i hi=>?_⟩;rw[Jh,Jh,h.1];by_cases hil:i<l.length;·rw[if_pos hil,if_pos hil];exact h.2 i hil
 ·rw[if_neg hil,if_neg hil];exact h2.2 _ (by simp at hi;omega)
theorem YP.one{base:Nat}{w:C}{x:VP}{t:Tn}(h:iG base w x t):YP base w [x] [t]:=⟨rfl,fun i hi=>by
 obtain rfl:i=0:=by simpa using hi
 exact h⟩
theorem YP.kept{base:Nat}{w w':C}{vs:List VP}{l:FL}(h:YP base w vs l){row:Option Nat}(hg:M w w' row)(hrow:row=I∨∃g cur t fz,row=E g∧base<=g∧w.heap[g]?=E (X cur t fz)∧t≠5∧t≠44):YP base w' vs l:=⟨h.1,fun i hi=>⟨((h.2 i hi).1).keptT hg (iB hrow),((h.2 i hi).2).kept hg hrow⟩⟩
theorem YP.oneV{base:Nat}{w:C}{vs:List VP}{l:FL}(h:YP base w vs l):Ev vs:=by
 intro x hx;obtain⟨i,hi,rfl⟩:=List.mem_iff_getElem.1 hx;have:=h.2 i (by rw[<-h.1];exact hi);rw[show vs.getD i iJ=vs[i]by simp[hi]]at this;exact⟨Zx this.1,yB this.2⟩
theorem YY.rowOf{base:Nat}{w:C}{g:Nat}{all:List VP}(h:YY w g all)(hb:base<=g):(E g:Option Nat)=I∨∃g' cur t fz,(E g:Option Nat)=E g'∧base<=g'∧w.heap[g']?=E (X cur t fz)∧t≠5∧t≠44:=.inr ⟨g,_,_,_,rfl,hb,h,fT,fP⟩
theorem YY.cells{w:C}{g:Nat}{all:List VP}(h:YY w g all)(p:Nat):∀j u,(flat (all.drop p))[j]?=E u->w.cell? ((⟨g,p*2,I⟩:sH).add j)=E u:=by
 intro j u hj;rw[EJ,List.getElem?_drop]at hj;rw[Z4];have:=h;unfold YY at this;simp[tL,this];exact hj
theorem YY.cellsT{w:C}{g:Nat}{all:List VP}(h:YY w g all)(p n:Nat):∀j u,(flat ((all.drop p).take n))[j]?=E u->w.cell? ((⟨g,p*2,I⟩:sH).add j)=E u:=by
 intro j u hj;refine h.cells p j u ?_;rw[jC,tU]at hj;split at hj;·exact hj
 ·cases hj
theorem vU{base:Nat}{w:C}{g:Nat}{all:List VP}{l:FL}(h:YY w g all)(hb:base<=g)(hl:l.length<=all.length)(hm:all.length<=sC)(he:YP 0 w (all.take l.length) l):Zz base w (J (E ⟨g,0,I⟩) l.length all.length) l:=by
 refine⟨all.take l.length,he.1,⟨by rw[Kv,he.1],.inr ⟨g,all.length,_,rfl,hb,h,hl,hm,by simp[Kv],?_⟩⟩,fun i hi=>he.2 i hi⟩;rw[jC]
theorem Zz.elim{base:Nat}{w:C}{v:F}{l:FL}(h:Zz base w v l):(v=J I 0 0∧l=[])∨∃g all,v=J (E ⟨g,0,I⟩) l.length (List.length all)∧YY w g all∧base<=g∧l.length<=all.length∧all.length<=sC∧YP 0 w (all.take l.length) l:=by
 obtain⟨vs,hl,hr,h3⟩:=h;rcases hr.2with⟨rfl,h0⟩|⟨g,cap,cur,rfl,hb,hg,hn,hm,hs,ht⟩;·exact .inl ⟨rfl,S h0⟩
 ·obtain⟨all,ha,hf⟩:=yM cap cur.toList (by simpa using hs);(have hcur:cur=(flat all).toArray:=by rw[hf]);subst hcur;have e:all.take l.length=vs:=Ct _ _ (by rw[jC];simpa using ht);exact .inr ⟨g,all,by rw[ha],hg,hb,by omega,by omega,by rw[e];exact⟨hl,fun i hi=>h3 i hi⟩⟩
theorem G0:A.underlying 31=E (.slice 64):=Tryz.underlying31
theorem Ti(all news:List VP)(o:Nat):(((flat all).toArray.toList.take (o*2)++flat news++(flat all).toArray.toList.drop (o*2+(flat news).length)).toArray)=(flat (all.take o++news++all.drop (o+news.length))).toArray:=by
 rw[JU,JU,jC,EJ,Kv,show(o+news.length)*2=o*2+news.length*2by omega]
theorem VC(w:C)(g:Nat)(all news:List VP)(hb:YY w g all)(ty:tA)(o dLen dCap:Nat)(a:sH)(sLen sCap:Nat)(hn:news.length=Nat.min sLen dLen)(hsrc:∀j v,(flat news)[j]?=E v->w.cell? (a.add j)=E v)(hfit:o+news.length<=all.length)(h1:Ev news):(sO #[31,31] ty #[J (E ⟨g,o*2,I⟩) dLen dCap,J (E a) sLen sCap]).run A w=.ok (goInt news.length) (JI w g (all.take o++news++all.drop (o+news.length))):=by
 obtain⟨i0,hi,hz0,hz1,hz2⟩:=tN F2;have hf:=run_firstCells_some (P:=A) w 2 news.length a sLen sCap (flat news) (Kv _) hsrc;have hst:=run_storeCells_at A g (o*2) _ (flat news) 0 _ w hb (by simp[Kv];omega) h1.flat;simp only[sU]at hst;rw[Ti]at hst;have hmin:sLen.min dLen=news.length:=hn.symm;simp[sO,run_underlying G0,tZ,sizeOf,typeInfo,hi,hz1,hmin,hf,hst,JI]
theorem Fa(w:C)(g:Nat)(all news:List VP)(hb:YY w g all)(ty:tA)(n:Nat)(a:sH)(m c:Nat)(hn:news.length=m)(hsrc:∀j v,(flat news)[j]?=E v->w.cell? (a.add j)=E v)(hfit:n+m<=all.length)(h1:Ev news):(tB #[31,31] ty #[J (E ⟨g,0,I⟩) n all.length,J (E a) m c]).run A w=.ok (J (E ⟨g,0,I⟩) (n+m) all.length) (JI w g (all.take n++news++all.drop (n+m))):=by
 obtain⟨i0,hi,hz0,hz1,hz2⟩:=tN F2;have:=run_append_room (P:=A) w 31 ty 64 i0 G0 hi g n all.length _ hb a m c (flat news) (by rw[Kv,hz1,hn]) hsrc h1.flat hfit (by rw[hz1];simp[Kv];omega);rw[this,hz1,Ti,hn];rfl
def EY:VP:=(J I 0 0,J I 0 0)
theorem dJ(w:C):(zeroValue 64).run A w=.ok (tC #[J I 0 0,J I 0 0]) w:=by
 kernel_rfl
theorem Sz(w:C)(g:Nat)(all:List VP)(hb:YY w g all)(ty:tA)(o c:Nat)(hfit:o<all.length):(tK #[31] ty #[J (E ⟨g,o*2,I⟩) 1 c]).run A w=.ok (tW #[]) (JI w g (all.take o++[EY]++all.drop (o+1))):=by
 have hst:=run_storeCells_at A g (o*2) _ (flat [EY]) 0 _ w hb (by simp[Kv];omega) (by intro u hu;simp[flat,EY]at hu;rw[hu];rfl);simp only[sU]at hst;rw[Ti]at hst;have hz:(tS (tC #[J I 0 0,J I 0 0]).cells 1).toList=flat [EY]:=by kernel_rfl
 simp only[tK,List.getElem?_toArray,List.getElem?_cons_zero,Sem.run_bind,run_underlying G0,Result.andThen_ok,dJ,hz,hst,Sem.run_pure];rfl
theorem Bs(w:C)(ty:tA)(a:Option sH)(c:Nat):(tK #[31] ty #[J a 0 c]).run A w=.ok (tW #[]) w:=by
 cases a<;>simp[tK,run_underlying G0]
theorem Bp(w:C)(g:Nat)(all:List VP)(hb:YY w g all)(ty:tA)(n k:Nat)(hk:0<k)(hn:n<=all.length)(hg:all.length<n+k)(hl:n+k<=1000):∃rest:List VP,k<=rest.length∧n+rest.length<=sC∧(tB #[31,3] ty #[J (E ⟨g,0,I⟩) n all.length,N T k]).run A w=.ok (J (E ⟨w.heap.size,0,I⟩) (n+k) (n+rest.length)) (w.drew.alloc (X (flat (all.take n++rest)).toArray 64)):=by
 obtain⟨i0,hi,hz0,hz1,hz2⟩:=tN F2;have hold:=run_firstCells_some (P:=A) w.drew 2 n ⟨g,0,I⟩ n all.length (flat (all.take n)) (by rw[Kv];simp;omega) (by have:=hb.drew.cellsT 0 n;simpa using this);rw[<-hz1]at hold;have hr:=Lib.run_append_grow_zeros (P:=A) w 31 3 ty 64 i0 _ T T G0 (by kernel_rfl) hi hz0 (E ⟨g,0,I⟩) n all.length (flat (all.take n)) hold k hk (by omega) hg (by omega) (by rw[hz2];omega) (by rw[hz2];exact growslice_fits hg (by omega));have hge:=grownCap_ge w (n+k) all.length 64;have hle:=grownCap_le_maxLen w (n+k) all.length 64 (by unfold sC;omega);generalize grownCap w (n+k) all.length 64=G at*;obtain⟨rest,r1,r2⟩:=yM (G-n) (tS (tC #[J I 0 0,J I 0 0]).cells k++tS (tC #[J I 0 0,J I 0 0]).cells (G-(n+k))).toList (by(have e:(tC #[J I 0 0,J I 0 0]).cells.size=2:=by decide);simp only[Array.length_toList,Array.size_append,size_zeroCells,e];omega);refine⟨rest,by omega,by omega,?_⟩;rw[hr];congr 1;·rw[r1];congr 1;omega
 ·congr 2;rw[JU,r2];simp[Array.append_assoc]
def IQ:Prop:=∀(w:C)(v u:F)(t:V9)(c:XA),KV w v t->J0 w u c->xX t->Nt c->Yx w->sP A 117 #[v,u] w fun e w'=>∃x,e=tR (tW #[x,N T (Vu Qo t c)])∧Yn w' x (zQ Qo t c)∧M w w' I
def bY(w:C)(b:Nat):Prop:=∃cur t fz,w.heap[b]?=E (X cur t fz)∧(t=5∨∃q,cur[0]?=E (N .u8 q))
def CJ(w:C)(b:Nat):Prop:=∃cur t fz,w.heap[b]?=E (X cur t fz)∧t≠5∧∀q,cur[0]?≠E (N .u8 q)
theorem bY.ne{w:C}{a b:Nat}(h:bY w a)(h':CJ w b):a≠b:=by
 rintro rfl;obtain⟨cur,t,fz,h1,h2⟩:=h;obtain⟨cur',t',fz',h3,h4,h5⟩:=h';rw[h1]at h3;simp only[sE,Obj.cells.injEq]at h3;obtain⟨rfl,rfl,_⟩:=h3;rcases h2 with h2|⟨q,h2⟩;·exact h4 h2
 ·exact h5 q h2
theorem CJ.grown{w w':C}{b:Nat}(h:CJ w b)(hg:M w w' I):CJ w' b:=by
 obtain⟨cur,t,fz,h1,h2⟩:=h;exact⟨cur,t,fz,by rw[hg.block b (Y.1 h1).1 (by simp)];exact h1,h2⟩
def Uv(w:C)(v:F)(bs:List UInt8):Prop:=Qe w v bs∧(bs=[]∨∃b,v.ownBlock=E b∧b<w.heap.size∧bY w b)
theorem Q8.partSR{base':Nat}{w:C}{v:F}{bs:List UInt8}(h:Q8 base' w v bs):Uv w v bs:=by
 refine⟨h.slice,?_⟩;rcases h.2with⟨rfl,h0⟩|⟨g,cap,cur,rfl,hb,hg,_⟩;·exact .inl (S h0)
 ·exact .inr ⟨g,rfl,(Y.1 hg).1,cur,_,_,hg,.inl rfl⟩
theorem ZH.partSR{w:C}{nb:Nat}{bs:List UInt8}(h:ZH w nb bs)(hl:bs.length=32):Uv w (J (E ⟨nb,0,I⟩) 32 32) bs:=by
 refine⟨h.slice32 hl,.inr ⟨nb,rfl,VA (h.cell 0 (by omega)),?_⟩⟩;have hc:=h.cell 0 (by omega);obtain⟨t,hb⟩:=h;refine⟨_,t,_,hb,.inr ⟨((bs.getD 0 0).toNat:Int),?_⟩⟩;·simpa[tL,hb]using hc
theorem RW{w:C}{v:F}{bs:List UInt8}(h:Uv w v bs):v.oneCell'=tP:=by
 obtain⟨⟨a,cap,rfl,_⟩,_⟩:=h;rfl
def CG(w:C)(row:Option Nat):Prop:=row=I∨∃g,row=E g∧CJ w g
theorem Uv.kept{w w':C}{v:F}{bs:List UInt8}(h:Uv w v bs){row:Option Nat}(hg:M w w' row)(hrow:CG w row):Uv w' v bs:=by
 obtain⟨hs,ho⟩:=h;rcases ho with rfl|⟨b,hb,hlt,hc⟩;·obtain⟨a,cap,rfl,hc,h⟩:=hs;refine⟨⟨a,cap,rfl,hc,?_⟩,.inl rfl⟩;rcases h with h|⟨b,o,rfl,h⟩;(·exact .inl h);·exact .inr ⟨b,o,rfl,fun i hi=>by simp at hi⟩
 ·(have hne:E b≠row:=by intro e;rcases hrow with rfl|⟨g,rfl,hg'⟩;(·cases e);·cases e;exact hc.ne hg' rfl);have hblk:=hg.block b hlt hne;refine⟨?_,.inr ⟨b,hb,tG hlt hg.size,?_⟩⟩;(·obtain⟨a,cap,rfl,hcp,h⟩:=hs;refine⟨a,cap,rfl,hcp,?_⟩;rcases h with h|⟨b',o,rfl,h⟩;(·exact .inl h);·refine .inr ⟨b',o,rfl,fun i hi=>?_⟩;simp[sB]at hb;subst hb;exact hg.cell (h i hi) (by simpa using hne));·obtain⟨cur,t,fz,hc,hc2⟩:=hc;exact⟨cur,t,fz,by rw[hblk];exact hc,hc2⟩
theorem Uv.grown{w w':C}{v:F}{bs:List UInt8}(h:Uv w v bs)(hg:M w w' I):Uv w' v bs:=h.kept hg (.inl rfl)
theorem iE:(44:Nat)≠5:=by
 decide
def Vm(base:Nat)(w:C)(v:F)(l:PL):Prop:=∃vs:List (F×F),vs.length=l.length∧w.ownsRow base 44 2 v l.length (flat vs)∧CG w v.ownBlock∧(∀k,v.ownBlock=E k->∃cur fz,w.heap[k]?=E (X cur 44 fz))∧∀i,i<l.length->Qh base w (vs.getD i (tH,tH)).1 (l.getD i ([],[])).1∧Uv w (vs.getD i (tH,tH)).2 (l.getD i ([],[])).2
theorem WN(base:Nat)(w:C):Vm base w (J I 0 0) []:=⟨[],rfl,World.ownsRow_nil _ _ _ _,.inl rfl,fun k hk=>by
 simp[sB]at hk,fun i hi=>by
 simp at hi⟩
theorem Vm.lt{base:Nat}{w:C}{v:F}{l:PL}(h:Vm base w v l):∀k,v.ownBlock=E k->base<=k∧k<w.heap.size:=by
 obtain⟨vs,_,h,_⟩:=h;exact World.ownsRow.lt h
theorem Vm.shape{base:Nat}{w:C}{v:F}{l:PL}(h:Vm base w v l):∃a cap,v=J a l.length cap:=by
 obtain⟨vs,_,h,_⟩:=h;rcases h.2with⟨rfl,h0⟩|⟨g,cap,cur,rfl,_⟩;·exact⟨I,0,by rw[h0]⟩
 ·exact⟨_,cap,rfl⟩
theorem CG.grownN{w w':C}{r:Option Nat}(h:CG w r)(hg:M w w' I):CG w' r:=by
 rcases h with h|⟨g,h,h2⟩;·exact .inl h
 ·exact .inr ⟨g,h,h2.grown hg⟩
theorem Vm.grownNone{base:Nat}{w w':C}{v:F}{l:PL}(h:Vm base w v l)(hg:M w w' I):Vm base w' v l:=by
 obtain⟨vs,h1,h2,h3,h4,h5⟩:=h;refine⟨vs,h1,World.ownsRow.kept h2 hg ?_,h3.grownN hg,fun k hk=>?_,fun i hi=>⟨(h5 i hi).1.kept hg (.inl rfl),(h5 i hi).2.grown hg⟩⟩;·cases hv:v.ownBlock with|none=>exact .inl rfl|some k=>exact .inr (by simp)
 ·obtain⟨cur,fz,hb⟩:=h4 k hk;exact⟨cur,fz,by rw[hg.block k (Y.1 hb).1 (by simp)];exact hb⟩
theorem Vm.list{base:Nat}{w:C}{v:F}{l:PL}(h:Vm base w v l):Qq w v l:=by
 obtain⟨vs,hl,hr,_,_,h3⟩:=h;have hr':=hr;rcases hr.2with⟨rfl,h0⟩|⟨g,cap,cur,rfl,hb,hg,hn,hm,hs,ht⟩;·have:l=[]:=S h0;subst this;exact Yd w
 ·refine⟨_,cap,rfl,hn,.inr ⟨g,0,rfl,fun i hi=>?_⟩⟩;have hf:=xO vs i (by omega);refine⟨(vs.getD i (tH,tH)).1,(vs.getD i (tH,tH)).2,?_,?_,(h3 i hi).1.1,(h3 i hi).2.1⟩;(·have:=Gz.cells hr' _ _ hf.1;rw[sF];exact this);·have:=Gz.cells hr' _ _ hf.2;rw[sF];exact this
theorem DD{base:Nat}{w W w1:C}{v:F}{l:PL}(h:M w W I)(ho:Vm base W v l)(hb:w.heap.size<=base)(hg:M W w1 v.ownBlock):M w w1 I:=⟨hg.os.trans h.os,hg.tape.trans h.tape,hg.output.trans h.output,sS h.size hg.size,fun i hi hn=>(hg.block i (tG hi h.size) (fun e=>by
 have:=(ho.lt i e.symm).1;omega)).trans (h.block i hi hn)⟩
theorem kT{w:C}{ops:Array sX}{rest:List sX}{o:sX}{a:Act}{Q:Exit->Act->C->Prop}(hgd:o.guard=I)(s x:sY)(ho:o.op=.call {callee:=.builtin .append,args:=#[s,x],argTypes:=#[41,41]})(base:Nat)(v:F)(l:PL)(hs:a.eval s=v)(hown:Vm base w v l)(vk vv:F)(p:Pr)(hk:Qh base w vk p.1)(hv:Uv w vv p.2)(nb:Nat)(hb:w.heap[nb]?=E (X #[vk,vv] 44))(hx:a.eval x=J (E ⟨nb,0,I⟩) 1 1)(hl:(l.length+1)*48<=140737488355328)(hbase:base<=w.heap.size)(h:∀v' w',Vm base w' v' (l++[p])->M w w' v.ownBlock->wpList A ops Q rest (a.put o.dst v') w'):wpList A ops Q (o::rest) a w:=by
 obtain⟨i0,hi,hz0,hz1,hz2⟩:=tN Cm;obtain⟨vs,hvl,hr,hrow,hty,hp⟩:=hown;have hrow5:v.ownBlock=I∨∃g cur fz,v.ownBlock=E g∧base<=g∧w.heap[g]?=E (X cur 44 fz):=by cases hv':v.ownBlock with|none=>exact .inl rfl|some k=>obtain⟨cur,fz,hb'⟩:=hty k hv';exact .inr ⟨k,cur,fz,rfl,(World.ownsRow.lt hr k hv').1,hb'⟩
 refine wpList_plain hgd fun K hK=>?_;refine wp_append_lies w s x 41 ho base 44 i0 (tC #[J I 0 0,J I 0 0]) 2 48 Tryz.underlying41 hi hz0 hz1 hz2 rfl (by decide) v l.length (flat vs) hs hr ⟨nb,0,I⟩ 1 1 (flat [(vk,vv)]) hx rfl (World.news_of_block (cs:=#[vk,vv]) hb) ?_ (by omega) (by unfold sC;omega) hl hbase _ rfl ?_;·intro u hu;simp only[flat,tV,List.flatMap_nil,sQ,sD,tX,or_false]at hu;rcases hu with rfl|rfl;(·exact Zx hk);·exact RW hv
 ·intro g cap w' h1 h2 _ _;(have hparts:∀i,i<(l++[p]).length->Qh base w' ((vs++[(vk,vv)]).getD i (tH,tH)).1 ((l++[p]).getD i ([],[])).1∧Uv w' ((vs++[(vk,vv)]).getD i (tH,tH)).2 ((l++[p]).getD i ([],[])).2:=by intro i hi;rw[Jh,Jh,hvl];by_cases hil:i<l.length;(·rw[if_pos hil,if_pos hil];exact⟨(hp i hil).1.kept h2 hrow5,(hp i hil).2.kept h2 hrow⟩);·rw[if_neg hil,if_neg hil];(obtain rfl:i=l.length:=by simp at hi;omega);rw[Nat.sub_self];exact⟨hk.kept h2 hrow5,hv.kept h2 hrow⟩);(have hblk:∃cur,w'.heap[g]?=E (X cur 44 (0,0))∧cur.toList.take ((l.length+1)*2)=flat vs++flat [(vk,vv)]:=by rcases h1.2with⟨e,_⟩|⟨g',cap',cur,e,_,hg',_,_,_,ht⟩;(·cases e);·simp only[Value.slice.injEq,sE,Addr.mk.injEq]at e;obtain⟨⟨rfl,_⟩,_,_⟩:=e;exact⟨cur,hg',ht⟩);obtain⟨cur,hcur,htk⟩:=hblk;(have hfirst:∀q,cur[0]?≠E (N .u8 q):=by intro q hq;have e0:=(xO (vs++[(vk,vv)]) 0 (by simp)).1;rw[JU,<-htk,tU,if_pos (by omega)]at e0;have hp0:=(hparts 0 (by simp)).1;obtain⟨a0,c0,e1⟩:=hp0.1.shape;rw[e1]at e0;(have:cur.toList[0]?=cur[0]?:=by simp);rw[Nat.zero_mul,this,hq]at e0;cases e0);refine hK _ _ (h _ w' ⟨vs++[(vk,vv)],by simp[hvl],?_,.inr ⟨g,rfl,cur,_,_,hcur,iE,hfirst⟩,fun k hk'=>?_,hparts⟩ h2);(·rw[JU,sI];exact h1);·simp[sB]at hk';subst hk';exact⟨cur,_,hcur⟩
def aO:Prop:=∀(w:C)(v u:F)(l:PL)(k:List UInt8),Qq w v l->Qe w u k->uF l->Yx w->sP A 119 #[v,u] w fun e w'=>∃x,e=tR (tW #[x,N T (Z9 l k)])∧Zy w.heap.size w' x (yG l k)∧M w w' I
theorem KJ.agg{w:C}{v:F}{p:D4}(h:KJ w v p):∃sa sc ka kc va vc,v=tC #[sW p.empty,J sa p.steps.length sc,J ka p.pair.1.length kc,J va p.pair.2.length vc]:=by
 obtain⟨vs,vk,vv,rfl,h0,h1,h2⟩:=h;obtain⟨sa,sc,rfl⟩:=h0.shape;obtain⟨ka,kc,rfl⟩:=h1.shape;obtain⟨va,vc,rfl⟩:=h2.shape;exact⟨sa,sc,ka,kc,va,vc,rfl⟩
theorem zG{w:C}{c b:Nat}(h:b≠c)(x y z u:F):((((tQ w ⟨c,0,I⟩ x).setCell ⟨c,1,I⟩ y).setCell ⟨c,2,I⟩ z).setCell ⟨c,3,I⟩ u).heap[b]?=w.heap[b]?:=by
 have one:∀(w:C)(i:Nat)(u:F),(tQ w ⟨c,i,I⟩ u).heap[b]?=w.heap[b]?:=fun w i u=>by simp only[tQ,Array.getElem?_modify];rw[if_neg (by simpa using h.symm)]
 rw[one,one,one,one]
theorem GK{w:C}{c:Nat}{x y z u:F}{t:tA}(h:w.heap[c]?=E (X #[x,y,z,u] t)):tQ w ⟨c,0,I⟩ x=w∧tQ w ⟨c,1,I⟩ y=w∧tQ w ⟨c,2,I⟩ z=w∧tQ w ⟨c,3,I⟩ u=w:=by
 refine⟨?_,?_,?_,?_⟩;all_goals rw[setCell_eq_setRow w c _ _ _ _ _ h];exact setRow_self w c _ _ _ h
def IC:Prop:=∀(w:C)(v r u:F)(l:FL)(n k:List UInt8),Zf w v l->Qe w r n->Qe w u k->Uz l->n.length<=140737488355328->k.length<=140737488355328->Yx w->sP A 100 #[v,r,u] w fun e w'=>∃x y,e=tR (tW #[x,y,N T (J8 l n k)])∧Zy 0 w' x (Kg l n k)∧Zy 0 w' y (Kj l n k)∧M w w' I
def Om:Prop:=∀(w:C)(v:F)(l:FL),Zf w v l->Uz l->Yx w->sP A 99 #[v] w fun e w'=>∃x,e=tR (tW #[x,N T (Q6 l)])∧XS w' x (qG l)∧M w w' I
section
open Go.ChangeShapes Go.WideShapes Go.ChangeAt Go.RowKit
def Cv:List Int:=[1,32898,9223372036854808714,9223372039002292224,32907,2147483649,9223372039002292353,9223372036854808585,138,136,2147516425,2147483658,2147516555,9223372036854775947,9223372036854808713,9223372036854808579,9223372036854808578,9223372036854775936,32778,9223372039002259466,9223372039002292353,9223372036854808704,2147483649,9223372039002292232]
def Cx:List Int:=[10,7,11,17,18,3,5,16,8,21,24,4,15,23,19,13,12,2,20,14,22,9,6,1]
def Rg:List Int:=[1,3,6,10,15,21,28,36,45,55,2,14,27,41,56,8,25,43,62,18,39,61,20,44]
def Rh:List Int:=[0,0,3,7,11,3,0,0,3]
def lQ:List (String×DataW Unit):=[("canopy/digest.roundNumbers",tY .u64 Cv),("canopy/digest.laneWalk",tY T Cx),("canopy/digest.laneTurns",tY T Rg),("canopy/wire.parts",tY .u8 Rh)]
theorem g0:A.globalNamed "canopy/digest.roundNumbers"=E 2:=by
 kernel_rfl
theorem g1:A.globalNamed "canopy/digest.laneWalk"=E 3:=by
 kernel_rfl
theorem g2:A.globalNamed "canopy/digest.laneTurns"=E 4:=by
 kernel_rfl
theorem l5:(A.globals[2]?).map (·.type)=E 193:=by
 kernel_rfl
theorem mC:(A.globals[3]?).map (·.type)=E 242:=by
 kernel_rfl
theorem mB:(A.globals[4]?).map (·.type)=E 242:=by
 kernel_rfl
theorem cM:A.cellsOf 193=24:=by
 kernel_rfl
theorem Li:A.cellsOf 242=24:=by
 kernel_rfl
theorem dP:A.cellsOf 165=1:=by
 kernel_rfl
theorem aK:A.cellsOf 3=1:=by
 kernel_rfl
theorem eY(i:Nat)(h:i<24):Cv.getD i 0=U (Jz.getD i 0):=(by
 decide+kernel:∀i:Fin 24,Cv.getD i.1 0=U (Jz.getD i.1 0)) ⟨i,h⟩
theorem dK(i:Nat)(h:i<24):Cx.getD i 0=((Jx.getD i 0:Nat):Int):=(by
 decide+kernel:∀i:Fin 24,Cx.getD i.1 0=((Jx.getD i.1 0:Nat):Int)) ⟨i,h⟩
theorem Oz(i:Nat)(h:i<24):Rg.getD i 0=((J6.getD i 0:Nat):Int):=(by
 decide+kernel:∀i:Fin 24,Rg.getD i.1 0=((J6.getD i.1 0:Nat):Int)) ⟨i,h⟩
theorem g3:A.globalNamed "canopy/wire.parts"=E 0:=by
 kernel_rfl
theorem l9:(A.globals[0]?).map (·.type)=E 114:=by
 kernel_rfl
theorem dS:A.cellsOf 114=9:=by
 kernel_rfl
theorem dO:A.cellsOf 5=1:=by
 kernel_rfl
theorem aI(i:Nat)(h:i<9):Rh.getD i 0=((Nd i:Nat):Int):=(by
 decide+kernel:∀i:Fin 9,Rh.getD i.1 0=((Nd i.1:Nat):Int)) ⟨i,h⟩
theorem LJ{W:C}(h:laidMet A lQ W):UD W∧Yx W:=by
 obtain⟨ps,⟨a1,b1,cs1,f1,p1,q1,hg1,ht1,hv1,hd1,⟨a2,b2,cs2,f2,p2,q2,hg2,ht2,hv2,hd2,⟨a3,b3,cs3,f3,p3,q3,hg3,ht3,hv3,hd3,⟨a4,b4,cs4,f4,p4,q4,hg4,ht4,hv4,hd4,_,_⟩,_⟩,_⟩,_⟩,_⟩:=h;obtain rfl:=V (g0.symm.trans hg1);obtain rfl:=V (g1.symm.trans hg2);obtain rfl:=V (g2.symm.trans hg3);obtain rfl:=V (g3.symm.trans hg4);obtain rfl:=V (l5.symm.trans ht1);obtain rfl:=V (mC.symm.trans ht2);obtain rfl:=V (mB.symm.trans ht3);obtain rfl:=V (l9.symm.trans ht4);have t0:tE A W "canopy/digest.roundNumbers" .u64 Cv:=by unfold tE;rw[hv1,<-tJ Tryz.underlying193 Tryz.underlying165 dP cM hd1]
 have t1:tE A W "canopy/digest.laneWalk" T Cx:=by unfold tE;rw[hv2,<-tJ sJ L aK Li hd2]
 have t2:tE A W "canopy/digest.laneTurns" T Rg:=by unfold tE;rw[hv3,<-tJ sJ L aK Li hd3]
 have t3:tE A W "canopy/wire.parts" .u8 Rh:=by unfold tE;rw[hv4,<-tJ Tryz.underlying114 Tryz.underlying5 dO dS hd4]
 refine⟨fun i hi=>by rw[t3.cell g3 i hi,aI i hi],fun i hi=>?_,fun i hi=>?_,fun i hi=>?_⟩;·rw[t0.cell g0 i hi,eY i hi]
 ·rw[t1.cell g1 i hi,dK i hi]
 ·rw[t2.cell g2 i hi,Oz i hi]
def M6(cs:Array F):Obj->Obj|X _ t frozen=>X cs t frozen|o=>o
def Ph(W:C):C:={W with heap:=(((W.heap.modify 2 (M6 (Cv.map fun z=>N .u64 z).toArray)).modify 3 (M6 (Cx.map fun z=>N T z).toArray)).modify 4 (M6 (Rg.map fun z=>N T z).toArray)).modify 0 (M6 (Rh.map fun z=>N .u8 z).toArray)}
end
section
open Go.ChangeShapes Go.WideShapes Go.ChangeAt Go.RowKit Go.Deep Go.Joins
instance:Inhabited Gr:=⟨kS⟩
theorem eZ:A.cellsOf 3=1:=by
 kernel_rfl
theorem SQ{H:Type}{enc:tA×F->H}{W:C}{hd:Bool}{fuel:Nat}{a:Option sH}{n cap:Nat}{x:DataW H×List MemPlace}{t e:tA}{f0 f1 f2 f3 f4:Field}(ht:A.underlying t=E (.slice e))(he:A.underlying e=E (.struct #[f0,f1,f2,f3,f4]))(ce:A.cellsOf e=5)(o0:f0.offset=0)(o1:f1.offset=1)(o2:f2.offset=2)(o3:f3.offset=3)(o4:f4.offset=4)(t0:f0.type=3)(t1:f1.type=3)(t2:f2.type=3)(t3:f3.type=3)(t4:f4.type=3)(h:tI enc A W 0 (fun _=>tP) hd fuel t [J a n cap]=E x):∃l:List Gr,Ut W (J a n cap) l∧Bb l:=by
 rcases open_slice ht h with⟨hcs,_⟩|⟨y,len,c,m,k,D,Pl,hcs,hb,hl,hm,hmm,hx,hcell⟩;·simp at hcs;obtain⟨rfl,rfl,rfl⟩:=hcs;exact⟨[],⟨I,0,rfl,sV _,.inl rfl⟩,fun g hg=>by cases hg⟩
 ·simp at hcs;obtain⟨rfl,rfl,rfl⟩:=hcs;(have hmc:m=cap:=by simpa using hmm);subst hmc;(have each:∀i,i<m->∃q:Gr,(W.cell? (y.add (i*5))=E (N T q.kind)∧W.cell? (y.add (i*5+1))=E (N T q.sess)∧W.cell? (y.add (i*5+2))=E (N T q.name)∧W.cell? (y.add (i*5+3))=E (N T q.key)∧W.cell? (y.add (i*5+4))=E (N T q.value))∧zZ q:=by intro i hi;obtain⟨cs',g1,g2⟩:=hcell i hi;rw[ce]at g1;obtain⟨_,hlen,hcc⟩:=World.cells?_some g1;obtain⟨xs,k',hk,hxy,_,hxl,hf⟩:=sK he g2;match xs,hxl,cs',hlen with|[y0,y1,y2,y3,y4],_,[v0,v1,v2,v3,v4],_=>have s0:=hf 0 f0 rfl;have s1:=hf 1 f1 rfl;have s2:=hf 2 f2 rfl;have s3:=hf 3 f3 rfl;have s4:=hf 4 f4 rfl;rw[t0]at s0;rw[t1]at s1;rw[t2]at s2;rw[t3]at s3;rw[t4]at s4;simp[o0,o1,o2,o3,o4,eZ]at s0 s1 s2 s3 s4;have e0:=hcc 0 (by omega);have e1:=hcc 1 (by omega);have e2:=hcc 2 (by omega);have e3:=hcc 3 (by omega);have e4:=hcc 4 (by omega);rw[add_add]at e0 e1 e2 e3 e4;obtain⟨z0,hz0,hy0,w0⟩:=O L s0;obtain⟨z1,hz1,hy1,w1⟩:=O L s1;obtain⟨z2,hz2,hy2,w2⟩:=O L s2;obtain⟨z3,hz3,hy3,w3⟩:=O L s3;obtain⟨z4,hz4,hy4,w4⟩:=O L s4;simp at hz0 hz1 hz2 hz3 hz4;subst hz0 hz1 hz2 hz3 hz4;exact⟨⟨z0,z1,z2,z3,z4⟩,⟨by simpa using e0,by simpa using e1,by simpa using e2,by simpa using e3,by simpa using e4⟩,⟨YZ w0,YZ w1,YZ w2,YZ w3,YZ w4⟩⟩);obtain⟨q,hq⟩:=choose_lt each;(have hlen:((sA n).map fun i=>q i).length=n:=by simp);(have hget:∀i,i<n->((sA n).map fun i=>q i).getD i kS=q i:=by intro i hi;simp[hi]);refine⟨(sA n).map fun i=>q i,⟨_,m,by rw[hlen],by omega,?_⟩,?_⟩;(·by_cases h0:n=0;(·left;subst h0;rfl);·right;obtain⟨b,o,sp⟩:=y;have h00:=(hq 0 (by omega)).1.1;(obtain rfl:sp=I:=by cases sp with|none=>rfl|some z=>simp[Addr.add,tL]at h00;split at h00<;>simp at h00);refine⟨b,o,rfl,fun i hi=>?_⟩;rw[hlen]at hi;obtain⟨⟨g0,g1,g2,g3,g4⟩,_⟩:=hq i (by omega);rw[Z4]at g0 g1 g2 g3 g4;rw[hget i hi];exact⟨g0,g1,g2,g3,g4⟩);·intro g hg;obtain⟨i,hi,rfl⟩:=List.mem_map.1 hg;exact(hq i (by have:=List.mem_range.1 hi;omega)).2
end
section
open Go.ChangeShapes Go.WideShapes Go.ChangeAt Go.RowKit Go.Deep Go.Joins
theorem dH{α:Type}{cs:Array α}(h:cs.size=5):∃c0 c1 c2 c3 c4,cs=#[c0,c1,c2,c3,c4]:=by
 obtain⟨l⟩:=cs;match l,h with|[c0,c1,c2,c3,c4],_=>exact⟨c0,c1,c2,c3,c4,rfl⟩
theorem Iq{H:Type}{enc:tA×F->H}{W:C}{hd:Bool}{r:Reach}{b0:Nat}{v:F}{d:DataW H}{p:List MemPlace}{t:tA}{f0 f1 f2 f3 f4:Field}(hs:A.underlying t=E (.struct #[f0,f1,f2,f3,f4]))(hone:oneCellFields A #[f0,f1,f2,f3,f4]=tP)(hC:A.cellsOf t=5)(t0:f0.type=3)(t1:f1.type=3)(t2:f2.type=3)(t3:f3.type=3)(t4:f4.type=3)(hv:Value.okWide A W r b0 t v)(h:DataW.Trod enc A W 0 (fun _=>tP) hd t v d p):∃q:Gr,v=tC #[N T q.kind,N T q.sess,N T q.name,N T q.key,N T q.value]∧zZ q:=by
 obtain⟨cs,rfl,hsz⟩:=okWide_struct hs hv;obtain⟨v0,v1,v2,v3,v4,rfl⟩:=dH (hsz.trans hC);obtain⟨fuel,hf⟩:=h;obtain⟨xs,n,_,hx,hl,hlen,hff⟩:=sK hs hf;obtain⟨o0,k0⟩:=hone_of hone 0 f0 rfl;obtain⟨o1,k1⟩:=hone_of hone 1 f1 rfl;obtain⟨o2,k2⟩:=hone_of hone 2 f2 rfl;obtain⟨o3,k3⟩:=hone_of hone 3 f3 rfl;obtain⟨o4,k4⟩:=hone_of hone 4 f4 rfl;match xs,hlen with|[y0,y1,y2,y3,y4],_=>have h0:=hff 0 f0 rfl;have h1:=hff 1 f1 rfl;have h2:=hff 2 f2 rfl;have h3:=hff 3 f3 rfl;have h4:=hff 4 f4 rfl;(have g0:tI enc A W 0 (fun _=>tP) hd n f0.type [v0]=E y0:=by simpa[tM,o0,k0]using h0);rw[t0]at g0;obtain⟨z0,e0,_,w0⟩:=O L g0;(have g1:tI enc A W 0 (fun _=>tP) hd n f1.type [v1]=E y1:=by simpa[tM,o1,k1]using h1);rw[t1]at g1;obtain⟨z1,e1,_,w1⟩:=O L g1;(have g2:tI enc A W 0 (fun _=>tP) hd n f2.type [v2]=E y2:=by simpa[tM,o2,k2]using h2);rw[t2]at g2;obtain⟨z2,e2,_,w2⟩:=O L g2;(have g3:tI enc A W 0 (fun _=>tP) hd n f3.type [v3]=E y3:=by simpa[tM,o3,k3]using h3);rw[t3]at g3;obtain⟨z3,e3,_,w3⟩:=O L g3;(have g4:tI enc A W 0 (fun _=>tP) hd n f4.type [v4]=E y4:=by simpa[tM,o4,k4]using h4);rw[t4]at g4;obtain⟨z4,e4,_,w4⟩:=O L g4;simp at e0 e1 e2 e3 e4;subst e0 e1 e2 e3 e4;exact⟨⟨z0,z1,z2,z3,z4⟩,rfl,⟨YZ w0,YZ w1,YZ w2,YZ w3,YZ w4⟩⟩
end
theorem MA.at(hG:MA)(w:C)(v r u:F)(f:FL)(n k:List UInt8)(hv:Zf w v f)(hr:Qe w r n)(hu:Qe w u k)(hF:ZZ f)(hn:1<=n.length∧n.length<=8)(hk:1<=k.length∧k.length<=16):sP A 12 #[v,r,u] w fun e w'=>∃xa xc,e=tR (tW #[tC #[sW (zS (YN f n) k).isSome,J xa ((zS (YN f n) k).getD []).length xc],N T 0])∧Qe w' (J xa ((zS (YN f n) k).getD []).length xc) ((zS (YN f n) k).getD [])∧M w w' I:=by
 obtain⟨e1,e2,e3⟩:=Lw hF n k hn hk;refine(hG w v r u f n k hv hr hu hF.fits (by omega) (by omega)).mono ?_;rintro e w'⟨x,rfl,hx,hg⟩;rw[e3]at hx;obtain⟨xa,xc,rfl⟩:=hx.shape;rw[e1,e2];exact⟨xa,xc,rfl,hx,hg⟩
def bT:Prop:=∀(w:C)(v:F)(t:V9),KV w v t->xX t->Yx w->sP A 85 #[v] w fun e w'=>∃vs x,e=tR (tW #[vs,x,N T (Es t)])∧Y6 w.heap.size w' vs (yH Qo t)∧Yn w' x (z9 Qo t)∧M w w' I
end Go.Proofs.YtieoehicoocpjaaGreatDoor
