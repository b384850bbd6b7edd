/-
  Texts of this proof, joined, with few blanks: AcApp, SvM, TenRow, TpApp, RootMem, PCPr, ProofBut, FCProve, FCRoot, FCVerify, PCProve, Frame11, FrameG, FrameGr, LPF, LFV, TpRec.
-/
import Derived.Laws.AppendOwnNone
import Derived.Test.YtcieibjgedmdlaaGreatDoorQ3
import Derived.Laws.CopyRow
import Derived.Lib.AppendZerosOnto
import Derived.Lib.SliceRun
import Derived.Lib.LaidTab
import Derived.Test.YtcieibjgedmdlaaGreatDoorCards
import Derived.Test.YtcieibjgedmdlaaGreatDoorTie
import Derived.Deep.SlicePairs
import Derived.Lib.SmallJoins
set_option maxRecDepth 100000
set_option maxHeartbeats 8000000
open Array renaming getElem?_eq_some_iff->tP
open Bool renaming true->sN
open Go renaming World->tB,Value->tD,TypeId->tR,undef->tX,info_parts->sM,maxLen->sZ
open Go.Builtin renaming append_->tS,clear_->sI,zeroCells->sP,lenOf->sV
open Go.DataW renaming trod_int->tJ,trod->tY
open Go.Ending renaming returned->tV
open Go.IntKind renaming i64->tK
open Go.Lib renaming TabIs->tU,cells_of_tab->tZ,tabData->sU
open Go.Obj renaming cells->tN
open Go.Proofs.Tryz renaming prog->tA,underlying3->tH
open Go.Value renaming slice->tF,int->tI,agg->tQ,tuple->sK,cells->sL,ownBlock->sY
open Go.World renaming grownBy->tG,setCell->sH,cell?->sJ
open List renaming eq_nil_of_length_eq_zero->tL,length_map->tT,getElem?_take->sQ,flatMap_cons->sR,not_mem_nil->sS,range->sW
open Nat renaming lt_of_lt_of_le->tW
open Option renaming some->tC,none->tE
open Option.some renaming inj->tM
namespace Go.Proofs.YtcieibjgedmdlaaGreatDoor
open Go.RowKit
theorem N0{w:tB}{o:Oper}{a:Act}{K:Act->tB->Prop}{Q:Exit->Act->tB->Prop}(s x:Operand)(ho:o.op=.call {callee:=.builtin .append,args:=#[s,x],argTypes:=#[29,29]})(rb:Nat)(v:tD)(l:List Ac)(hs:a.eval s=v)(hown:J7 rb w v l)(ad:Addr)(cap:Nat)(us:List AV)(hx:a.eval x=tF (tC ad) us.length cap)(hc:∀j u,(Y9 us)[j]?=tC u->w.cell? (ad.add j)=tC u)(hpt:∀y∈us,Qh 0 w y.2 y.1.data)(h0:0<us.length)(hl:(l.length+us.length)*48<=140737488355328)(hbase:rb<=w.heap.size)(h:∀v' w',J7 rb w' v' (l++us.map (·.1))->tG w w' v.ownBlock->(∀g,v'.ownBlock=tC g->v.ownBlock=tC g∨w.heap.size<=g)->K (a.put o.dst v') w'):o.wp tA a w K Q:=by
 obtain⟨F,B,n,q,r⟩:=sM Nk;have b:v.ownBlock=tE∨∃g c t i,v.ownBlock=tC g∧0<=g∧w.heap[g]?=tC (tN c t i)∧t≠5:=by rcases hown.row with h|⟨g,c,i,e,_,h⟩;(·exact .inl h);·exact .inr ⟨g,c,_,i,e,Nat.zero_le _,h,eS⟩
 obtain⟨A,m,D,C⟩:=hown;refine wp_append_lies w s x 29 ho rb 32 F (tQ #[tI tK 0,tI tK 0,tI tK 0,tF tE 0 0]) 4 48 Tryz.underlying29 B n q r rfl (by decide) v l.length (Y9 A) hs D ad us.length cap (Y9 us) hx (kN us) hc ?_ h0 (by unfold sZ;omega) hl hbase _ rfl ?_;·intro u E;obtain⟨p,k,d⟩:=List.mem_flatMap.1 E;have:=hpt p k;simp only[List.mem_cons,sS,or_false]at d;rcases d with rfl|rfl|rfl|rfl;(·rfl);(·rfl);(·rfl);·exact ZH this
 ·intro g cap w' G z H _;refine h _ w' ⟨A++us,by simp[m],?_,?_⟩ z (fun I e=>by cases e;exact H.imp id (fun e=>by show w.heap.size<=g;omega));(·rw[PY,List.length_append,tT];exact G);·intro y f;rcases List.mem_append.1 f with f|f;(·exact(C y f).keptT z b);·exact(hpt y f).keptT z b
theorem VL{P:Program}{w:tB}(base:Nat)(t ty e:tR)(i:TypeInfo)(size:Nat)(ht:P.underlying t=tC (.slice e))(hi:P.info? e=tC i)(v:tD)(n:Nat)(xs:List tD)(hown:w.ownsRow base e size v n xs)(ad:Option Addr)(c:Nat):(tS #[t,t] ty #[v,tF ad 0 c]).run P w=.ok v w:=by
 rcases hown.2with⟨rfl,rfl⟩|⟨g,cap,b,rfl,_,_,a,_⟩;·cases ad<;>simp[tS,run_underlying ht,sizeOf,typeInfo,hi,sV,Builtin.firstCells,loadCells,loadCellsFrom]
 ·cases ad<;>simp[tS,run_underlying ht,sizeOf,typeInfo,hi,sV,Builtin.firstCells,loadCells,loadCellsFrom,a,storeCells]
theorem uS{w:tB}{o:Oper}{a:Act}{K:Act->tB->Prop}{Q:Exit->Act->tB->Prop}(s x:Operand)(ho:o.op=.call {callee:=.builtin .append,args:=#[s,x],argTypes:=#[29,29]})(rb:Nat)(v:tD)(l:List Ac)(hs:a.eval s=v)(hown:J7 rb w v l)(r2:Nat)(u:tD)(m:List Ac)(hx:a.eval x=u)(hsrc:J7 r2 w u m)(hl:(l.length+m.length)*48<=140737488355328)(hbase:rb<=w.heap.size)(h:∀v' w',J7 rb w' v' (l++m)->tG w w' v.ownBlock->(∀g,v'.ownBlock=tC g->v.ownBlock=tC g∨w.heap.size<=g)->K (a.put o.dst v') w'):o.wp tA a w K Q:=by
 by_cases p:m.length=0;·obtain⟨J,L,rfl⟩:=hsrc.shape;obtain⟨I,D,F,G,H⟩:=sM Nk;obtain⟨A,b,f,r⟩:=hown;have i:=VL (P:=tA) rb 29 o.type 32 I 4 Tryz.underlying29 D v l.length (Y9 A) f J L;rw[p]at hx;unfold Oper.wp;simp[execOp,ho,resolve,invoke,builtin,hs,hx,i,Result.andThen];refine h v w ?_ ⟨rfl,rfl,rfl,Nat.le_refl _,fun _ _ _=>rfl⟩ (fun _ e=>.inl e);rw[tL p,List.append_nil];exact⟨A,b,f,r⟩
 ·obtain⟨k,b,f,r⟩:=hsrc;(have c:k.length=m.length:=by rw[<-b];simp);rcases f.2with⟨_,e⟩|⟨g,cap,n,rfl,M,C,O,N,B,E⟩;(·exact absurd e p);·(have d:∀j y,(Y9 k)[j]?=tC y->w.cell? ((⟨g,0,tE⟩:Addr).add j)=tC y:=by intro j y z;(have q:j<m.length*4:=by have:=(List.getElem?_eq_some_iff.1 z).1;rw[f.1]at this;exact this);(have t:(n.toList.take (m.length*4))[j]?=(Y9 k)[j]?:=by rw[E]);rw[sQ,if_pos q,z]at t;rw[Xc,Nat.zero_add];simp[sJ,C];simpa using t);refine N0 s x ho rb v l hs hown ⟨g,0,tE⟩ cap k (by rw[hx,c]) d r (by omega) (by rw[c];exact hl) hbase ?_;rw[b];exact h
theorem Fn{w:tB}{ops:Array Oper}{rest:List Oper}{o:Oper}{a:Act}{Q:Exit->Act->tB->Prop}(hgd:o.guard=tE)(s x:Operand)(ho:o.op=.call {callee:=.builtin .append,args:=#[s,x],argTypes:=#[29,29]})(rb:Nat)(v:tD)(l:List Ac)(hs:a.eval s=v)(hown:J7 rb w v l)(r2:Nat)(u:tD)(m:List Ac)(hx:a.eval x=u)(hsrc:J7 r2 w u m)(hl:(l.length+m.length)*48<=140737488355328)(hbase:rb<=w.heap.size)(h:∀v' w',J7 rb w' v' (l++m)->tG w w' v.ownBlock->(∀g,v'.ownBlock=tC g->v.ownBlock=tC g∨w.heap.size<=g)->wpList tA ops Q rest (a.put o.dst v') w'):wpList tA ops Q (o::rest) a w:=wpList_plain hgd fun _ e=>uS s x ho rb v l hs hown r2 u m hx hsrc hl hbase fun v' w' b c d=>e _ _ (h v' w' b c d)
theorem BF{w:tB}(rb:Nat)(nb:Nat)(us:List AV)(hb:w.heap[nb]?=tC (tN ⟨Y9 us⟩ 32))(hr:rb<=nb)(hl:us.length<=1000)(hpt:∀y∈us,Qh 0 w y.2 y.1.data):J7 rb w (tF (tC ⟨nb,0,tE⟩) us.length us.length) (us.map (·.1)):=by
 refine⟨us,rfl,⟨by rw[tT,kN],.inr ⟨nb,us.length,⟨Y9 us⟩,by rw[tT],hr,hb,by rw[tT];omega,by unfold sZ;omega,by simp[kN],?_⟩⟩,hpt⟩;rw[tT,List.take_of_length_le (by simp[kN])]
def VK(r:Rp):List UInt8:=match r.pf with|tC (f,_,_)=>Gi f|none=>[]
def Xa(r:Rp):GU:=match r.pf with|tC (f,n,k)=>JI f n k|none=>VA
def Zp(r:Rp):GU:=match r.pf with|tC (f,n,k)=>JK f n k|none=>VA
def yO(w:tB)(v:tD)(r:Rp):Prop:=∃vv vp vr oe os ok ov ie is ik iv,v=tQ #[tI tK r.sess,tI tK r.code,tI tK r.turn,.bool r.found,vv,vp,vr,oe,os,ok,ov,ie,is,ik,iv]∧Qe w vv r.value∧Qo w vp r.pairs∧Qe w vr (VK r)∧Xo w (tQ #[oe,os,ok,ov]) (Xa r)∧Xo w (tQ #[ie,is,ik,iv]) (Zp r)
theorem yO.grown{w w':tB}{v:tD}{r:Rp}(h:yO w v r)(hg:tG w w' tE):yO w' v r:=by
 obtain⟨o,m,n,j,k,ok,l,f,is,g,i,rfl,a,b,c,d,e⟩:=h;exact⟨o,m,n,j,k,ok,l,f,is,g,i,rfl,a.grown hg,b.grown hg,c.grown hg,d.grown hg,e.grown hg⟩
def rY(w:tB)(cs:List tD)(r:Rp):Prop:=yO w (tQ ⟨cs⟩) r
def sC(w:tB)(cs:List tD)(c:XJ):Prop:=∃vw,cs=[tI tK c.turn,vw]∧Xv 0 w vw c.writes
def sA(w:tB)(cs:List tD)(f:FL):Prop:=∃v,cs=[v]∧ZJ 0 w v f
def r8(_:tB)(cs:List tD)(n:Nat):Prop:=cs=[tI tK (n:Int)]
abbrev YF:=JX 49 15 rY
abbrev KS:=JX 165 2 sC
abbrev Kn:=JX 35 1 sA
abbrev Vy:=JX 3 1 r8
def Zw(v:Sv):List FL:=(sW (v.commits.length+1)).map (Qy v)
theorem Vh(v:Sv):(Zw v).length=v.commits.length+1:=by
 simp[Zw]
theorem SK(v:Sv){n:Nat}(h:n<=v.commits.length):(Zw v).getD n []=Qy v n:=by
 simp[Zw,List.getD,List.getElem?_map,List.getElem?_range (show n<v.commits.length+1by omega)]
def JC(v:Sv)(s:Nat):Int:=if v.waits s=sN then 2 else if v.begun s=sN then 1 else 0
def rP(_B:Nat)(w:tB)(v:Sv)(s:Nat)(cs:Array tD):Prop:=∃t vr vw,cs[7+s*4]?=tC (tI tK (JC v s))∧cs[7+s*4+1]?=tC (tI tK t.start)∧cs[7+s*4+2]?=tC vr∧cs[7+s*4+3]?=tC vw∧Zg 0 w (fun w=>zD w (tQ #[tI tK t.start,vr,vw]) t)∧(v.begun s=sN->t=v.txns s)
structure Jb (R B : Nat) (w : tB) (v : Sv) (cs : Array tD) : Prop where
  size : cs.size = 40
  up : cs[0]? = tC (.bool v.up)
  tape : ∃ vd, cs[1]? = tC vd ∧ Zg 0 w (fun w => Qe w vd v.tape.data)
  mark : cs[2]? = tC (tI tK v.tape.synced)
  commits : ∃ u, cs[3]? = tC u ∧ KS B w u v.commits
  forests : ∃ u, cs[4]? = tC u ∧ Kn B w u (Zw v)
  synced : cs[5]? = tC (tI tK (v.synced : Int))
  queue : ∃ u, cs[6]? = tC u ∧ Vy B w u v.queue
  sess : ∀ s, s < 8 -> rP B w v s cs
  replies : ∃ u, cs[39]? = tC u ∧ YF B w u v.out ∧ ∀ g, u.ownBlock = tC g -> g < R
def YQ(R B:Nat)(w:tB)(b:Nat)(v:Sv):Prop:=∃cs,B<=b∧w.heap[b]?=tC (tN cs 82 (0,0))∧Jb R B w v cs
theorem FZ:FF 82:=.inl rfl
theorem Pg:FF 49:=.inr (.inl rfl)
theorem pT:FF 165:=.inr (.inr (.inl rfl))
theorem rM:FF 35:=.inr (.inr (.inr (.inl rfl)))
theorem pS:FF 3:=.inr (.inr (.inr (.inr rfl)))
theorem rP.later{B:Nat}{w w':tB}{v:Sv}{s:Nat}{cs:Array tD}(h:rP B w v s cs)(k:Kp B w w'):rP B w' v s cs:=by
 obtain⟨t,g,i,a,b,c,d,e,f⟩:=h;exact⟨t,g,i,a,b,c,d,e.later k,f⟩
theorem Jb.grown{R B:Nat}{w w':tB}{v:Sv}{cs:Array tD}(h:Jb R B w v cs)(hg:tG w w' tE):Jb R B w' v cs:=by
 obtain⟨a,b,⟨t,c,m⟩,d,⟨u,e,n⟩,⟨x,f,o⟩,g,⟨y,i,p⟩,j,⟨z,k,q,r⟩⟩:=h;exact⟨a,b,⟨t,c,m.grown hg⟩,d,⟨u,e,n.grown hg⟩,⟨x,f,o.grown hg⟩,g,⟨y,i,p.grown hg⟩,fun s l=>(j s l).later (Kp.grown hg),⟨z,k,q.grown hg,r⟩⟩
theorem Jb.turned{R B:Nat}{w w':tB}{v:Sv}{cs:Array tD}(h:Jb R B w v cs){g:Nat}{ds:Array tD}{t:tR}{fz:Nat×Nat}(hk:Kp B w w')(hg:tG w w' (tC g))(hb:w.heap[g]?=tC (tN ds t fz))(h1':t≠49)(h2':t≠165)(h3':t≠35)(h4':t≠3):Jb R B w' v cs:=by
 obtain⟨a,b,⟨x,c,n⟩,d,⟨y,e,o⟩,⟨z,f,p⟩,i,⟨A,j,q⟩,k,⟨C,l,r,u⟩⟩:=h;exact⟨a,b,⟨x,c,n.later hk⟩,d,⟨y,e,o.other (by decide) hk hg (.inr ⟨g,ds,t,fz,rfl,hb,h2'⟩)⟩,⟨z,f,p.other (by decide) hk hg (.inr ⟨g,ds,t,fz,rfl,hb,h3'⟩)⟩,i,⟨A,j,q.other (by decide) hk hg (.inr ⟨g,ds,t,fz,rfl,hb,h4'⟩)⟩,fun s m=>(k s m).later hk,⟨C,l,r.other (by decide) hk hg (.inr ⟨g,ds,t,fz,rfl,hb,h1'⟩),u⟩⟩
theorem Jb.box{R B:Nat}{w w':tB}{v:Sv}{cs:Array tD}(h:Jb R B w v cs){nb:Nat}{ds:Array tD}{fz:Nat×Nat}(hk:Kp B w w')(hg:tG w w' (tC nb))(hn:R<=nb)(hb:w.heap[nb]?=tC (tN ds 49 fz)):Jb R B w' v cs:=by
 obtain⟨c,d,⟨y,f,r⟩,i,⟨z,j,t⟩,⟨A,k,u⟩,l,⟨C,m,x⟩,n,⟨D,o,a,b⟩⟩:=h;refine⟨c,d,⟨y,f,r.later hk⟩,i,⟨z,j,t.other (by decide) hk hg (.inr ⟨nb,ds,_,fz,rfl,hb,by decide⟩)⟩,⟨A,k,u.other (by decide) hk hg (.inr ⟨nb,ds,_,fz,rfl,hb,by decide⟩)⟩,l,⟨C,m,x.other (by decide) hk hg (.inr ⟨nb,ds,_,fz,rfl,hb,by decide⟩)⟩,fun s p=>(n s p).later hk,⟨D,o,a.kept hk (fun g e=>hg.block g (a.lt g e).2 (fun q=>?_)),b⟩⟩;have:=b g e;cases q;omega
theorem Jb.more{R R' B:Nat}{w:tB}{v:Sv}{cs:Array tD}(h:Jb R B w v cs)(hR:R<=R'):Jb R' B w v cs:=by
 obtain⟨a,b,c,d,f,i,j,k,l,⟨p,m,n,o⟩⟩:=h;exact⟨a,b,c,d,f,i,j,k,l,⟨p,m,n,fun g e=>tW (o g e) hR⟩⟩
theorem zG{R B:Nat}{w:tB}{v:Sv}{cs:Array tD}(h:Jb R B w v cs):∀q,cs[0]?≠tC (tI .u8 q):=fun q e=>by
 rw[h.up]at e;cases e
theorem YJ{R B:Nat}{w w':tB}{v:Sv}{b:Nat}{cs:Array tD}(h:Jb R B w v cs)(hB:B<=b)(hb:w.heap[b]?=tC (tN cs 82 (0,0)))(hg:tG w w' (tC b)):Kp B w w'∧Jb R B w' v cs:=have k:=Kp.turn hg hB hb FZ (zG h);⟨k,h.turned k hg hb (by
 decide) (by
 decide) (by
 decide) (by
 decide)⟩
theorem Qm{w:tB}{b i:Nat}{cs:Array tD}{t:tR}{u:tD}{fz:Nat×Nat}(hb:w.heap[b]?=tC (tN cs t fz))(h:cs[i]?=tC u):w.cell? ⟨b,i,tE⟩=tC u:=by
 simp[sJ,hb,h]
theorem Qf{w:tB}{b:Nat}{cs:Array tD}{t:tR}(hb:w.heap[b]?=tC (tN cs t (0,0)))(i:Nat):w.frozen? ⟨b,i,tE⟩=false:=by
 simp[World.frozen?,hb]
abbrev VP:=tD×tD
def Je(w:tB)(g:Nat)(all:List VP):Prop:=w.heap[g]?=tC (tN (flat all).toArray 220 (0,0))
def Kd(w:tB)(g:Nat)(all:List VP):tB:=w.setRow g (flat all).toArray
theorem Je.set{w:tB}{g:Nat}{all:List VP}(h:Je w g all)(all':List VP):Je (Kd w g all') g all':=setRow_heap w g _ _ _ _ h
theorem Og{w:tB}{g:Nat}{all:List VP}(h:Je w g all):Kd w g all=w:=setRow_self w g _ _ _ h
theorem Je.lt{w:tB}{g:Nat}{all:List VP}(h:Je w g all):g<w.heap.size:=(tP.1 h).1
theorem Je.drew{w:tB}{g:Nat}{all:List VP}(h:Je w g all):Je w.drew g all:=h
theorem Ui(w:tB)(g:Nat)(all:List VP):tG w (Kd w g all) (tC g):=⟨rfl,rfl,rfl,by
 simp[Kd,World.setRow],fun k _ a=>setRow_other w g k _ (fun e=>a (by
 rw[e]))⟩
theorem Ys{w w1 w2:tB}{r:Option Nat}(h1:tG w w1 r)(h2:tG w1 w2 r):tG w w2 r:=⟨h2.os.trans h1.os,h2.tape.trans h1.tape,h2.output.trans h1.output,Nat.le_trans h1.size h2.size,fun k a b=>(h2.block k (tW a h1.size) b).trans (h1.block k a b)⟩
theorem X9{w w1:tB}{r:Option Nat}(h1:tG w w1 tE):tG w w1 r:=⟨h1.os,h1.tape,h1.output,h1.size,fun k hk _=>h1.block k hk (by
 simp)⟩
theorem kI:∀(n:Nat)(cs:List tD),cs.length=n*2->∃vs:List VP,vs.length=n∧flat vs=cs|0,cs,h=>⟨[],rfl,by rw[tL (by omega:cs.length=0)];rfl⟩|n+1,[],h=>by simp at h|n+1,[_],h=>by simp at h;omega|n+1,a::b::r,h=>by obtain⟨vs,d,c⟩:=kI n r (by simp at h;omega);exact⟨(a,b)::vs,by simp[d],by simp only[flat,sR,List.cons_append,List.nil_append]at c⊢;rw[c]⟩
theorem An:∀(a b:List VP),flat a=flat b->a=b|[],[],_=>rfl|[],x::r,h=>by simp[flat]at h|x::r,[],h=>by simp[flat]at h|x::r,y::s,h=>by simp only[flat,sR,List.cons_append,List.nil_append,List.cons.injEq]at h;obtain⟨c,d,e⟩:=h;rw[An r s e,Prod.ext c d]
def Me(l:List VP):Prop:=∀x∈l,x.1.oneCell'=sN∧x.2.oneCell'=sN
theorem Me.flat{l:List VP}(h:Me l):∀u∈flat l,u.oneCell'=sN:=by
 intro u a;simp only[Go.Proofs.YtcieibjgedmdlaaGreatDoor.flat,List.mem_flatMap,List.mem_cons,sS,or_false]at a;obtain⟨x,b,rfl|rfl⟩:=a;·exact(h x b).1
 ·exact(h x b).2
def pA(base:Nat)(w:tB)(x:VP)(t:Tn):Prop:=Qh base w x.1 t.1∧QL base w x.2 t.2
def pE:VP:=(tX,tX)
def Y5(base:Nat)(w:tB)(vs:List VP)(l:FL):Prop:=vs.length=l.length∧∀i,i<l.length->pA base w (vs.getD i pE) (l.getD i ([],[]))
theorem Y5.take{base:Nat}{w:tB}{vs:List VP}{l:FL}(h:Y5 base w vs l)(n:Nat):Y5 base w (vs.take n) (l.take n):=by
 refine⟨by simp[h.1],fun i b=>?_⟩;have a:i<n∧i<l.length:=by simp at b;omega
 have:=h.2 i a.2;rwa[show(vs.take n).getD i pE=vs.getD i pE by simp[a.1],show(l.take n).getD i ([],[])=l.getD i ([],[])by simp[a.1]]
theorem Y5.drop{base:Nat}{w:tB}{vs:List VP}{l:FL}(h:Y5 base w vs l)(n:Nat):Y5 base w (vs.drop n) (l.drop n):=by
 refine⟨by simp[h.1],fun i b=>?_⟩;have a:n+i<l.length:=by simp at b;omega
 have:=h.2 (n+i) a;rwa[show(vs.drop n).getD i pE=vs.getD (n+i) pE by simp,show(l.drop n).getD i ([],[])=l.getD (n+i) ([],[])by simp]
theorem Y5.append{base:Nat}{w:tB}{vs us:List VP}{l m:FL}(h:Y5 base w vs l)(h2:Y5 base w us m):Y5 base w (vs++us) (l++m):=by
 refine⟨by simp[h.1,h2.1],fun i b=>?_⟩;rw[JA,JA,h.1];by_cases a:i<l.length;·rw[if_pos a,if_pos a];exact h.2 i a
 ·rw[if_neg a,if_neg a];exact h2.2 _ (by simp at b;omega)
theorem Y5.one{base:Nat}{w:tB}{x:VP}{t:Tn}(h:pA base w x t):Y5 base w [x] [t]:=⟨rfl,fun i a=>by
 obtain rfl:i=0:=by simpa using a
 exact h⟩
theorem Y5.kept{base:Nat}{w w':tB}{vs:List VP}{l:FL}(h:Y5 base w vs l){row:Option Nat}(hg:tG w w' row)(hrow:row=tE∨∃g cur t fz,row=tC g∧base<=g∧w.heap[g]?=tC (tN cur t fz)∧t≠5∧t≠45):Y5 base w' vs l:=⟨h.1,fun i a=>⟨((h.2 i a).1).keptT hg (oY hrow),((h.2 i a).2).kept hg hrow⟩⟩
theorem Y5.oneV{base:Nat}{w:tB}{vs:List VP}{l:FL}(h:Y5 base w vs l):Me vs:=by
 intro x b;obtain⟨i,a,rfl⟩:=List.mem_iff_getElem.1 b;have:=h.2 i (by rw[<-h.1];exact a);rw[show vs.getD i pE=vs[i]by simp[a]]at this;exact⟨ZH this.1,jX this.2⟩
theorem Je.rowOf{base:Nat}{w:tB}{g:Nat}{all:List VP}(h:Je w g all)(hb:base<=g):(tC g:Option Nat)=tE∨∃g' cur t fz,(tC g:Option Nat)=tC g'∧base<=g'∧w.heap[g']?=tC (tN cur t fz)∧t≠5∧t≠45:=.inr ⟨g,_,_,_,rfl,hb,h,nH,nD⟩
theorem Je.cells{w:tB}{g:Nat}{all:List VP}(h:Je w g all)(p:Nat):∀j u,(flat (all.drop p))[j]?=tC u->w.cell? ((⟨g,p*2,tE⟩:Addr).add j)=tC u:=by
 intro j u a;rw[Mq,List.getElem?_drop]at a;rw[Xc];have:=h;unfold Je at this;simp[sJ,this];exact a
theorem Je.cellsT{w:tB}{g:Nat}{all:List VP}(h:Je w g all)(p n:Nat):∀j u,(flat ((all.drop p).take n))[j]?=tC u->w.cell? ((⟨g,p*2,tE⟩:Addr).add j)=tC u:=by
 intro j u a;refine h.cells p j u ?_;rw[uA,sQ]at a;split at a;·exact a
 ·cases a
theorem Fc{base:Nat}{w:tB}{g:Nat}{all:List VP}{l:FL}(h:Je w g all)(hb:base<=g)(hl:l.length<=all.length)(hm:all.length<=sZ)(he:Y5 0 w (all.take l.length) l):ZJ base w (tF (tC ⟨g,0,tE⟩) l.length all.length) l:=by
 refine⟨all.take l.length,he.1,⟨by rw[KV,he.1],.inr ⟨g,all.length,_,rfl,hb,h,hl,hm,by simp[KV],?_⟩⟩,fun i a=>he.2 i a⟩;rw[uA]
theorem ZJ.elim{base:Nat}{w:tB}{v:tD}{l:FL}(h:ZJ base w v l):(v=tF tE 0 0∧l=[])∨∃g all,v=tF (tC ⟨g,0,tE⟩) l.length (List.length all)∧Je w g all∧base<=g∧l.length<=all.length∧all.length<=sZ∧Y5 0 w (all.take l.length) l:=by
 obtain⟨s,o,p,d⟩:=h;rcases p.2with⟨rfl,c⟩|⟨g,cap,a,rfl,j,m,u,t,q,r⟩;·exact .inl ⟨rfl,tL c⟩
 ·obtain⟨all,f,k⟩:=kI cap a.toList (by simpa using q);(have b:a=(flat all).toArray:=by rw[k]);subst b;have e:all.take l.length=s:=An _ _ (by rw[uA];simpa using r);exact .inr ⟨g,all,by rw[f],m,j,by omega,by omega,by rw[e];exact⟨o,fun i n=>d i n⟩⟩
theorem zN:tA.underlying 35=tC (.slice 220):=Tryz.underlying35
theorem RU(all news:List VP)(o:Nat):(((flat all).toArray.toList.take (o*2)++flat news++(flat all).toArray.toList.drop (o*2+(flat news).length)).toArray)=(flat (all.take o++news++all.drop (o+news.length))).toArray:=by
 rw[Kk,Kk,uA,Mq,KV,show(o+news.length)*2=o*2+news.length*2by omega]
theorem Ge(w:tB)(g:Nat)(all news:List VP)(hb:Je w g all)(ty:tR)(o dLen dCap:Nat)(a:Addr)(sLen sCap:Nat)(hn:news.length=Nat.min sLen dLen)(hsrc:∀j v,(flat news)[j]?=tC v->w.cell? (a.add j)=tC v)(hfit:o+news.length<=all.length)(h1:Me news):(Builtin.copy_ #[35,35] ty #[tF (tC ⟨g,o*2,tE⟩) dLen dCap,tF (tC a) sLen sCap]).run tA w=.ok (goInt news.length) (Kd w g (all.take o++news++all.drop (o+news.length))):=by
 obtain⟨k,f,h,d,i⟩:=sM Ru;have e:=run_firstCells_some (P:=tA) w 2 news.length a sLen sCap (flat news) (KV _) hsrc;have b:=run_storeCells_at tA g (o*2) _ (flat news) 0 _ w hb (by simp[KV];omega) h1.flat;simp only[Nat.add_zero]at b;rw[RU]at b;have c:sLen.min dLen=news.length:=hn.symm;simp[Builtin.copy_,run_underlying zN,sV,sizeOf,typeInfo,f,d,c,e,b,Kd]
theorem Tl(w:tB)(g:Nat)(all news:List VP)(hb:Je w g all)(ty:tR)(n:Nat)(a:Addr)(m c:Nat)(hn:news.length=m)(hsrc:∀j v,(flat news)[j]?=tC v->w.cell? (a.add j)=tC v)(hfit:n+m<=all.length)(h1:Me news):(tS #[35,35] ty #[tF (tC ⟨g,0,tE⟩) n all.length,tF (tC a) m c]).run tA w=.ok (tF (tC ⟨g,0,tE⟩) (n+m) all.length) (Kd w g (all.take n++news++all.drop (n+m))):=by
 obtain⟨h,d,e,b,f⟩:=sM Ru;have:=run_append_room (P:=tA) w 35 ty 220 h zN d g n all.length _ hb a m c (flat news) (by rw[KV,b,hn]) hsrc h1.flat hfit (by rw[b];simp[KV];omega);rw[this,b,RU,hn];rfl
def My:VP:=(tF tE 0 0,tF tE 0 0)
theorem lC(w:tB):(zeroValue 220).run tA w=.ok (tQ #[tF tE 0 0,tF tE 0 0]) w:=by
 kernel_rfl
theorem Hs(w:tB)(g:Nat)(all:List VP)(hb:Je w g all)(ty:tR)(o c:Nat)(hfit:o<all.length):(sI #[35] ty #[tF (tC ⟨g,o*2,tE⟩) 1 c]).run tA w=.ok (sK #[]) (Kd w g (all.take o++[My]++all.drop (o+1))):=by
 have a:=run_storeCells_at tA g (o*2) _ (flat [My]) 0 _ w hb (by simp[KV];omega) (by intro u b;simp[flat,My]at b;rw[b];rfl);simp only[Nat.add_zero]at a;rw[RU]at a;have d:(sP (tQ #[tF tE 0 0,tF tE 0 0]).cells 1).toList=flat [My]:=by kernel_rfl
 simp only[sI,List.getElem?_toArray,List.getElem?_cons_zero,Sem.run_bind,run_underlying zN,Result.andThen_ok,lC,d,a,Sem.run_pure];rfl
theorem SA(w:tB)(ty:tR)(a:Option Addr)(c:Nat):(sI #[35] ty #[tF a 0 c]).run tA w=.ok (sK #[]) w:=by
 cases a<;>simp[sI,run_underlying zN]
theorem Sx(w:tB)(g:Nat)(all:List VP)(hb:Je w g all)(ty:tR)(n k:Nat)(hk:0<k)(hn:n<=all.length)(hg:all.length<n+k)(hl:n+k<=1000):∃rest:List VP,k<=rest.length∧n+rest.length<=sZ∧(tS #[35,3] ty #[tF (tC ⟨g,0,tE⟩) n all.length,tI tK k]).run tA w=.ok (tF (tC ⟨w.heap.size,0,tE⟩) (n+k) (n+rest.length)) (w.drew.alloc (tN (flat (all.take n++rest)).toArray 220)):=by
 obtain⟨l,h,c,d,b⟩:=sM Ru;have a:=run_firstCells_some (P:=tA) w.drew 2 n ⟨g,0,tE⟩ n all.length (flat (all.take n)) (by rw[KV];simp;omega) (by have:=hb.drew.cellsT 0 n;simpa using this);rw[<-d]at a;have j:=Lib.run_append_grow_zeros (P:=tA) w 35 3 ty 220 l _ tK tK zN (by kernel_rfl) h c (tC ⟨g,0,tE⟩) n all.length (flat (all.take n)) a k hk (by omega) hg (by omega) (by rw[b];omega) (by rw[b];exact growslice_fits hg (by omega));have f:=grownCap_ge w (n+k) all.length 220;have i:=grownCap_le_maxLen w (n+k) all.length 220 (by unfold sZ;omega);generalize grownCap w (n+k) all.length 220=G at*;obtain⟨rest,m,o⟩:=kI (G-n) (sP (tQ #[tF tE 0 0,tF tE 0 0]).cells k++sP (tQ #[tF tE 0 0,tF tE 0 0]).cells (G-(n+k))).toList (by(have e:(tQ #[tF tE 0 0,tF tE 0 0]).cells.size=2:=by decide);simp only[Array.length_toList,Array.size_append,size_zeroCells,e];omega);refine⟨rest,by omega,by omega,?_⟩;rw[j];congr 1;·rw[m];congr 1;omega
 ·congr 2;rw[Kk,o];simp[Array.append_assoc]
def bT:Prop:=∀(w:tB)(v u:tD)(t:GK)(c:XJ),Uj w v t->Ks w u c->jU t->M3 c->Yf w->Calls tA 96 #[v,u] w fun e w'=>∃x,e=tV (sK #[x,tI tK (VC Qu t c)])∧YH w' x (qZ Qu t c)∧tG w w' tE
def gU(w:tB)(b:Nat):Prop:=∃cur t fz,w.heap[b]?=tC (tN cur t fz)∧(t=5∨∃q,cur[0]?=tC (tI .u8 q))
def AF(w:tB)(b:Nat):Prop:=∃cur t fz,w.heap[b]?=tC (tN cur t fz)∧t≠5∧∀q,cur[0]?≠tC (tI .u8 q)
theorem gU.ne{w:tB}{a b:Nat}(h:gU w a)(h':AF w b):a≠b:=by
 rintro rfl;obtain⟨f,t,l,i,c⟩:=h;obtain⟨e,m,g,d,j,k⟩:=h';rw[i]at d;simp only[Option.some.injEq,Obj.cells.injEq]at d;obtain⟨rfl,rfl,_⟩:=d;rcases c with c|⟨q,c⟩;·exact j c
 ·exact k q c
theorem AF.grown{w w':tB}{b:Nat}(h:AF w b)(hg:tG w w' tE):AF w' b:=by
 obtain⟨a,t,d,c,e⟩:=h;exact⟨a,t,d,by rw[hg.block b (tP.1 c).1 (by simp)];exact c,e⟩
def UY(w:tB)(v:tD)(bs:List UInt8):Prop:=Qe w v bs∧(bs=[]∨∃b,v.ownBlock=tC b∧b<w.heap.size∧gU w b)
theorem Za.partSR{base':Nat}{w:tB}{v:tD}{bs:List UInt8}(h:Za base' w v bs):UY w v bs:=by
 refine⟨h.slice,?_⟩;rcases h.2with⟨rfl,c⟩|⟨g,cap,a,rfl,d,b,_⟩;·exact .inl (tL c)
 ·exact .inr ⟨g,rfl,(tP.1 b).1,a,_,_,b,.inl rfl⟩
theorem ZN.partSR{w:tB}{nb:Nat}{bs:List UInt8}(h:ZN w nb bs)(hl:bs.length=32):UY w (tF (tC ⟨nb,0,tE⟩) 32 32) bs:=by
 refine⟨h.slice32 hl,.inr ⟨nb,rfl,U1 (h.cell 0 (by omega)),?_⟩⟩;have b:=h.cell 0 (by omega);obtain⟨t,a⟩:=h;refine⟨_,t,_,a,.inr ⟨((bs.getD 0 0).toNat:Int),?_⟩⟩;·simpa[sJ,a]using b
theorem Nx{w:tB}{v:tD}{bs:List UInt8}(h:UY w v bs):v.oneCell'=sN:=by
 obtain⟨⟨a,cap,rfl,_⟩,_⟩:=h;rfl
def Ay(w:tB)(row:Option Nat):Prop:=row=tE∨∃g,row=tC g∧AF w g
theorem UY.kept{w w':tB}{v:tD}{bs:List UInt8}(h:UY w v bs){row:Option Nat}(hg:tG w w' row)(hrow:Ay w row):UY w' v bs:=by
 obtain⟨r,x⟩:=h;rcases x with rfl|⟨b,l,f,c⟩;·obtain⟨a,cap,rfl,c,h⟩:=r;refine⟨⟨a,cap,rfl,c,?_⟩,.inl rfl⟩;rcases h with h|⟨b,o,rfl,h⟩;(·exact .inl h);·exact .inr ⟨b,o,rfl,fun i q=>by simp at q⟩
 ·(have j:tC b≠row:=by intro e;rcases hrow with rfl|⟨g,rfl,p⟩;(·cases e);·cases e;exact c.ne p rfl);have d:=hg.block b f j;refine⟨?_,.inr ⟨b,l,tW f hg.size,?_⟩⟩;(·obtain⟨a,cap,rfl,n,h⟩:=r;refine⟨a,cap,rfl,n,?_⟩;rcases h with h|⟨s,o,rfl,h⟩;(·exact .inl h);·refine .inr ⟨s,o,rfl,fun i q=>?_⟩;simp[sY]at l;subst l;exact hg.cell (h i q) (by simpa using j));·obtain⟨k,t,u,c,m⟩:=c;exact⟨k,t,u,by rw[d];exact c,m⟩
theorem UY.grown{w w':tB}{v:tD}{bs:List UInt8}(h:UY w v bs)(hg:tG w w' tE):UY w' v bs:=h.kept hg (.inl rfl)
theorem o8:(45:Nat)≠5:=by
 decide
def VY(base:Nat)(w:tB)(v:tD)(l:PL):Prop:=∃vs:List (tD×tD),vs.length=l.length∧w.ownsRow base 45 2 v l.length (flat vs)∧Ay w v.ownBlock∧(∀k,v.ownBlock=tC k->∃cur fz,w.heap[k]?=tC (tN cur 45 fz))∧∀i,i<l.length->Qh base w (vs.getD i (tX,tX)).1 (l.getD i ([],[])).1∧UY w (vs.getD i (tX,tX)).2 (l.getD i ([],[])).2
theorem OR(base:Nat)(w:tB):VY base w (tF tE 0 0) []:=⟨[],rfl,World.ownsRow_nil _ _ _ _,.inl rfl,fun k hk=>by
 simp[sY]at hk,fun i hi=>by
 simp at hi⟩
theorem VY.lt{base:Nat}{w:tB}{v:tD}{l:PL}(h:VY base w v l):∀k,v.ownBlock=tC k->base<=k∧k<w.heap.size:=by
 obtain⟨a,_,h,_⟩:=h;exact World.ownsRow.lt h
theorem VY.shape{base:Nat}{w:tB}{v:tD}{l:PL}(h:VY base w v l):∃a cap,v=tF a l.length cap:=by
 obtain⟨d,_,h,_⟩:=h;rcases h.2with⟨rfl,c⟩|⟨g,cap,b,rfl,_⟩;·exact⟨tE,0,by rw[c]⟩
 ·exact⟨_,cap,rfl⟩
theorem Ay.grownN{w w':tB}{r:Option Nat}(h:Ay w r)(hg:tG w w' tE):Ay w' r:=by
 rcases h with h|⟨g,h,a⟩;·exact .inl h
 ·exact .inr ⟨g,h,a.grown hg⟩
theorem VY.grownNone{base:Nat}{w w':tB}{v:tD}{l:PL}(h:VY base w v l)(hg:tG w w' tE):VY base w' v l:=by
 obtain⟨o,f,g,j,m,b⟩:=h;refine⟨o,f,World.ownsRow.kept g hg ?_,j.grownN hg,fun k n=>?_,fun i d=>⟨(b i d).1.kept hg (.inl rfl),(b i d).2.grown hg⟩⟩;·cases hv:v.ownBlock with|none=>exact .inl rfl|some k=>exact .inr (by simp)
 ·obtain⟨a,e,c⟩:=m k n;exact⟨a,e,by rw[hg.block k (tP.1 c).1 (by simp)];exact c⟩
theorem VY.list{base:Nat}{w:tB}{v:tD}{l:PL}(h:VY base w v l):Qo w v l:=by
 obtain⟨b,p,f,_,_,c⟩:=h;have a:=f;rcases f.2with⟨rfl,k⟩|⟨g,cap,j,rfl,n,o,m,q,r,s⟩;·have:l=[]:=tL k;subst this;exact XN w
 ·refine⟨_,cap,rfl,m,.inr ⟨g,0,rfl,fun i e=>?_⟩⟩;have d:=jL b i (by omega);refine⟨(b.getD i (tX,tX)).1,(b.getD i (tX,tX)).2,?_,?_,(c i e).1.1,(c i e).2.1⟩;(·have:=qJ.cells a _ _ d.1;rw[Nat.zero_add];exact this);·have:=qJ.cells a _ _ d.2;rw[Nat.zero_add];exact this
theorem Bd{base:Nat}{w W w1:tB}{v:tD}{l:PL}(h:tG w W tE)(ho:VY base W v l)(hb:w.heap.size<=base)(hg:tG W w1 v.ownBlock):tG w w1 tE:=⟨hg.os.trans h.os,hg.tape.trans h.tape,hg.output.trans h.output,Nat.le_trans h.size hg.size,fun i a b=>(hg.block i (tW a h.size) (fun e=>by
 have:=(ho.lt i e.symm).1;omega)).trans (h.block i a b)⟩
theorem vQ{w:tB}{ops:Array Oper}{rest:List Oper}{o:Oper}{a:Act}{Q:Exit->Act->tB->Prop}(hgd:o.guard=tE)(s x:Operand)(ho:o.op=.call {callee:=.builtin .append,args:=#[s,x],argTypes:=#[42,42]})(base:Nat)(v:tD)(l:PL)(hs:a.eval s=v)(hown:VY base w v l)(vk vv:tD)(p:Pr)(hk:Qh base w vk p.1)(hv:UY w vv p.2)(nb:Nat)(hb:w.heap[nb]?=tC (tN #[vk,vv] 45))(hx:a.eval x=tF (tC ⟨nb,0,tE⟩) 1 1)(hl:(l.length+1)*48<=140737488355328)(hbase:base<=w.heap.size)(h:∀v' w',VY base w' v' (l++[p])->tG w w' v.ownBlock->wpList tA ops Q rest (a.put o.dst v') w'):wpList tA ops Q (o::rest) a w:=by
 obtain⟨X,F,J,L,M⟩:=sM Ag;obtain⟨r,A,R,n,I,P⟩:=hown;have f:v.ownBlock=tE∨∃g b C,v.ownBlock=tC g∧base<=g∧w.heap[g]?=tC (tN b 45 C):=by cases hv':v.ownBlock with|none=>exact .inl rfl|some k=>obtain⟨b,C,D⟩:=I k hv';exact .inr ⟨k,b,C,rfl,(World.ownsRow.lt R k hv').1,D⟩
 refine wpList_plain hgd fun K U=>?_;refine wp_append_lies w s x 42 ho base 45 X (tQ #[tF tE 0 0,tF tE 0 0]) 2 48 Tryz.underlying42 F J L M rfl (by decide) v l.length (flat r) hs R ⟨nb,0,tE⟩ 1 1 (flat [(vk,vv)]) hx rfl (World.news_of_block (cs:=#[vk,vv]) hb) ?_ (by omega) (by unfold sZ;omega) hl hbase _ rfl ?_;·intro u S;simp only[flat,sR,List.flatMap_nil,List.append_nil,List.mem_cons,sS,or_false]at S;rcases S with rfl|rfl;(·exact ZH hk);·exact Nx hv
 ·intro g cap w' O t _ _;(have c:∀i,i<(l++[p]).length->Qh base w' ((r++[(vk,vv)]).getD i (tX,tX)).1 ((l++[p]).getD i ([],[])).1∧UY w' ((r++[(vk,vv)]).getD i (tX,tX)).2 ((l++[p]).getD i ([],[])).2:=by intro i F;rw[JA,JA,A];by_cases d:i<l.length;(·rw[if_pos d,if_pos d];exact⟨(P i d).1.kept t f,(P i d).2.kept t n⟩);·rw[if_neg d,if_neg d];(obtain rfl:i=l.length:=by simp at F;omega);rw[Nat.sub_self];exact⟨hk.kept t f,hv.kept t n⟩);(have y:∃b,w'.heap[g]?=tC (tN b 45 (0,0))∧b.toList.take ((l.length+1)*2)=flat r++flat [(vk,vv)]:=by rcases O.2with⟨e,_⟩|⟨g',N,b,e,_,E,_,_,_,W⟩;(·cases e);·simp only[Value.slice.injEq,Option.some.injEq,Addr.mk.injEq]at e;obtain⟨⟨rfl,_⟩,_,_⟩:=e;exact⟨b,E,W⟩);obtain⟨b,m,H⟩:=y;(have j:∀q,b[0]?≠tC (tI .u8 q):=by intro q V;have B:=(jL (r++[(vk,vv)]) 0 (by simp)).1;rw[Kk,<-H,sQ,if_pos (by omega)]at B;have G:=(c 0 (by simp)).1;obtain⟨Y,Z,T⟩:=G.1.shape;rw[T]at B;(have:b.toList[0]?=b[0]?:=by simp);rw[Nat.zero_mul,this,V]at B;cases B);refine U _ _ (h _ w' ⟨r++[(vk,vv)],by simp[A],?_,.inr ⟨g,rfl,b,_,_,m,o8,j⟩,fun k z=>?_,c⟩ t);(·rw[Kk,List.length_append];exact O);·simp[sY]at z;subst z;exact⟨b,_,m⟩
def fH:Prop:=∀(w:tB)(v u:tD)(l:PL)(k:List UInt8),Qo w v l->Qe w u k->vA l->Yf w->Calls tA 101 #[v,u] w fun e w'=>∃x,e=tV (sK #[x,tI tK (Xi l k)])∧ZI w.heap.size w' x (kB l k)∧tG w w' tE
def WO(w:tB)(c:Nat):Prop:=∀i k q,w.cell? ⟨c,i,tE⟩≠tC (tI k q)
def xP(w w':tB)(c:Nat):Prop:=∀x:Addr,x.block≠c->w'.cell? x=w.cell? x
theorem Dw(w:tB)(c:Nat):xP w w c:=fun _ _=>rfl
theorem xP.set{w w':tB}{c:Nat}(h:xP w w' c)(i:Nat)(u:tD):xP w (sH w' ⟨c,i,tE⟩ u) c:=fun x a=>by
 rw[World.cell?_setCell_other _ _ _ _ (fun e=>a (congrArg Addr.block e).symm)];exact h x a
theorem Qe.but{w w':tB}{c:Nat}{v:tD}{bs:List UInt8}(h:Qe w v bs)(hn:WO w c)(hs:xP w w' c):Qe w' v bs:=by
 obtain⟨a,cap,rfl,f,h⟩:=h;refine⟨a,cap,rfl,f,?_⟩;rcases h with h|⟨b,o,rfl,h⟩;·exact .inl h
 ·refine .inr ⟨b,o,rfl,fun i g=>?_⟩;have d:=h i g;rw[hs _ (fun e=>by subst e;exact hn _ _ _ d)];exact d
theorem JH.but{w w':tB}{c:Nat}{v:tD}{l:List VN}(h:JH w v l)(hn:WO w c)(hs:xP w w' c):JH w' v l:=by
 obtain⟨a,cap,rfl,m,h⟩:=h;refine⟨a,cap,rfl,m,?_⟩;rcases h with h|⟨b,o,rfl,h⟩;·exact .inl h
 ·refine .inr ⟨b,o,rfl,fun i n=>?_⟩;obtain⟨p,f,g,j,k⟩:=h i n;(have d:b≠c:=fun e=>by subst e;exact hn _ _ _ f);exact⟨p,by rw[hs _ d];exact f,by rw[hs _ d];exact g,by rw[hs _ d];exact j,k.but hn hs⟩
theorem Xo.but{w w':tB}{c:Nat}{v:tD}{p:GU}(h:Xo w v p)(hn:WO w c)(hs:xP w w' c):Xo w' v p:=by
 obtain⟨f,e,g,rfl,a,b,d⟩:=h;exact⟨f,e,g,rfl,a.but hn hs,b.but hn hs,d.but hn hs⟩
theorem Xo.agg{w:tB}{v:tD}{p:GU}(h:Xo w v p):∃sa sc ka kc va vc,v=tQ #[.bool p.empty,tF sa p.steps.length sc,tF ka p.pair.1.length kc,tF va p.pair.2.length vc]:=by
 obtain⟨e,d,f,rfl,a,b,c⟩:=h;obtain⟨sa,sc,rfl⟩:=a.shape;obtain⟨ka,kc,rfl⟩:=b.shape;obtain⟨va,vc,rfl⟩:=c.shape;exact⟨sa,sc,ka,kc,va,vc,rfl⟩
theorem yB{w:tB}{c b:Nat}(h:b≠c)(x y z u:tD):((((sH w ⟨c,0,tE⟩ x).setCell ⟨c,1,tE⟩ y).setCell ⟨c,2,tE⟩ z).setCell ⟨c,3,tE⟩ u).heap[b]?=w.heap[b]?:=by
 have one:∀(w:tB)(i:Nat)(u:tD),(sH w ⟨c,i,tE⟩ u).heap[b]?=w.heap[b]?:=fun w i u=>by simp only[sH,Array.getElem?_modify];rw[if_neg (by simpa using h.symm)]
 rw[one,one,one,one]
theorem zA{w:tB}{c:Nat}{x y z u:tD}{t:tR}(h:w.heap[c]?=tC (tN #[x,y,z,u] t)):sH w ⟨c,0,tE⟩ x=w∧sH w ⟨c,1,tE⟩ y=w∧sH w ⟨c,2,tE⟩ z=w∧sH w ⟨c,3,tE⟩ u=w:=by
 refine⟨?_,?_,?_,?_⟩;all_goals rw[setCell_eq_setRow w c _ _ _ _ _ h];exact setRow_self w c _ _ _ h
def bA:Prop:=∀(w:tB)(v r u:tD)(l:FL)(n k:List UInt8),ZX w v l->Qe w r n->Qe w u k->G2 l->n.length<=140737488355328->k.length<=140737488355328->Yf w->Calls tA 79 #[v,r,u] w fun e w'=>∃x y,e=tV (sK #[x,y,tI tK (Jm l n k)])∧ZI 0 w' x (JI l n k)∧ZI 0 w' y (JK l n k)∧tG w w' tE
def dC:Prop:=∀(w:tB)(v:tD)(l:FL),ZX w v l->G2 l->Yf w->Calls tA 78 #[v] w fun e w'=>∃x,e=tV (sK #[x,tI tK (Q7 l)])∧Yb w' x (Gi l)∧tG w w' tE
def kU:Prop:=∀(w:tB)(r m u o i:tD)(root n k:List UInt8)(p q:GU),Qe w r root->Qe w m n->Qe w u k->Xo w o p->Xo w i q->kL p->kL q->Yf w->Calls tA 9 #[r,m,u,o,i] w fun e w'=>∃x,e=tV (sK #[tQ #[.bool (Pz root n k p q),x],tI tK (Fq root n k p q)])∧Qe w' x (PZ root n k p q)∧tG w w' tE
def aP:Prop:=∀(w:tB)(r u v:tD)(root k:List UInt8)(p:GU),Qe w r root->Qe w u k->Xo w v p->kL p->Yf w->Calls tA 15 #[r,u,v] w fun e w'=>∃x,e=tV (sK #[tQ #[.bool (VE root k p),x],tI tK (UN root k p)])∧Qe w' x (qU root k p)∧tG w w' tE
theorem fK{root k:List UInt8}{p:GU}(h:root.length≠32):UN root k p=1∧VE root k p=false∧qU root k p=[]:=by
 have a:UN root k p=1:=by rw[UN,if_neg h]
 have b:VE root k p=false:=by rw[VE,a];rfl
 exact⟨a,b,by rw[qU,b,if_neg (by simp)]⟩
theorem gV{root k:List UInt8}{p:GU}(h:root.length=32)(hp:Yg k p≠0):UN root k p=Yg k p∧VE root k p=false∧qU root k p=[]:=by
 have a:UN root k p=Yg k p:=by rw[UN,if_pos h,if_neg hp]
 have b:VE root k p=false:=by rw[VE,a];simp[hp]
 exact⟨a,b,by rw[qU,b,if_neg (by simp)]⟩
theorem Oi{root k:List UInt8}{p:GU}(h:root.length=32)(hp:Yg k p=0)(hr:GP p≠root):UN root k p=8∧VE root k p=false∧qU root k p=[]:=by
 have a:UN root k p=8:=by rw[UN,if_pos h,if_pos hp,if_neg hr]
 have b:VE root k p=false:=by rw[VE,a];rfl
 exact⟨a,b,by rw[qU,b,if_neg (by simp)]⟩
theorem oU{root k:List UInt8}{p:GU}(h:root.length=32)(hp:Yg k p=0)(hr:GP p=root):UN root k p=0∧VE root k p=VH k p∧qU root k p=if VH k p=sN then p.pair.2 else[]:=by
 have a:UN root k p=0:=by rw[UN,if_pos h,if_pos hp,if_pos hr]
 have b:VE root k p=VH k p:=by rw[VE,a];rfl
 exact⟨a,b,by rw[qU,b]⟩
section
open Go.ChangeShapes Go.WideShapes Go.ChangeAt Go.RowKit
def Aq:List Int:=[1,32898,9223372036854808714,9223372039002292224,32907,2147483649,9223372039002292353,9223372036854808585,138,136,2147516425,2147483658,2147516555,9223372036854775947,9223372036854808713,9223372036854808579,9223372036854808578,9223372036854775936,32778,9223372039002259466,9223372039002292353,9223372036854808704,2147483649,9223372039002292232]
def Ar:List Int:=[10,7,11,17,18,3,5,16,8,21,24,4,15,23,19,13,12,2,20,14,22,9,6,1]
def EX:List Int:=[1,3,6,10,15,21,28,36,45,55,2,14,27,41,56,8,25,43,62,18,39,61,20,44]
def EZ:List Int:=[0,0,3,7,11,3,0,0,3]
def rS:List (String×DataW Unit):=[("canopy/digest.roundNumbers",sU .u64 Aq),("canopy/digest.laneWalk",sU tK Ar),("canopy/digest.laneTurns",sU tK EX),("canopy/wire.parts",sU .u8 EZ)]
theorem g0:tA.globalNamed "canopy/digest.roundNumbers"=tC 2:=by
 kernel_rfl
theorem g1:tA.globalNamed "canopy/digest.laneWalk"=tC 3:=by
 kernel_rfl
theorem g2:tA.globalNamed "canopy/digest.laneTurns"=tC 4:=by
 kernel_rfl
theorem r7:(tA.globals[2]?).map (·.type)=tC 170:=by
 kernel_rfl
theorem sE:(tA.globals[3]?).map (·.type)=tC 230:=by
 kernel_rfl
theorem sD:(tA.globals[4]?).map (·.type)=tC 230:=by
 kernel_rfl
theorem iD:tA.cellsOf 170=24:=by
 kernel_rfl
theorem Wt:tA.cellsOf 230=24:=by
 kernel_rfl
theorem lJ:tA.cellsOf 140=1:=by
 kernel_rfl
theorem e9:tA.cellsOf 3=1:=by
 kernel_rfl
theorem mQ(i:Nat)(h:i<24):Aq.getD i 0=U (JW.getD i 0):=(by
 decide+kernel:∀i:Fin 24,Aq.getD i.1 0=U (JW.getD i.1 0)) ⟨i,h⟩
theorem lD(i:Nat)(h:i<24):Ar.getD i 0=((JT.getD i 0:Nat):Int):=(by
 decide+kernel:∀i:Fin 24,Ar.getD i.1 0=((JT.getD i.1 0:Nat):Int)) ⟨i,h⟩
theorem dO(i:Nat)(h:i<24):EX.getD i 0=((Kv.getD i 0:Nat):Int):=(by
 decide+kernel:∀i:Fin 24,EX.getD i.1 0=((Kv.getD i.1 0:Nat):Int)) ⟨i,h⟩
theorem g3:tA.globalNamed "canopy/wire.parts"=tC 0:=by
 kernel_rfl
theorem sB:(tA.globals[0]?).map (·.type)=tC 91:=by
 kernel_rfl
theorem lM:tA.cellsOf 91=9:=by
 kernel_rfl
theorem lI:tA.cellsOf 5=1:=by
 kernel_rfl
theorem eY(i:Nat)(h:i<9):EZ.getD i 0=((ML i:Nat):Int):=(by
 decide+kernel:∀i:Fin 9,EZ.getD i.1 0=((ML i.1:Nat):Int)) ⟨i,h⟩
theorem Ie{W:tB}(h:laidMet tA rS W):UA W∧Yf W:=by
 obtain⟨R,⟨B,F,t,J,N,S,f,l,p,b,⟨C,G,u,K,O,T,g,m,q,c,⟨D,H,v,L,P,U,j,n,r,d,⟨E,I,w,M,Q,V,k,o,s,e,_,_⟩,_⟩,_⟩,_⟩,_⟩:=h;obtain rfl:=tM (g0.symm.trans f);obtain rfl:=tM (g1.symm.trans g);obtain rfl:=tM (g2.symm.trans j);obtain rfl:=tM (g3.symm.trans k);obtain rfl:=tM (r7.symm.trans l);obtain rfl:=tM (sE.symm.trans m);obtain rfl:=tM (sD.symm.trans n);obtain rfl:=tM (sB.symm.trans o);have x:tU tA W "canopy/digest.roundNumbers" .u64 Aq:=by unfold tU;rw[p,<-tZ Tryz.underlying170 Tryz.underlying140 lJ iD b]
 have y:tU tA W "canopy/digest.laneWalk" tK Ar:=by unfold tU;rw[q,<-tZ Tryz.underlying230 tH e9 Wt c]
 have z:tU tA W "canopy/digest.laneTurns" tK EX:=by unfold tU;rw[r,<-tZ Tryz.underlying230 tH e9 Wt d]
 have A:tU tA W "canopy/wire.parts" .u8 EZ:=by unfold tU;rw[s,<-tZ Tryz.underlying91 Tryz.underlying5 lI lM e]
 refine⟨fun i a=>by rw[A.cell g3 i a,eY i a],fun i a=>?_,fun i a=>?_,fun i a=>?_⟩;·rw[x.cell g0 i a,mQ i a]
 ·rw[y.cell g1 i a,lD i a]
 ·rw[z.cell g2 i a,dO i a]
def Cy(cs:Array tD):Obj->Obj|tN _ t frozen=>tN cs t frozen|o=>o
def Fv(W:tB):tB:={W with heap:=(((W.heap.modify 2 (Cy (Aq.map fun z=>tI .u64 z).toArray)).modify 3 (Cy (Ar.map fun z=>tI tK z).toArray)).modify 4 (Cy (EX.map fun z=>tI tK z).toArray)).modify 0 (Cy (EZ.map fun z=>tI .u8 z).toArray)}
end
section
open Go.ChangeShapes Go.WideShapes Go.ChangeAt Go.RowKit Go.Deep Go.Joins
instance:Inhabited Gr:=⟨vP⟩
theorem mR:tA.cellsOf 3=1:=by
 kernel_rfl
theorem HG{H:Type}{enc:tR×tD->H}{W:tB}{hd:Bool}{fuel:Nat}{a:Option Addr}{n cap:Nat}{x:DataW H×List MemPlace}{t e:tR}{f0 f1 f2 f3 f4:Field}(ht:tA.underlying t=tC (.slice e))(he:tA.underlying e=tC (.struct #[f0,f1,f2,f3,f4]))(ce:tA.cellsOf e=5)(o0:f0.offset=0)(o1:f1.offset=1)(o2:f2.offset=2)(o3:f3.offset=3)(o4:f4.offset=4)(t0:f0.type=3)(t1:f1.type=3)(t2:f2.type=3)(t3:f3.type=3)(t4:f4.type=3)(h:tY enc tA W 0 (fun _=>sN) hd fuel t [tF a n cap]=tC x):∃l:List Gr,UV W (tF a n cap) l∧Sa l:=by
 rcases open_slice ht h with⟨j,_⟩|⟨y,len,c,m,k,D,Pl,j,hb,hl,hm,J,hx,s⟩;·simp at j;obtain⟨rfl,rfl,rfl⟩:=j;exact⟨[],⟨tE,0,rfl,Nat.le_refl _,.inl rfl⟩,fun g G=>by cases G⟩
 ·simp at j;obtain⟨rfl,rfl,rfl⟩:=j;(have I:m=cap:=by simpa using J);subst I;(have each:∀i,i<m->∃q:Gr,(W.cell? (y.add (i*5))=tC (tI tK q.kind)∧W.cell? (y.add (i*5+1))=tC (tI tK q.sess)∧W.cell? (y.add (i*5+2))=tC (tI tK q.name)∧W.cell? (y.add (i*5+3))=tC (tI tK q.key)∧W.cell? (y.add (i*5+4))=tC (tI tK q.value))∧yV q:=by intro i p;obtain⟨F,g1,g2⟩:=s i p;rw[ce]at g1;obtain⟨_,d,f⟩:=World.cells?_some g1;obtain⟨xs,k',hk,aa,_,L,u⟩:=DataW.trod_struct he g2;match xs,L,F,d with|[y0,y1,y2,y3,y4],_,[v0,v1,v2,v3,v4],_=>have M:=u 0 f0 rfl;have N:=u 1 f1 rfl;have O:=u 2 f2 rfl;have P:=u 3 f3 rfl;have Q:=u 4 f4 rfl;rw[t0]at M;rw[t1]at N;rw[t2]at O;rw[t3]at P;rw[t4]at Q;simp[o0,o1,o2,o3,o4,mR]at M N O P Q;have R:=f 0 (by omega);have S:=f 1 (by omega);have T:=f 2 (by omega);have U:=f 3 (by omega);have V:=f 4 (by omega);rw[add_add]at R S T U V;obtain⟨z0,w,ab,w0⟩:=tJ tH M;obtain⟨z1,A,ac,w1⟩:=tJ tH N;obtain⟨z2,B,ad,w2⟩:=tJ tH O;obtain⟨z3,C,ae,w3⟩:=tJ tH P;obtain⟨z4,E,af,w4⟩:=tJ tH Q;simp at w A B C E;subst w A B C E;exact⟨⟨z0,z1,z2,z3,z4⟩,⟨by simpa using R,by simpa using S,by simpa using T,by simpa using U,by simpa using V⟩,⟨Jf w0,Jf w1,Jf w2,Jf w3,Jf w4⟩⟩);obtain⟨q,K⟩:=choose_lt each;(have d:((sW n).map fun i=>q i).length=n:=by simp);(have v:∀i,i<n->((sW n).map fun i=>q i).getD i vP=q i:=by intro i p;simp[p]);refine⟨(sW n).map fun i=>q i,⟨_,m,by rw[d],by omega,?_⟩,?_⟩;(·by_cases Z:n=0;(·left;subst Z;rfl);·right;obtain⟨b,o,Y⟩:=y;have r:=(K 0 (by omega)).1.1;(obtain rfl:Y=tE:=by cases Y with|none=>rfl|some z=>simp[Addr.add,sJ]at r;split at r<;>simp at r);refine⟨b,o,rfl,fun i p=>?_⟩;rw[d]at p;obtain⟨⟨g0,g1,g2,g3,X⟩,_⟩:=K i (by omega);rw[Xc]at g0 g1 g2 g3 X;rw[v i p];exact⟨g0,g1,g2,g3,X⟩);·intro g G;obtain⟨i,p,rfl⟩:=List.mem_map.1 G;exact(K i (by have:=List.mem_range.1 p;omega)).2
end
section
open Go.ChangeShapes Go.WideShapes Go.ChangeAt Go.RowKit Go.Deep Go.Joins
theorem lA{α:Type}{cs:Array α}(h:cs.size=5):∃c0 c1 c2 c3 c4,cs=#[c0,c1,c2,c3,c4]:=by
 obtain⟨l⟩:=cs;match l,h with|[c0,c1,c2,c3,c4],_=>exact⟨c0,c1,c2,c3,c4,rfl⟩
theorem aO{H:Type}{enc:tR×tD->H}{W:tB}{hd:Bool}{r:Reach}{b0:Nat}{v:tD}{d:DataW H}{p:List MemPlace}{t:tR}{f0 f1 f2 f3 f4:Field}(hs:tA.underlying t=tC (.struct #[f0,f1,f2,f3,f4]))(hone:oneCellFields tA #[f0,f1,f2,f3,f4]=sN)(hC:tA.cellsOf t=5)(t0:f0.type=3)(t1:f1.type=3)(t2:f2.type=3)(t3:f3.type=3)(t4:f4.type=3)(hv:Value.okWide tA W r b0 t v)(h:DataW.Trod enc tA W 0 (fun _=>sN) hd t v d p):∃q:Gr,v=tQ #[tI tK q.kind,tI tK q.sess,tI tK q.name,tI tK q.key,tI tK q.value]∧yV q:=by
 obtain⟨cs,rfl,c⟩:=okWide_struct hs hv;obtain⟨J,K,L,M,N,rfl⟩:=lA (c.trans hC);obtain⟨k,x⟩:=h;obtain⟨T,n,_,hx,hl,b,a⟩:=DataW.trod_struct hs x;obtain⟨D,y⟩:=hone_of hone 0 f0 rfl;obtain⟨E,z⟩:=hone_of hone 1 f1 rfl;obtain⟨F,A⟩:=hone_of hone 2 f2 rfl;obtain⟨G,B⟩:=hone_of hone 3 f3 rfl;obtain⟨I,C⟩:=hone_of hone 4 f4 rfl;match T,b with|[y0,y1,y2,y3,y4],_=>have m:=a 0 f0 rfl;have o:=a 1 f1 rfl;have s:=a 2 f2 rfl;have u:=a 3 f3 rfl;have w:=a 4 f4 rfl;(have g0:tY enc tA W 0 (fun _=>sN) hd n f0.type [J]=tC y0:=by simpa[sL,D,y]using m);rw[t0]at g0;obtain⟨U,e,_,O⟩:=tJ tH g0;(have g1:tY enc tA W 0 (fun _=>sN) hd n f1.type [K]=tC y1:=by simpa[sL,E,z]using o);rw[t1]at g1;obtain⟨V,f,_,P⟩:=tJ tH g1;(have g2:tY enc tA W 0 (fun _=>sN) hd n f2.type [L]=tC y2:=by simpa[sL,F,A]using s);rw[t2]at g2;obtain⟨X,g,_,Q⟩:=tJ tH g2;(have g3:tY enc tA W 0 (fun _=>sN) hd n f3.type [M]=tC y3:=by simpa[sL,G,B]using u);rw[t3]at g3;obtain⟨Y,i,_,R⟩:=tJ tH g3;(have l:tY enc tA W 0 (fun _=>sN) hd n f4.type [N]=tC y4:=by simpa[sL,I,C]using w);rw[t4]at l;obtain⟨Z,j,_,S⟩:=tJ tH l;simp at e f g i j;subst e f g i j;exact⟨⟨U,V,X,Y,Z⟩,rfl,⟨Jf O,Jf P,Jf Q,Jf R,Jf S⟩⟩
end
theorem RS{l:PL}(hT:Zd l)(k:List UInt8):kL (Xb l k):=by
 unfold Xb;by_cases h:l.length=0;·rw[if_pos h];exact⟨by simp,fun i a=>by simp at a,by simp,by simp⟩
 ·rw[if_neg h];have b:=hT.room;have c:=IW k hT (by omega);have d:=hT.pairs _ (Rt k hT (by omega));refine⟨by simp;omega,fun i a=>?_,by simp;omega,by simp;omega⟩;obtain⟨g1,g2,_⟩:=Dh k hT (by omega) i a;show(-9223372036854775808<=((Xr l k).getD i QT).bit∧((Xr l k).getD i QT).bit<=9223372036854775807)∧((Xr l k).getD i QT).other.length<=140737488355328;omega
theorem kU.at(hV:kU)(w:tB)(r m u o i:tD)(f:FL)(n k:List UInt8)(hF:Zb f)(hn:1<=n.length∧n.length<=8)(hk:1<=k.length∧k.length<=16)(hr:Qe w r (Zs (Ze f)))(hm:Qe w m n)(hu:Qe w u k)(ho:Xo w o (Xb (Ze f) n))(hi:Xo w i (Xb (Xw f n) k))(ht:Yf w):Calls tA 9 #[r,m,u,o,i] w fun e w'=>∃xa xc,e=tV (sK #[tQ #[.bool (Yx (Xw f n) k).isSome,tF xa ((Yx (Xw f n) k).getD []).length xc],tI tK 0])∧Qe w' (tF xa ((Yx (Xw f n) k).getD []).length xc) ((Yx (Xw f n) k).getD [])∧tG w w' tE:=by
 obtain⟨b,c,d⟩:=Cm hF n k hn hk _ rfl;refine(hV w r m u o i _ n k _ _ hr hm hu ho hi (RS (xQ hF) n) (RS (Jn hF n) k) ht).mono ?_;rintro e w'⟨x,rfl,a,g⟩;rw[d]at a;obtain⟨xa,xc,rfl⟩:=a.shape;rw[b,c];exact⟨xa,xc,rfl,a,g⟩
def gN:Prop:=∀(w:tB)(v:tD)(t:GK),Uj w v t->jU t->Yf w->Calls tA 63 #[v] w fun e w'=>∃vs x,e=tV (sK #[vs,x,tI tK (Ma t)])∧Jl w.heap.size w' vs (kC Qu t)∧YH w' x (yY Qu t)∧tG w w' tE
end Go.Proofs.YtcieibjgedmdlaaGreatDoor
