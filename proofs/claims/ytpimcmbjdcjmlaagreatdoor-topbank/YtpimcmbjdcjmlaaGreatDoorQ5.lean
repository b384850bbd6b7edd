/-
  Texts of this proof, joined, with few blanks: AcApp, TenRow, ProofBut, Frame11, FrameG.
-/
import Derived.Laws.AppendOwnNone
import Derived.Laws.CopyRow
import Derived.Lib.AppendZerosOnto
import Derived.Lib.SliceRun
import Derived.Lib.LaidTab
import Derived.Test.YtpimcmbjdcjmlaaGreatDoorCards
import Derived.Test.YtpimcmbjdcjmlaaGreatDoorTie
import Derived.Test.YtpimcmbjdcjmlaaGreatDoorQ3
import Derived.Deep.SlicePairs
import Derived.Lib.SmallJoins
set_option maxRecDepth 100000
set_option maxHeartbeats 8000000
open Go renaming World->tC,Value->tH,TypeId->tQ,info_parts->tY,maxLen->sB,Addr->sC,Oper->sR,Operand->sS
open Go.Builtin renaming append_->tI,clear_->tT,zeroCells->tW,lenOf->sA,firstCells->sE,copy_->sN
open Go.DataW renaming trod_int->tM,trod->sQ
open Go.Lib renaming TabIs->tL,cells_of_tab->tS,tabData->tZ
open Go.Obj renaming cells->tV
open Go.Proofs.Tryz renaming prog->tA,underlying3->tG,underlying247->sH,underlying40->sI
open Go.Value renaming slice->tD,int->tN,agg->tX
open Go.World renaming grownBy->tP,setCell->tU,cell?->sD
open List renaming length_map->tJ,eq_nil_of_length_eq_zero->tK,range->sF,getElem?_take->sG,flatMap_cons->sJ,mem_flatMap->sK,not_mem_nil->sL,cons_append->sM,nil_append->sO,mem_cons->sP
open Option renaming some->tB,none->tE
open Option.some renaming inj->tF
namespace Go.Proofs.YtpimcmbjdcjmlaaGreatDoor
open Go.RowKit
theorem Ea{w:tC}{o:sR}{a:Act}{K:Act->tC->Prop}{Q:Exit->Act->tC->Prop}(s x:sS)(ho:o.op=.call {callee:=.builtin .append,args:=#[s,x],argTypes:=#[40,40]})(rb:Nat)(v:tH)(l:List Ac)(hs:a.eval s=v)(hown:UQ rb w v l)(ad:sC)(cap:Nat)(us:List AV)(hx:a.eval x=tD (tB ad) us.length cap)(hc:∀j u,(Jk us)[j]?=tB u->w.cell? (ad.add j)=tB u)(hpt:∀y∈us,Qg 0 w y.2 y.1.data)(h0:0<us.length)(hl:(l.length+us.length)*48<=140737488355328)(hbase:rb<=w.heap.size)(h:∀v' w',UQ rb w' v' (l++us.map (·.1))->tP w w' v.ownBlock->(∀g,v'.ownBlock=tB g->v.ownBlock=tB g∨w.heap.size<=g)->K (a.put o.dst v') w'):o.wp tA a w K Q:=by
 obtain⟨F,B,n,q,r⟩:=tY Mx;have b:v.ownBlock=tE∨∃g c t i,v.ownBlock=tB g∧0<=g∧w.heap[g]?=tB (tV c t i)∧t≠5:=by rcases hown.row with h|⟨g,c,i,e,_,h⟩;(·exact .inl h);·exact .inr ⟨g,c,_,i,e,Nat.zero_le _,h,iO⟩
 obtain⟨A,m,D,C⟩:=hown;refine wp_append_lies w s x 40 ho rb 42 F (tX #[tN .i64 0,tN .i64 0,tN .i64 0,tD tE 0 0]) 4 48 sI B n q r rfl (by decide) v l.length (Jk A) hs D ad us.length cap (Jk us) hx (yU us) hc ?_ h0 (by unfold sB;omega) hl hbase _ rfl ?_;·intro u E;obtain⟨p,k,d⟩:=sK.1 E;have:=hpt p k;simp only[sP,sL,or_false]at d;rcases d with rfl|rfl|rfl|rfl;(·rfl);(·rfl);(·rfl);·exact ZH this
 ·intro g cap w' G z H _;refine h _ w' ⟨A++us,by simp[m],?_,?_⟩ z (fun I e=>by cases e;exact H.imp id (fun e=>by show w.heap.size<=g;omega));(·rw[Mp,List.length_append,tJ];exact G);·intro y f;rcases List.mem_append.1 f with f|f;(·exact(C y f).keptT z b);·exact(hpt y f).keptT z b
theorem Vc{P:Program}{w:tC}(base:Nat)(t ty e:tQ)(i:TypeInfo)(size:Nat)(ht:P.underlying t=tB (.slice e))(hi:P.info? e=tB i)(v:tH)(n:Nat)(xs:List tH)(hown:w.ownsRow base e size v n xs)(ad:Option sC)(c:Nat):(tI #[t,t] ty #[v,tD ad 0 c]).run P w=.ok v w:=by
 rcases hown.2with⟨rfl,rfl⟩|⟨g,cap,b,rfl,_,_,a,_⟩;·cases ad<;>simp[tI,run_underlying ht,sizeOf,typeInfo,hi,sA,sE,loadCells,loadCellsFrom]
 ·cases ad<;>simp[tI,run_underlying ht,sizeOf,typeInfo,hi,sA,sE,loadCells,loadCellsFrom,a,storeCells]
theorem jX{w:tC}{o:sR}{a:Act}{K:Act->tC->Prop}{Q:Exit->Act->tC->Prop}(s x:sS)(ho:o.op=.call {callee:=.builtin .append,args:=#[s,x],argTypes:=#[40,40]})(rb:Nat)(v:tH)(l:List Ac)(hs:a.eval s=v)(hown:UQ rb w v l)(r2:Nat)(u:tH)(m:List Ac)(hx:a.eval x=u)(hsrc:UQ r2 w u m)(hl:(l.length+m.length)*48<=140737488355328)(hbase:rb<=w.heap.size)(h:∀v' w',UQ rb w' v' (l++m)->tP w w' v.ownBlock->(∀g,v'.ownBlock=tB g->v.ownBlock=tB g∨w.heap.size<=g)->K (a.put o.dst v') w'):o.wp tA a w K Q:=by
 by_cases p:m.length=0;·obtain⟨J,L,rfl⟩:=hsrc.shape;obtain⟨I,D,F,G,H⟩:=tY Mx;obtain⟨A,b,f,r⟩:=hown;have i:=Vc (P:=tA) rb 40 o.type 42 I 4 sI D v l.length (Jk A) f J L;rw[p]at hx;unfold Oper.wp;simp[execOp,ho,resolve,invoke,builtin,hs,hx,i,Result.andThen];refine h v w ?_ ⟨rfl,rfl,rfl,Nat.le_refl _,fun _ _ _=>rfl⟩ (fun _ e=>.inl e);rw[tK p,List.append_nil];exact⟨A,b,f,r⟩
 ·obtain⟨k,b,f,r⟩:=hsrc;(have c:k.length=m.length:=by rw[<-b];simp);rcases f.2with⟨_,e⟩|⟨g,cap,n,rfl,M,C,O,N,B,E⟩;(·exact absurd e p);·(have d:∀j y,(Jk k)[j]?=tB y->w.cell? ((⟨g,0,tE⟩:sC).add j)=tB y:=by intro j y z;(have q:j<m.length*4:=by have:=(List.getElem?_eq_some_iff.1 z).1;rw[f.1]at this;exact this);(have t:(n.toList.take (m.length*4))[j]?=(Jk k)[j]?:=by rw[E]);rw[sG,if_pos q,z]at t;rw[Z6,Nat.zero_add];simp[sD,C];simpa using t);refine Ea s x ho rb v l hs hown ⟨g,0,tE⟩ cap k (by rw[hx,c]) d r (by omega) (by rw[c];exact hl) hbase ?_;rw[b];exact h
theorem vV{w:tC}{ops:Array sR}{rest:List sR}{o:sR}{a:Act}{Q:Exit->Act->tC->Prop}(hgd:o.guard=tE)(s x:sS)(ho:o.op=.call {callee:=.builtin .append,args:=#[s,x],argTypes:=#[40,40]})(rb:Nat)(v:tH)(l:List Ac)(hs:a.eval s=v)(hown:UQ rb w v l)(r2:Nat)(u:tH)(m:List Ac)(hx:a.eval x=u)(hsrc:UQ r2 w u m)(hl:(l.length+m.length)*48<=140737488355328)(hbase:rb<=w.heap.size)(h:∀v' w',UQ rb w' v' (l++m)->tP w w' v.ownBlock->(∀g,v'.ownBlock=tB g->v.ownBlock=tB g∨w.heap.size<=g)->wpList tA ops Q rest (a.put o.dst v') w'):wpList tA ops Q (o::rest) a w:=wpList_plain hgd fun _ e=>jX s x ho rb v l hs hown r2 u m hx hsrc hl hbase fun v' w' b c d=>e _ _ (h v' w' b c d)
theorem DI{w:tC}(rb:Nat)(nb:Nat)(us:List AV)(hb:w.heap[nb]?=tB (tV ⟨Jk us⟩ 42))(hr:rb<=nb)(hl:us.length<=1000)(hpt:∀y∈us,Qg 0 w y.2 y.1.data):UQ rb w (tD (tB ⟨nb,0,tE⟩) us.length us.length) (us.map (·.1)):=by
 refine⟨us,rfl,⟨by rw[tJ,yU],.inr ⟨nb,us.length,⟨Jk us⟩,by rw[tJ],hr,hb,by rw[tJ];omega,by unfold sB;omega,by simp[yU],?_⟩⟩,hpt⟩;rw[tJ,List.take_of_length_le (by simp[yU])]
abbrev VP:=tH×tH
def Y1(w:tC)(g:Nat)(all:List VP):Prop:=w.heap[g]?=tB (tV (flat all).toArray 55 (0,0))
def JG(w:tC)(g:Nat)(all:List VP):tC:=w.setRow g (flat all).toArray
theorem Y1.set{w:tC}{g:Nat}{all:List VP}(h:Y1 w g all)(all':List VP):Y1 (JG w g all') g all':=setRow_heap w g _ _ _ _ h
theorem Hp{w:tC}{g:Nat}{all:List VP}(h:Y1 w g all):JG w g all=w:=setRow_self w g _ _ _ h
theorem Y1.lt{w:tC}{g:Nat}{all:List VP}(h:Y1 w g all):g<w.heap.size:=(Array.getElem?_eq_some_iff.1 h).1
theorem Y1.drew{w:tC}{g:Nat}{all:List VP}(h:Y1 w g all):Y1 w.drew g all:=h
theorem KN(w:tC)(g:Nat)(all:List VP):tP w (JG w g all) (tB g):=⟨rfl,rfl,rfl,by
 simp[JG,World.setRow],fun k _ a=>setRow_other w g k _ (fun e=>a (by
 rw[e]))⟩
theorem Yk{w w1 w2:tC}{r:Option Nat}(h1:tP w w1 r)(h2:tP w1 w2 r):tP w w2 r:=⟨h2.os.trans h1.os,h2.tape.trans h1.tape,h2.output.trans h1.output,Nat.le_trans h1.size h2.size,fun k a b=>(h2.block k (Nat.lt_of_lt_of_le a h1.size) b).trans (h1.block k a b)⟩
theorem XS{w w1:tC}{r:Option Nat}(h1:tP w w1 tE):tP w w1 r:=⟨h1.os,h1.tape,h1.output,h1.size,fun k hk _=>h1.block k hk (by
 simp)⟩
theorem yR:∀(n:Nat)(cs:List tH),cs.length=n*2->∃vs:List VP,vs.length=n∧flat vs=cs|0,cs,h=>⟨[],rfl,by rw[tK (by omega:cs.length=0)];rfl⟩|n+1,[],h=>by simp at h|n+1,[_],h=>by simp at h;omega|n+1,a::b::r,h=>by obtain⟨vs,d,c⟩:=yR n r (by simp at h;omega);exact⟨(a,b)::vs,by simp[d],by simp only[flat,sJ,sM,sO]at c⊢;rw[c]⟩
theorem D8:∀(a b:List VP),flat a=flat b->a=b|[],[],_=>rfl|[],x::r,h=>by simp[flat]at h|x::r,[],h=>by simp[flat]at h|x::r,y::s,h=>by simp only[flat,sJ,sM,sO,List.cons.injEq]at h;obtain⟨c,d,e⟩:=h;rw[D8 r s e,Prod.ext c d]
def Ei(l:List VP):Prop:=∀x∈l,x.1.oneCell'=true∧x.2.oneCell'=true
theorem Ei.flat{l:List VP}(h:Ei l):∀u∈flat l,u.oneCell'=true:=by
 intro u a;simp only[Go.Proofs.YtpimcmbjdcjmlaaGreatDoor.flat,sK,sP,sL,or_false]at a;obtain⟨x,b,rfl|rfl⟩:=a;·exact(h x b).1
 ·exact(h x b).2
def gQ(base:Nat)(w:tC)(x:VP)(t:Tn):Prop:=Qg base w x.1 t.1∧QJ base w x.2 t.2
def gS:VP:=(undef,undef)
def YS(base:Nat)(w:tC)(vs:List VP)(l:FL):Prop:=vs.length=l.length∧∀i,i<l.length->gQ base w (vs.getD i gS) (l.getD i ([],[]))
theorem YS.take{base:Nat}{w:tC}{vs:List VP}{l:FL}(h:YS base w vs l)(n:Nat):YS base w (vs.take n) (l.take n):=by
 refine⟨by simp[h.1],fun i b=>?_⟩;have a:i<n∧i<l.length:=by simp at b;omega
 have:=h.2 i a.2;rwa[show(vs.take n).getD i gS=vs.getD i gS by simp[a.1],show(l.take n).getD i ([],[])=l.getD i ([],[])by simp[a.1]]
theorem YS.drop{base:Nat}{w:tC}{vs:List VP}{l:FL}(h:YS base w vs l)(n:Nat):YS base w (vs.drop n) (l.drop n):=by
 refine⟨by simp[h.1],fun i b=>?_⟩;have a:n+i<l.length:=by simp at b;omega
 have:=h.2 (n+i) a;rwa[show(vs.drop n).getD i gS=vs.getD (n+i) gS by simp,show(l.drop n).getD i ([],[])=l.getD (n+i) ([],[])by simp]
theorem YS.append{base:Nat}{w:tC}{vs us:List VP}{l m:FL}(h:YS base w vs l)(h2:YS base w us m):YS base w (vs++us) (l++m):=by
 refine⟨by simp[h.1,h2.1],fun i b=>?_⟩;rw[Ji,Ji,h.1];by_cases a:i<l.length;·rw[if_pos a,if_pos a];exact h.2 i a
 ·rw[if_neg a,if_neg a];exact h2.2 _ (by simp at b;omega)
theorem YS.one{base:Nat}{w:tC}{x:VP}{t:Tn}(h:gQ base w x t):YS base w [x] [t]:=⟨rfl,fun i a=>by
 obtain rfl:i=0:=by simpa using a
 exact h⟩
theorem YS.kept{base:Nat}{w w':tC}{vs:List VP}{l:FL}(h:YS base w vs l){row:Option Nat}(hg:tP w w' row)(hrow:row=tE∨∃g cur t fz,row=tB g∧base<=g∧w.heap[g]?=tB (tV cur t fz)∧t≠5∧t≠35):YS base w' vs l:=⟨h.1,fun i a=>⟨((h.2 i a).1).keptT hg (gL hrow),((h.2 i a).2).kept hg hrow⟩⟩
theorem YS.oneV{base:Nat}{w:tC}{vs:List VP}{l:FL}(h:YS base w vs l):Ei vs:=by
 intro x b;obtain⟨i,a,rfl⟩:=List.mem_iff_getElem.1 b;have:=h.2 i (by rw[<-h.1];exact a);rw[show vs.getD i gS=vs[i]by simp[a]]at this;exact⟨ZH this.1,yH this.2⟩
theorem Y1.rowOf{base:Nat}{w:tC}{g:Nat}{all:List VP}(h:Y1 w g all)(hb:base<=g):(tB g:Option Nat)=tE∨∃g' cur t fz,(tB g:Option Nat)=tB g'∧base<=g'∧w.heap[g']?=tB (tV cur t fz)∧t≠5∧t≠35:=.inr ⟨g,_,_,_,rfl,hb,h,eS,eO⟩
theorem Y1.cells{w:tC}{g:Nat}{all:List VP}(h:Y1 w g all)(p:Nat):∀j u,(flat (all.drop p))[j]?=tB u->w.cell? ((⟨g,p*2,tE⟩:sC).add j)=tB u:=by
 intro j u a;rw[Ew,List.getElem?_drop]at a;rw[Z6];have:=h;unfold Y1 at this;simp[sD,this];exact a
theorem Y1.cellsT{w:tC}{g:Nat}{all:List VP}(h:Y1 w g all)(p n:Nat):∀j u,(flat ((all.drop p).take n))[j]?=tB u->w.cell? ((⟨g,p*2,tE⟩:sC).add j)=tB u:=by
 intro j u a;refine h.cells p j u ?_;rw[jE,sG]at a;split at a;·exact a
 ·cases a
theorem vL{base:Nat}{w:tC}{g:Nat}{all:List VP}{l:FL}(h:Y1 w g all)(hb:base<=g)(hl:l.length<=all.length)(hm:all.length<=sB)(he:YS 0 w (all.take l.length) l):Zx base w (tD (tB ⟨g,0,tE⟩) l.length all.length) l:=by
 refine⟨all.take l.length,he.1,⟨by rw[Kt,he.1],.inr ⟨g,all.length,_,rfl,hb,h,hl,hm,by simp[Kt],?_⟩⟩,fun i a=>he.2 i a⟩;rw[jE]
theorem Zx.elim{base:Nat}{w:tC}{v:tH}{l:FL}(h:Zx base w v l):(v=tD tE 0 0∧l=[])∨∃g all,v=tD (tB ⟨g,0,tE⟩) l.length (List.length all)∧Y1 w g all∧base<=g∧l.length<=all.length∧all.length<=sB∧YS 0 w (all.take l.length) l:=by
 obtain⟨s,o,p,d⟩:=h;rcases p.2with⟨rfl,c⟩|⟨g,cap,a,rfl,j,m,u,t,q,r⟩;·exact .inl ⟨rfl,tK c⟩
 ·obtain⟨all,f,k⟩:=yR cap a.toList (by simpa using q);(have b:a=(flat all).toArray:=by rw[k]);subst b;have e:all.take l.length=s:=D8 _ _ (by rw[jE];simpa using r);exact .inr ⟨g,all,by rw[f],m,j,by omega,by omega,by rw[e];exact⟨o,fun i n=>d i n⟩⟩
theorem G4:tA.underlying 44=tB (.slice 55):=Tryz.underlying44
theorem F8(all news:List VP)(o:Nat):(((flat all).toArray.toList.take (o*2)++flat news++(flat all).toArray.toList.drop (o*2+(flat news).length)).toArray)=(flat (all.take o++news++all.drop (o+news.length))).toArray:=by
 rw[JR,JR,jE,Ew,Kt,show(o+news.length)*2=o*2+news.length*2by omega]
theorem VD(w:tC)(g:Nat)(all news:List VP)(hb:Y1 w g all)(ty:tQ)(o dLen dCap:Nat)(a:sC)(sLen sCap:Nat)(hn:news.length=Nat.min sLen dLen)(hsrc:∀j v,(flat news)[j]?=tB v->w.cell? (a.add j)=tB v)(hfit:o+news.length<=all.length)(h1:Ei news):(sN #[44,44] ty #[tD (tB ⟨g,o*2,tE⟩) dLen dCap,tD (tB a) sLen sCap]).run tA w=.ok (goInt news.length) (JG w g (all.take o++news++all.drop (o+news.length))):=by
 obtain⟨k,f,h,d,i⟩:=tY FP;have e:=run_firstCells_some (P:=tA) w 2 news.length a sLen sCap (flat news) (Kt _) hsrc;have b:=run_storeCells_at tA g (o*2) _ (flat news) 0 _ w hb (by simp[Kt];omega) h1.flat;simp only[Nat.add_zero]at b;rw[F8]at b;have c:sLen.min dLen=news.length:=hn.symm;simp[sN,run_underlying G4,sA,sizeOf,typeInfo,f,d,c,e,b,JG]
theorem PS(w:tC)(g:Nat)(all news:List VP)(hb:Y1 w g all)(ty:tQ)(n:Nat)(a:sC)(m c:Nat)(hn:news.length=m)(hsrc:∀j v,(flat news)[j]?=tB v->w.cell? (a.add j)=tB v)(hfit:n+m<=all.length)(h1:Ei news):(tI #[44,44] ty #[tD (tB ⟨g,0,tE⟩) n all.length,tD (tB a) m c]).run tA w=.ok (tD (tB ⟨g,0,tE⟩) (n+m) all.length) (JG w g (all.take n++news++all.drop (n+m))):=by
 obtain⟨h,d,e,b,f⟩:=tY FP;have:=run_append_room (P:=tA) w 44 ty 55 h G4 d g n all.length _ hb a m c (flat news) (by rw[Kt,b,hn]) hsrc h1.flat hfit (by rw[b];simp[Kt];omega);rw[this,b,F8,hn];rfl
def EI:VP:=(tD tE 0 0,tD tE 0 0)
theorem cP(w:tC):(zeroValue 55).run tA w=.ok (tX #[tD tE 0 0,tD tE 0 0]) w:=by
 kernel_rfl
theorem Sg(w:tC)(g:Nat)(all:List VP)(hb:Y1 w g all)(ty:tQ)(o c:Nat)(hfit:o<all.length):(tT #[44] ty #[tD (tB ⟨g,o*2,tE⟩) 1 c]).run tA w=.ok (.tuple #[]) (JG w g (all.take o++[EI]++all.drop (o+1))):=by
 have a:=run_storeCells_at tA g (o*2) _ (flat [EI]) 0 _ w hb (by simp[Kt];omega) (by intro u b;simp[flat,EI]at b;rw[b];rfl);simp only[Nat.add_zero]at a;rw[F8]at a;have d:(tW (tX #[tD tE 0 0,tD tE 0 0]).cells 1).toList=flat [EI]:=by kernel_rfl
 simp only[tT,List.getElem?_toArray,List.getElem?_cons_zero,Sem.run_bind,run_underlying G4,Result.andThen_ok,cP,d,a,Sem.run_pure];rfl
theorem C9(w:tC)(ty:tQ)(a:Option sC)(c:Nat):(tT #[44] ty #[tD a 0 c]).run tA w=.ok (.tuple #[]) w:=by
 cases a<;>simp[tT,run_underlying G4]
theorem C3(w:tC)(g:Nat)(all:List VP)(hb:Y1 w g all)(ty:tQ)(n k:Nat)(hk:0<k)(hn:n<=all.length)(hg:all.length<n+k)(hl:n+k<=1000):∃rest:List VP,k<=rest.length∧n+rest.length<=sB∧(tI #[44,3] ty #[tD (tB ⟨g,0,tE⟩) n all.length,tN .i64 k]).run tA w=.ok (tD (tB ⟨w.heap.size,0,tE⟩) (n+k) (n+rest.length)) (w.drew.alloc (tV (flat (all.take n++rest)).toArray 55)):=by
 obtain⟨l,h,c,d,b⟩:=tY FP;have a:=run_firstCells_some (P:=tA) w.drew 2 n ⟨g,0,tE⟩ n all.length (flat (all.take n)) (by rw[Kt];simp;omega) (by have:=hb.drew.cellsT 0 n;simpa using this);rw[<-d]at a;have j:=Lib.run_append_grow_zeros (P:=tA) w 44 3 ty 55 l _ .i64 .i64 G4 (by kernel_rfl) h c (tB ⟨g,0,tE⟩) n all.length (flat (all.take n)) a k hk (by omega) hg (by omega) (by rw[b];omega) (by rw[b];exact growslice_fits hg (by omega));have f:=grownCap_ge w (n+k) all.length 55;have i:=grownCap_le_maxLen w (n+k) all.length 55 (by unfold sB;omega);generalize grownCap w (n+k) all.length 55=G at*;obtain⟨rest,m,o⟩:=yR (G-n) (tW (tX #[tD tE 0 0,tD tE 0 0]).cells k++tW (tX #[tD tE 0 0,tD tE 0 0]).cells (G-(n+k))).toList (by(have e:(tX #[tD tE 0 0,tD tE 0 0]).cells.size=2:=by decide);simp only[Array.length_toList,Array.size_append,size_zeroCells,e];omega);refine⟨rest,by omega,by omega,?_⟩;rw[j];congr 1;·rw[m];congr 1;omega
 ·congr 2;rw[JR,o];simp[Array.append_assoc]
theorem Kz.agg{w:tC}{v:tH}{p:Dy}(h:Kz w v p):∃sa sc ka kc va vc,v=tX #[.bool p.empty,tD sa p.steps.length sc,tD ka p.pair.1.length kc,tD va p.pair.2.length vc]:=by
 obtain⟨e,d,f,rfl,a,b,c⟩:=h;obtain⟨sa,sc,rfl⟩:=a.shape;obtain⟨ka,kc,rfl⟩:=b.shape;obtain⟨va,vc,rfl⟩:=c.shape;exact⟨sa,sc,ka,kc,va,vc,rfl⟩
theorem zL{w:tC}{c b:Nat}(h:b≠c)(x y z u:tH):((((tU w ⟨c,0,tE⟩ x).setCell ⟨c,1,tE⟩ y).setCell ⟨c,2,tE⟩ z).setCell ⟨c,3,tE⟩ u).heap[b]?=w.heap[b]?:=by
 have one:∀(w:tC)(i:Nat)(u:tH),(tU w ⟨c,i,tE⟩ u).heap[b]?=w.heap[b]?:=fun w i u=>by simp only[tU,Array.getElem?_modify];rw[if_neg (by simpa using h.symm)]
 rw[one,one,one,one]
theorem GP{w:tC}{c:Nat}{x y z u:tH}{t:tQ}(h:w.heap[c]?=tB (tV #[x,y,z,u] t)):tU w ⟨c,0,tE⟩ x=w∧tU w ⟨c,1,tE⟩ y=w∧tU w ⟨c,2,tE⟩ z=w∧tU w ⟨c,3,tE⟩ u=w:=by
 refine⟨?_,?_,?_,?_⟩;all_goals rw[setCell_eq_setRow w c _ _ _ _ _ h];exact setRow_self w c _ _ _ h
section
open Go.ChangeShapes Go.WideShapes Go.ChangeAt Go.RowKit
def Cb:List Int:=[1,32898,9223372036854808714,9223372039002292224,32907,2147483649,9223372039002292353,9223372036854808585,138,136,2147516425,2147483658,2147516555,9223372036854775947,9223372036854808713,9223372036854808579,9223372036854808578,9223372036854775936,32778,9223372039002259466,9223372039002292353,9223372036854808704,2147483649,9223372039002292232]
def Cc:List Int:=[10,7,11,17,18,3,5,16,8,21,24,4,15,23,19,13,12,2,20,14,22,9,6,1]
def T6:List Int:=[1,3,6,10,15,21,28,36,45,55,2,14,27,41,56,8,25,43,62,18,39,61,20,44]
def T8:List Int:=[0,0,3,7,11,3,0,0,3]
def i6:List (String×DataW Unit):=[("canopy/digest.roundNumbers",tZ .u64 Cb),("canopy/digest.laneWalk",tZ .i64 Cc),("canopy/digest.laneTurns",tZ .i64 T6),("canopy/wire.parts",tZ .u8 T8)]
theorem g0:tA.globalNamed "canopy/digest.roundNumbers"=tB 2:=by
 kernel_rfl
theorem g1:tA.globalNamed "canopy/digest.laneWalk"=tB 3:=by
 kernel_rfl
theorem g2:tA.globalNamed "canopy/digest.laneTurns"=tB 4:=by
 kernel_rfl
theorem lD:(tA.globals[2]?).map (·.type)=tB 240:=by
 kernel_rfl
theorem lK:(tA.globals[3]?).map (·.type)=tB 247:=by
 kernel_rfl
theorem lJ:(tA.globals[4]?).map (·.type)=tB 247:=by
 kernel_rfl
theorem bP:tA.cellsOf 240=24:=by
 kernel_rfl
theorem SR:tA.cellsOf 247=24:=by
 kernel_rfl
theorem cV:tA.cellsOf 223=1:=by
 kernel_rfl
theorem OV:tA.cellsOf 3=1:=by
 kernel_rfl
theorem eD(i:Nat)(h:i<24):Cb.getD i 0=U (Jt.getD i 0):=(by
 decide+kernel:∀i:Fin 24,Cb.getD i.1 0=U (Jt.getD i.1 0)) ⟨i,h⟩
theorem cQ(i:Nat)(h:i<24):Cc.getD i 0=((Js.getD i 0:Nat):Int):=(by
 decide+kernel:∀i:Fin 24,Cc.getD i.1 0=((Js.getD i.1 0:Nat):Int)) ⟨i,h⟩
theorem Of(i:Nat)(h:i<24):T6.getD i 0=((JZ.getD i 0:Nat):Int):=(by
 decide+kernel:∀i:Fin 24,T6.getD i.1 0=((JZ.getD i.1 0:Nat):Int)) ⟨i,h⟩
theorem g3:tA.globalNamed "canopy/wire.parts"=tB 0:=by
 kernel_rfl
theorem lH:(tA.globals[0]?).map (·.type)=tB 84:=by
 kernel_rfl
theorem cY:tA.cellsOf 84=9:=by
 kernel_rfl
theorem cU:tA.cellsOf 5=1:=by
 kernel_rfl
theorem OR(i:Nat)(h:i<9):T8.getD i 0=((EZ i:Nat):Int):=(by
 decide+kernel:∀i:Fin 9,T8.getD i.1 0=((EZ i.1:Nat):Int)) ⟨i,h⟩
theorem Lo{W:tC}(h:laidMet tA i6 W):UC W∧Yz W:=by
 obtain⟨R,⟨B,F,t,J,N,S,f,l,p,b,⟨C,G,u,K,O,T,g,m,q,c,⟨D,H,v,L,P,U,j,n,r,d,⟨E,I,w,M,Q,V,k,o,s,e,_,_⟩,_⟩,_⟩,_⟩,_⟩:=h;obtain rfl:=tF (g0.symm.trans f);obtain rfl:=tF (g1.symm.trans g);obtain rfl:=tF (g2.symm.trans j);obtain rfl:=tF (g3.symm.trans k);obtain rfl:=tF (lD.symm.trans l);obtain rfl:=tF (lK.symm.trans m);obtain rfl:=tF (lJ.symm.trans n);obtain rfl:=tF (lH.symm.trans o);have x:tL tA W "canopy/digest.roundNumbers" .u64 Cb:=by unfold tL;rw[p,<-tS Tryz.underlying240 Tryz.underlying223 cV bP b]
 have y:tL tA W "canopy/digest.laneWalk" .i64 Cc:=by unfold tL;rw[q,<-tS sH tG OV SR c]
 have z:tL tA W "canopy/digest.laneTurns" .i64 T6:=by unfold tL;rw[r,<-tS sH tG OV SR d]
 have A:tL tA W "canopy/wire.parts" .u8 T8:=by unfold tL;rw[s,<-tS Tryz.underlying84 Tryz.underlying5 cU cY e]
 refine⟨fun i a=>by rw[A.cell g3 i a,OR i a],fun i a=>?_,fun i a=>?_,fun i a=>?_⟩;·rw[x.cell g0 i a,eD i a]
 ·rw[y.cell g1 i a,cQ i a]
 ·rw[z.cell g2 i a,Of i a]
def MI(cs:Array tH):Obj->Obj|tV _ t frozen=>tV cs t frozen|o=>o
def vY(W:tC):tC:={W with heap:=(((W.heap.modify 2 (MI (Cb.map fun z=>tN .u64 z).toArray)).modify 3 (MI (Cc.map fun z=>tN .i64 z).toArray)).modify 4 (MI (T6.map fun z=>tN .i64 z).toArray)).modify 0 (MI (T8.map fun z=>tN .u8 z).toArray)}
end
section
open Go.ChangeShapes Go.WideShapes Go.ChangeAt Go.RowKit Go.Deep Go.Joins
instance:Inhabited Gr:=⟨Ws⟩
theorem eE:tA.cellsOf 3=1:=by
 kernel_rfl
theorem Da{H:Type}{enc:tQ×tH->H}{W:tC}{hd:Bool}{fuel:Nat}{a:Option sC}{n cap:Nat}{x:DataW H×List MemPlace}{t e:tQ}{f0 f1 f2 f3 f4:Field}(ht:tA.underlying t=tB (.slice e))(he:tA.underlying e=tB (.struct #[f0,f1,f2,f3,f4]))(ce:tA.cellsOf e=5)(o0:f0.offset=0)(o1:f1.offset=1)(o2:f2.offset=2)(o3:f3.offset=3)(o4:f4.offset=4)(t0:f0.type=3)(t1:f1.type=3)(t2:f2.type=3)(t3:f3.type=3)(t4:f4.type=3)(h:sQ enc tA W 0 (fun _=>true) hd fuel t [tD a n cap]=tB x):∃l:List Gr,KD W (tD a n cap) l∧Lr l∧l.length<=sB:=by
 rcases open_slice ht h with⟨j,_⟩|⟨y,len,c,m,k,D,Pl,j,hb,hl,hm,J,hx,s⟩;·simp at j;obtain⟨rfl,rfl,rfl⟩:=j;exact⟨[],⟨tE,0,rfl,Nat.le_refl _,.inl rfl⟩,fun g G=>(by cases G),Nat.zero_le _⟩
 ·simp at j;obtain⟨rfl,rfl,rfl⟩:=j;(have I:m=cap:=by simpa using J);subst I;(have each:∀i,i<m->∃q:Gr,(W.cell? (y.add (i*5))=tB (tN .i64 q.kind)∧W.cell? (y.add (i*5+1))=tB (tN .i64 q.sess)∧W.cell? (y.add (i*5+2))=tB (tN .i64 q.name)∧W.cell? (y.add (i*5+3))=tB (tN .i64 q.key)∧W.cell? (y.add (i*5+4))=tB (tN .i64 q.value))∧Bm q:=by intro i p;obtain⟨F,g1,g2⟩:=s i p;rw[ce]at g1;obtain⟨_,d,f⟩:=World.cells?_some g1;obtain⟨xs,k',hk,aa,_,L,u⟩:=DataW.trod_struct he g2;match xs,L,F,d with|[y0,y1,y2,y3,y4],_,[v0,v1,v2,v3,v4],_=>have M:=u 0 f0 rfl;have N:=u 1 f1 rfl;have O:=u 2 f2 rfl;have P:=u 3 f3 rfl;have Q:=u 4 f4 rfl;rw[t0]at M;rw[t1]at N;rw[t2]at O;rw[t3]at P;rw[t4]at Q;simp[o0,o1,o2,o3,o4,eE]at M N O P Q;have R:=f 0 (by omega);have S:=f 1 (by omega);have T:=f 2 (by omega);have U:=f 3 (by omega);have V:=f 4 (by omega);rw[add_add]at R S T U V;obtain⟨z0,w,ab,w0⟩:=tM tG M;obtain⟨z1,A,ac,w1⟩:=tM tG N;obtain⟨z2,B,ad,w2⟩:=tM tG O;obtain⟨z3,C,ae,w3⟩:=tM tG P;obtain⟨z4,E,af,w4⟩:=tM tG Q;simp at w A B C E;subst w A B C E;exact⟨⟨z0,z1,z2,z3,z4⟩,⟨by simpa using R,by simpa using S,by simpa using T,by simpa using U,by simpa using V⟩,⟨VW w0,VW w1,VW w2,VW w3,VW w4⟩⟩);obtain⟨q,K⟩:=choose_lt each;(have d:((sF n).map fun i=>q i).length=n:=by simp);(have v:∀i,i<n->((sF n).map fun i=>q i).getD i Ws=q i:=by intro i p;simp[p]);refine⟨(sF n).map fun i=>q i,⟨_,m,by rw[d],by omega,?_⟩,?_,by rw[d];omega⟩;(·by_cases Z:n=0;(·left;subst Z;rfl);·right;obtain⟨b,o,Y⟩:=y;have r:=(K 0 (by omega)).1.1;(obtain rfl:Y=tE:=by cases Y with|none=>rfl|some z=>simp[Addr.add,sD]at r;split at r<;>simp at r);refine⟨b,o,rfl,fun i p=>?_⟩;rw[d]at p;obtain⟨⟨g0,g1,g2,g3,X⟩,_⟩:=K i (by omega);rw[Z6]at g0 g1 g2 g3 X;rw[v i p];exact⟨g0,g1,g2,g3,X⟩);·intro g G;obtain⟨i,p,rfl⟩:=List.mem_map.1 G;exact(K i (by have:=List.mem_range.1 p;omega)).2
theorem So{H:Type}{enc:tQ×tH->H}{W:tC}{hd:Bool}{fuel:Nat}{a:Option sC}{n cap:Nat}{x:DataW H×List MemPlace}{t e:tQ}{f0 f1 f2 f3 f4:Field}(ht:tA.underlying t=tB (.slice e))(he:tA.underlying e=tB (.struct #[f0,f1,f2,f3,f4]))(ce:tA.cellsOf e=5)(o0:f0.offset=0)(o1:f1.offset=1)(o2:f2.offset=2)(o3:f3.offset=3)(o4:f4.offset=4)(t0:f0.type=3)(t1:f1.type=3)(t2:f2.type=3)(t3:f3.type=3)(t4:f4.type=3)(h:sQ enc tA W 0 (fun _=>true) hd fuel t [tD a n cap]=tB x):∃l:List Gr,KD W (tD a n cap) l∧Lr l:=by
 obtain⟨l,b,c,_⟩:=Da ht he ce o0 o1 o2 o3 o4 t0 t1 t2 t3 t4 h;exact⟨l,b,c⟩
end
end Go.Proofs.YtpimcmbjdcjmlaaGreatDoor
