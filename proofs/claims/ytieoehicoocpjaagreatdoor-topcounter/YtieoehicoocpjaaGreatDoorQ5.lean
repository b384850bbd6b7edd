/-
  Texts of this proof, joined, with few blanks: AcApp, TenRow, ProofBut, Frame11.
-/
import Derived.Laws.AppendOwnNone
import Derived.Laws.CopyRow
import Derived.Lib.AppendZerosOnto
import Derived.Lib.SliceRun
import Derived.Lib.LaidTab
import Derived.Test.YtieoehicoocpjaaGreatDoorCards
import Derived.Test.YtieoehicoocpjaaGreatDoorTie
import Derived.Test.YtieoehicoocpjaaGreatDoorQ3
set_option maxRecDepth 100000
set_option maxHeartbeats 8000000
open Go renaming World->B,Value->L,info_parts->d,TypeId->tB,maxLen->tC,Addr->tH,Oper->tU,Operand->tV
open Go.Builtin renaming append_->H,clear_->R,zeroCells->X,lenOf->tA,firstCells->tD,copy_->tN
open Go.IntKind renaming i64->f
open Go.Lib renaming TabIs->M,cells_of_tab->O,tabData->q
open Go.Obj renaming cells->V
open Go.Proofs.Tryz renaming prog->A,underlying242->tG,underlying25->tI,underlying3->tP
open Go.Value renaming slice->D,int->S,agg->Y
open Go.World renaming grownBy->N,setCell->T,cell?->tS
open List renaming length_map->I,eq_nil_of_length_eq_zero->J,getElem?_take->tE,flatMap_cons->tJ,mem_flatMap->tK,not_mem_nil->tL,cons_append->tM,nil_append->tQ,mem_cons->tR
open Option renaming some->C,none->E
open Option.some renaming inj->F
namespace Go.Proofs.YtieoehicoocpjaaGreatDoor
open Go.RowKit
theorem Rx{w:B}{o:tU}{a:Act}{K:Act->B->Prop}{Q:Exit->Act->B->Prop}(s x:tV)(ho:o.op=.call {callee:=.builtin .append,args:=#[s,x],argTypes:=#[25,25]})(rb:Nat)(v:L)(l:List Ac)(hs:a.eval s=v)(hown:U5 rb w v l)(ad:tH)(cap:Nat)(us:List AV)(hx:a.eval x=D (C ad) us.length cap)(hc:∀j u,(Jk us)[j]?=C u->w.cell? (ad.add j)=C u)(hpt:∀y∈us,Qi 0 w y.2 y.1.data)(h0:0<us.length)(hl:(l.length+us.length)*48<=140737488355328)(hbase:rb<=w.heap.size)(h:∀v' w',U5 rb w' v' (l++us.map (·.1))->N w w' v.ownBlock->(∀g,v'.ownBlock=C g->v.ownBlock=C g∨w.heap.size<=g)->K (a.put o.dst v') w'):o.wp A a w K Q:=by
 obtain⟨i0,hi,hz0,hz1,hz2⟩:=d Av;have hrow:v.ownBlock=E∨∃g cur t fz,v.ownBlock=C g∧0<=g∧w.heap[g]?=C (V cur t fz)∧t≠5:=by rcases hown.row with h|⟨g,cur,fz,e,_,h⟩;(·exact .inl h);·exact .inr ⟨g,cur,_,fz,e,Nat.zero_le _,h,gJ⟩
 obtain⟨vs,hul,hr,hp⟩:=hown;refine wp_append_lies w s x 25 ho rb 38 i0 (Y #[S f 0,S f 0,S f 0,D E 0 0]) 4 48 tI hi hz0 hz1 hz2 rfl (by decide) v l.length (Jk vs) hs hr ad us.length cap (Jk us) hx (xY us) hc ?_ h0 (by unfold tC;omega) hl hbase _ rfl ?_;·intro u hu;obtain⟨p,hp1,hp2⟩:=tK.1 hu;have:=hpt p hp1;simp only[tR,tL,or_false]at hp2;rcases hp2 with rfl|rfl|rfl|rfl;(·rfl);(·rfl);(·rfl);·exact ZH this
 ·intro g cap w' q1 q2 q3 _;refine h _ w' ⟨vs++us,by simp[hul],?_,?_⟩ q2 (fun g' e=>by cases e;exact q3.imp id (fun e=>by show w.heap.size<=g;omega));(·rw[N7,List.length_append,I];exact q1);·intro y hy;rcases List.mem_append.1 hy with hy|hy;(·exact(hp y hy).keptT q2 hrow);·exact(hpt y hy).keptT q2 hrow
theorem qU{P:Program}{w:B}(base:Nat)(t ty e:tB)(i:TypeInfo)(size:Nat)(ht:P.underlying t=C (.slice e))(hi:P.info? e=C i)(v:L)(n:Nat)(xs:List L)(hown:w.ownsRow base e size v n xs)(ad:Option tH)(c:Nat):(H #[t,t] ty #[v,D ad 0 c]).run P w=.ok v w:=by
 rcases hown.2with⟨rfl,rfl⟩|⟨g,cap,cur,rfl,_,_,hnc,_⟩;·cases ad<;>simp[H,run_underlying ht,sizeOf,typeInfo,hi,tA,tD,loadCells,loadCellsFrom]
 ·cases ad<;>simp[H,run_underlying ht,sizeOf,typeInfo,hi,tA,tD,loadCells,loadCellsFrom,hnc,storeCells]
theorem Ry{w:B}{o:tU}{a:Act}{K:Act->B->Prop}{Q:Exit->Act->B->Prop}(s x:tV)(ho:o.op=.call {callee:=.builtin .append,args:=#[s,x],argTypes:=#[25,25]})(rb:Nat)(v:L)(l:List Ac)(hs:a.eval s=v)(hown:U5 rb w v l)(r2:Nat)(u:L)(m:List Ac)(hx:a.eval x=u)(hsrc:U5 r2 w u m)(hl:(l.length+m.length)*48<=140737488355328)(hbase:rb<=w.heap.size)(h:∀v' w',U5 rb w' v' (l++m)->N w w' v.ownBlock->(∀g,v'.ownBlock=C g->v.ownBlock=C g∨w.heap.size<=g)->K (a.put o.dst v') w'):o.wp A a w K Q:=by
 by_cases h0:m.length=0;·obtain⟨xa,xc,rfl⟩:=hsrc.shape;obtain⟨i0,hi,hz0,hz1,hz2⟩:=d Av;obtain⟨vs,hul,hr,hp⟩:=hown;have hrun:=qU (P:=A) rb 25 o.type 38 i0 4 tI hi v l.length (Jk vs) hr xa xc;rw[h0]at hx;unfold Oper.wp;simp[execOp,ho,resolve,invoke,builtin,hs,hx,hrun,Result.andThen];refine h v w ?_ ⟨rfl,rfl,rfl,Nat.le_refl _,fun _ _ _=>rfl⟩ (fun _ e=>.inl e);rw[J h0,List.append_nil];exact⟨vs,hul,hr,hp⟩
 ·obtain⟨us,hul,hr,hp⟩:=hsrc;(have hlen:us.length=m.length:=by rw[<-hul];simp);rcases hr.2with⟨_,e⟩|⟨g,cap,cur,rfl,hb,hg,hn,hm,hcs,ht⟩;(·exact absurd e h0);·(have hcell:∀j y,(Jk us)[j]?=C y->w.cell? ((⟨g,0,E⟩:tH).add j)=C y:=by intro j y hj;(have hlt:j<m.length*4:=by have:=(List.getElem?_eq_some_iff.1 hj).1;rw[hr.1]at this;exact this);(have e2:(cur.toList.take (m.length*4))[j]?=(Jk us)[j]?:=by rw[ht]);rw[tE,if_pos hlt,hj]at e2;rw[Z7,Nat.zero_add];simp[tS,hg];simpa using e2);refine Rx s x ho rb v l hs hown ⟨g,0,E⟩ cap us (by rw[hx,hlen]) hcell hp (by omega) (by rw[hlen];exact hl) hbase ?_;rw[hul];exact h
theorem vE{w:B}{ops:Array tU}{rest:List tU}{o:tU}{a:Act}{Q:Exit->Act->B->Prop}(hgd:o.guard=E)(s x:tV)(ho:o.op=.call {callee:=.builtin .append,args:=#[s,x],argTypes:=#[25,25]})(rb:Nat)(v:L)(l:List Ac)(hs:a.eval s=v)(hown:U5 rb w v l)(r2:Nat)(u:L)(m:List Ac)(hx:a.eval x=u)(hsrc:U5 r2 w u m)(hl:(l.length+m.length)*48<=140737488355328)(hbase:rb<=w.heap.size)(h:∀v' w',U5 rb w' v' (l++m)->N w w' v.ownBlock->(∀g,v'.ownBlock=C g->v.ownBlock=C g∨w.heap.size<=g)->wpList A ops Q rest (a.put o.dst v') w'):wpList A ops Q (o::rest) a w:=wpList_plain hgd fun _ hK=>Ry s x ho rb v l hs hown r2 u m hx hsrc hl hbase fun v' w' h1 h2 h3=>hK _ _ (h v' w' h1 h2 h3)
theorem Dq{w:B}(rb:Nat)(nb:Nat)(us:List AV)(hb:w.heap[nb]?=C (V ⟨Jk us⟩ 38))(hr:rb<=nb)(hl:us.length<=1000)(hpt:∀y∈us,Qi 0 w y.2 y.1.data):U5 rb w (D (C ⟨nb,0,E⟩) us.length us.length) (us.map (·.1)):=by
 refine⟨us,rfl,⟨by rw[I,xY],.inr ⟨nb,us.length,⟨Jk us⟩,by rw[I],hr,hb,by rw[I];omega,by unfold tC;omega,by simp[xY],?_⟩⟩,hpt⟩;rw[I,List.take_of_length_le (by simp[xY])]
abbrev VP:=L×L
def Y0(w:B)(g:Nat)(all:List VP):Prop:=w.heap[g]?=C (V (flat all).toArray 64 (0,0))
def JI(w:B)(g:Nat)(all:List VP):B:=w.setRow g (flat all).toArray
theorem Y0.set{w:B}{g:Nat}{all:List VP}(h:Y0 w g all)(all':List VP):Y0 (JI w g all') g all':=setRow_heap w g _ _ _ _ h
theorem LL{w:B}{g:Nat}{all:List VP}(h:Y0 w g all):JI w g all=w:=setRow_self w g _ _ _ h
theorem Y0.lt{w:B}{g:Nat}{all:List VP}(h:Y0 w g all):g<w.heap.size:=(Array.getElem?_eq_some_iff.1 h).1
theorem Y0.drew{w:B}{g:Nat}{all:List VP}(h:Y0 w g all):Y0 w.drew g all:=h
theorem KS(w:B)(g:Nat)(all:List VP):N w (JI w g all) (C g):=⟨rfl,rfl,rfl,by
 simp[JI,World.setRow],fun k _ hne=>setRow_other w g k _ (fun e=>hne (by
 rw[e]))⟩
theorem Yj{w w1 w2:B}{r:Option Nat}(h1:N w w1 r)(h2:N w1 w2 r):N w w2 r:=⟨h2.os.trans h1.os,h2.tape.trans h1.tape,h2.output.trans h1.output,Nat.le_trans h1.size h2.size,fun k hk hn=>(h2.block k (Nat.lt_of_lt_of_le hk h1.size) hn).trans (h1.block k hk hn)⟩
theorem XS{w w1:B}{r:Option Nat}(h1:N w w1 E):N w w1 r:=⟨h1.os,h1.tape,h1.output,h1.size,fun k hk _=>h1.block k hk (by
 simp)⟩
theorem xV:∀(n:Nat)(cs:List L),cs.length=n*2->∃vs:List VP,vs.length=n∧flat vs=cs|0,cs,h=>⟨[],rfl,by rw[J (by omega:cs.length=0)];rfl⟩|n+1,[],h=>by simp at h|n+1,[_],h=>by simp at h;omega|n+1,a::b::r,h=>by obtain⟨vs,h1,h2⟩:=xV n r (by simp at h;omega);exact⟨(a,b)::vs,by simp[h1],by simp only[flat,tJ,tM,tQ]at h2⊢;rw[h2]⟩
theorem DQ:∀(a b:List VP),flat a=flat b->a=b|[],[],_=>rfl|[],x::r,h=>by simp[flat]at h|x::r,[],h=>by simp[flat]at h|x::r,y::s,h=>by simp only[flat,tJ,tM,tQ,List.cons.injEq]at h;obtain⟨h1,h2,h3⟩:=h;rw[DQ r s h3,Prod.ext h1 h2]
def RQ(l:List VP):Prop:=∀x∈l,x.1.oneCell'=true∧x.2.oneCell'=true
theorem RQ.flat{l:List VP}(h:RQ l):∀u∈flat l,u.oneCell'=true:=by
 intro u hu;simp only[Go.Proofs.YtieoehicoocpjaaGreatDoor.flat,tK,tR,tL,or_false]at hu;obtain⟨x,hx,rfl|rfl⟩:=hu;·exact(h x hx).1
 ·exact(h x hx).2
def fQ(base:Nat)(w:B)(x:VP)(t:Tn):Prop:=Qi base w x.1 t.1∧QN base w x.2 t.2
def fS:VP:=(undef,undef)
def YV(base:Nat)(w:B)(vs:List VP)(l:FL):Prop:=vs.length=l.length∧∀i,i<l.length->fQ base w (vs.getD i fS) (l.getD i ([],[]))
theorem YV.take{base:Nat}{w:B}{vs:List VP}{l:FL}(h:YV base w vs l)(n:Nat):YV base w (vs.take n) (l.take n):=by
 refine⟨by simp[h.1],fun i hi=>?_⟩;have hi':i<n∧i<l.length:=by simp at hi;omega
 have:=h.2 i hi'.2;rwa[show(vs.take n).getD i fS=vs.getD i fS by simp[hi'.1],show(l.take n).getD i ([],[])=l.getD i ([],[])by simp[hi'.1]]
theorem YV.drop{base:Nat}{w:B}{vs:List VP}{l:FL}(h:YV base w vs l)(n:Nat):YV base w (vs.drop n) (l.drop n):=by
 refine⟨by simp[h.1],fun i hi=>?_⟩;have hi':n+i<l.length:=by simp at hi;omega
 have:=h.2 (n+i) hi';rwa[show(vs.drop n).getD i fS=vs.getD (n+i) fS by simp,show(l.drop n).getD i ([],[])=l.getD (n+i) ([],[])by simp]
theorem YV.append{base:Nat}{w:B}{vs us:List VP}{l m:FL}(h:YV base w vs l)(h2:YV base w us m):YV base w (vs++us) (l++m):=by
 refine⟨by simp[h.1,h2.1],fun i hi=>?_⟩;rw[Ji,Ji,h.1];by_cases hil:i<l.length;·rw[if_pos hil,if_pos hil];exact h.2 i hil
 ·rw[if_neg hil,if_neg hil];exact h2.2 _ (by simp at hi;omega)
theorem YV.one{base:Nat}{w:B}{x:VP}{t:Tn}(h:fQ base w x t):YV base w [x] [t]:=⟨rfl,fun i hi=>by
 obtain rfl:i=0:=by simpa using hi
 exact h⟩
theorem YV.kept{base:Nat}{w w':B}{vs:List VP}{l:FL}(h:YV base w vs l){row:Option Nat}(hg:N w w' row)(hrow:row=E∨∃g cur t fz,row=C g∧base<=g∧w.heap[g]?=C (V cur t fz)∧t≠5∧t≠44):YV base w' vs l:=⟨h.1,fun i hi=>⟨((h.2 i hi).1).keptT hg (fL hrow),((h.2 i hi).2).kept hg hrow⟩⟩
theorem YV.oneV{base:Nat}{w:B}{vs:List VP}{l:FL}(h:YV base w vs l):RQ vs:=by
 intro x hx;obtain⟨i,hi,rfl⟩:=List.mem_iff_getElem.1 hx;have:=h.2 i (by rw[<-h.1];exact hi);rw[show vs.getD i fS=vs[i]by simp[hi]]at this;exact⟨ZH this.1,xL this.2⟩
theorem Y0.rowOf{base:Nat}{w:B}{g:Nat}{all:List VP}(h:Y0 w g all)(hb:base<=g):(C g:Option Nat)=E∨∃g' cur t fz,(C g:Option Nat)=C g'∧base<=g'∧w.heap[g']?=C (V cur t fz)∧t≠5∧t≠44:=.inr ⟨g,_,_,_,rfl,hb,h,dL,dH⟩
theorem Y0.cells{w:B}{g:Nat}{all:List VP}(h:Y0 w g all)(p:Nat):∀j u,(flat (all.drop p))[j]?=C u->w.cell? ((⟨g,p*2,E⟩:tH).add j)=C u:=by
 intro j u hj;rw[Ed,List.getElem?_drop]at hj;rw[Z7];have:=h;unfold Y0 at this;simp[tS,this];exact hj
theorem Y0.cellsT{w:B}{g:Nat}{all:List VP}(h:Y0 w g all)(p n:Nat):∀j u,(flat ((all.drop p).take n))[j]?=C u->w.cell? ((⟨g,p*2,E⟩:tH).add j)=C u:=by
 intro j u hj;refine h.cells p j u ?_;rw[yI,tE]at hj;split at hj;·exact hj
 ·cases hj
theorem uV{base:Nat}{w:B}{g:Nat}{all:List VP}{l:FL}(h:Y0 w g all)(hb:base<=g)(hl:l.length<=all.length)(hm:all.length<=tC)(he:YV 0 w (all.take l.length) l):Zy base w (D (C ⟨g,0,E⟩) l.length all.length) l:=by
 refine⟨all.take l.length,he.1,⟨by rw[Kt,he.1],.inr ⟨g,all.length,_,rfl,hb,h,hl,hm,by simp[Kt],?_⟩⟩,fun i hi=>he.2 i hi⟩;rw[yI]
theorem Zy.elim{base:Nat}{w:B}{v:L}{l:FL}(h:Zy base w v l):(v=D E 0 0∧l=[])∨∃g all,v=D (C ⟨g,0,E⟩) l.length (List.length all)∧Y0 w g all∧base<=g∧l.length<=all.length∧all.length<=tC∧YV 0 w (all.take l.length) l:=by
 obtain⟨vs,hl,hr,h3⟩:=h;rcases hr.2with⟨rfl,h0⟩|⟨g,cap,cur,rfl,hb,hg,hn,hm,hs,ht⟩;·exact .inl ⟨rfl,J h0⟩
 ·obtain⟨all,ha,hf⟩:=xV cap cur.toList (by simpa using hs);(have hcur:cur=(flat all).toArray:=by rw[hf]);subst hcur;have e:all.take l.length=vs:=DQ _ _ (by rw[yI];simpa using ht);exact .inr ⟨g,all,by rw[ha],hg,hb,by omega,by omega,by rw[e];exact⟨hl,fun i hi=>h3 i hi⟩⟩
theorem GF:A.underlying 31=C (.slice 64):=Tryz.underlying31
theorem FP(all news:List VP)(o:Nat):(((flat all).toArray.toList.take (o*2)++flat news++(flat all).toArray.toList.drop (o*2+(flat news).length)).toArray)=(flat (all.take o++news++all.drop (o+news.length))).toArray:=by
 rw[JT,JT,yI,Ed,Kt,show(o+news.length)*2=o*2+news.length*2by omega]
theorem Vu(w:B)(g:Nat)(all news:List VP)(hb:Y0 w g all)(ty:tB)(o dLen dCap:Nat)(a:tH)(sLen sCap:Nat)(hn:news.length=Nat.min sLen dLen)(hsrc:∀j v,(flat news)[j]?=C v->w.cell? (a.add j)=C v)(hfit:o+news.length<=all.length)(h1:RQ news):(tN #[31,31] ty #[D (C ⟨g,o*2,E⟩) dLen dCap,D (C a) sLen sCap]).run A w=.ok (goInt news.length) (JI w g (all.take o++news++all.drop (o+news.length))):=by
 obtain⟨i0,hi,hz0,hz1,hz2⟩:=d Fu;have hf:=run_firstCells_some (P:=A) w 2 news.length a sLen sCap (flat news) (Kt _) hsrc;have hst:=run_storeCells_at A g (o*2) _ (flat news) 0 _ w hb (by simp[Kt];omega) h1.flat;simp only[Nat.add_zero]at hst;rw[FP]at hst;have hmin:sLen.min dLen=news.length:=hn.symm;simp[tN,run_underlying GF,tA,sizeOf,typeInfo,hi,hz1,hmin,hf,hst,JI]
theorem Pu(w:B)(g:Nat)(all news:List VP)(hb:Y0 w g all)(ty:tB)(n:Nat)(a:tH)(m c:Nat)(hn:news.length=m)(hsrc:∀j v,(flat news)[j]?=C v->w.cell? (a.add j)=C v)(hfit:n+m<=all.length)(h1:RQ news):(H #[31,31] ty #[D (C ⟨g,0,E⟩) n all.length,D (C a) m c]).run A w=.ok (D (C ⟨g,0,E⟩) (n+m) all.length) (JI w g (all.take n++news++all.drop (n+m))):=by
 obtain⟨i0,hi,hz0,hz1,hz2⟩:=d Fu;have:=run_append_room (P:=A) w 31 ty 64 i0 GF hi g n all.length _ hb a m c (flat news) (by rw[Kt,hz1,hn]) hsrc h1.flat hfit (by rw[hz1];simp[Kt];omega);rw[this,hz1,FP,hn];rfl
def Eo:VP:=(D E 0 0,D E 0 0)
theorem bH(w:B):(zeroValue 64).run A w=.ok (Y #[D E 0 0,D E 0 0]) w:=by
 kernel_rfl
theorem AH(w:B)(g:Nat)(all:List VP)(hb:Y0 w g all)(ty:tB)(o c:Nat)(hfit:o<all.length):(R #[31] ty #[D (C ⟨g,o*2,E⟩) 1 c]).run A w=.ok (.tuple #[]) (JI w g (all.take o++[Eo]++all.drop (o+1))):=by
 have hst:=run_storeCells_at A g (o*2) _ (flat [Eo]) 0 _ w hb (by simp[Kt];omega) (by intro u hu;simp[flat,Eo]at hu;rw[hu];rfl);simp only[Nat.add_zero]at hst;rw[FP]at hst;have hz:(X (Y #[D E 0 0,D E 0 0]).cells 1).toList=flat [Eo]:=by kernel_rfl
 simp only[R,List.getElem?_toArray,List.getElem?_cons_zero,Sem.run_bind,run_underlying GF,Result.andThen_ok,bH,hz,hst,Sem.run_pure];rfl
theorem CG(w:B)(ty:tB)(a:Option tH)(c:Nat):(R #[31] ty #[D a 0 c]).run A w=.ok (.tuple #[]) w:=by
 cases a<;>simp[R,run_underlying GF]
theorem Cx(w:B)(g:Nat)(all:List VP)(hb:Y0 w g all)(ty:tB)(n k:Nat)(hk:0<k)(hn:n<=all.length)(hg:all.length<n+k)(hl:n+k<=1000):∃rest:List VP,k<=rest.length∧n+rest.length<=tC∧(H #[31,3] ty #[D (C ⟨g,0,E⟩) n all.length,S f k]).run A w=.ok (D (C ⟨w.heap.size,0,E⟩) (n+k) (n+rest.length)) (w.drew.alloc (V (flat (all.take n++rest)).toArray 64)):=by
 obtain⟨i0,hi,hz0,hz1,hz2⟩:=d Fu;have hold:=run_firstCells_some (P:=A) w.drew 2 n ⟨g,0,E⟩ n all.length (flat (all.take n)) (by rw[Kt];simp;omega) (by have:=hb.drew.cellsT 0 n;simpa using this);rw[<-hz1]at hold;have hr:=Lib.run_append_grow_zeros (P:=A) w 31 3 ty 64 i0 _ f f GF (by kernel_rfl) hi hz0 (C ⟨g,0,E⟩) n all.length (flat (all.take n)) hold k hk (by omega) hg (by omega) (by rw[hz2];omega) (by rw[hz2];exact growslice_fits hg (by omega));have hge:=grownCap_ge w (n+k) all.length 64;have hle:=grownCap_le_maxLen w (n+k) all.length 64 (by unfold tC;omega);generalize grownCap w (n+k) all.length 64=G at*;obtain⟨rest,r1,r2⟩:=xV (G-n) (X (Y #[D E 0 0,D E 0 0]).cells k++X (Y #[D E 0 0,D E 0 0]).cells (G-(n+k))).toList (by(have e:(Y #[D E 0 0,D E 0 0]).cells.size=2:=by decide);simp only[Array.length_toList,Array.size_append,size_zeroCells,e];omega);refine⟨rest,by omega,by omega,?_⟩;rw[hr];congr 1;·rw[r1];congr 1;omega
 ·congr 2;rw[JT,r2];simp[Array.append_assoc]
theorem KH.agg{w:B}{v:L}{p:Dj}(h:KH w v p):∃sa sc ka kc va vc,v=Y #[.bool p.empty,D sa p.steps.length sc,D ka p.pair.1.length kc,D va p.pair.2.length vc]:=by
 obtain⟨vs,vk,vv,rfl,h0,h1,h2⟩:=h;obtain⟨sa,sc,rfl⟩:=h0.shape;obtain⟨ka,kc,rfl⟩:=h1.shape;obtain⟨va,vc,rfl⟩:=h2.shape;exact⟨sa,sc,ka,kc,va,vc,rfl⟩
theorem qN{w:B}{c b:Nat}(h:b≠c)(x y z u:L):((((T w ⟨c,0,E⟩ x).setCell ⟨c,1,E⟩ y).setCell ⟨c,2,E⟩ z).setCell ⟨c,3,E⟩ u).heap[b]?=w.heap[b]?:=by
 have one:∀(w:B)(i:Nat)(u:L),(T w ⟨c,i,E⟩ u).heap[b]?=w.heap[b]?:=fun w i u=>by simp only[T,Array.getElem?_modify];rw[if_neg (by simpa using h.symm)]
 rw[one,one,one,one]
theorem Gt{w:B}{c:Nat}{x y z u:L}{t:tB}(h:w.heap[c]?=C (V #[x,y,z,u] t)):T w ⟨c,0,E⟩ x=w∧T w ⟨c,1,E⟩ y=w∧T w ⟨c,2,E⟩ z=w∧T w ⟨c,3,E⟩ u=w:=by
 refine⟨?_,?_,?_,?_⟩;all_goals rw[setCell_eq_setRow w c _ _ _ _ _ h];exact setRow_self w c _ _ _ h
section
open Go.ChangeShapes Go.WideShapes Go.ChangeAt Go.RowKit
def DS:List Int:=[1,32898,9223372036854808714,9223372039002292224,32907,2147483649,9223372039002292353,9223372036854808585,138,136,2147516425,2147483658,2147516555,9223372036854775947,9223372036854808713,9223372036854808579,9223372036854808578,9223372036854775936,32778,9223372039002259466,9223372039002292353,9223372036854808704,2147483649,9223372039002292232]
def DU:List Int:=[10,7,11,17,18,3,5,16,8,21,24,4,15,23,19,13,12,2,20,14,22,9,6,1]
def TH:List Int:=[1,3,6,10,15,21,28,36,45,55,2,14,27,41,56,8,25,43,62,18,39,61,20,44]
def TI:List Int:=[0,0,3,7,11,3,0,0,3]
def gV:List (String×DataW Unit):=[("canopy/digest.roundNumbers",q .u64 DS),("canopy/digest.laneWalk",q f DU),("canopy/digest.laneTurns",q f TH),("canopy/wire.parts",q .u8 TI)]
theorem g0:A.globalNamed "canopy/digest.roundNumbers"=C 2:=by
 kernel_rfl
theorem g1:A.globalNamed "canopy/digest.laneWalk"=C 3:=by
 kernel_rfl
theorem g2:A.globalNamed "canopy/digest.laneTurns"=C 4:=by
 kernel_rfl
theorem iB:(A.globals[2]?).map (·.type)=C 193:=by
 kernel_rfl
theorem iH:(A.globals[3]?).map (·.type)=C 242:=by
 kernel_rfl
theorem iG:(A.globals[4]?).map (·.type)=C 242:=by
 kernel_rfl
theorem aJ:A.cellsOf 193=24:=by
 kernel_rfl
theorem Sg:A.cellsOf 242=24:=by
 kernel_rfl
theorem bN:A.cellsOf 165=1:=by
 kernel_rfl
theorem On:A.cellsOf 3=1:=by
 kernel_rfl
theorem cY(i:Nat)(h:i<24):DS.getD i 0=U (Jy.getD i 0):=(by
 decide+kernel:∀i:Fin 24,DS.getD i.1 0=U (Jy.getD i.1 0)) ⟨i,h⟩
theorem bI(i:Nat)(h:i<24):DU.getD i 0=((Jw.getD i 0:Nat):Int):=(by
 decide+kernel:∀i:Fin 24,DU.getD i.1 0=((Jw.getD i.1 0:Nat):Int)) ⟨i,h⟩
theorem IA(i:Nat)(h:i<24):TH.getD i 0=((J4.getD i 0:Nat):Int):=(by
 decide+kernel:∀i:Fin 24,TH.getD i.1 0=((J4.getD i.1 0:Nat):Int)) ⟨i,h⟩
theorem g3:A.globalNamed "canopy/wire.parts"=C 0:=by
 kernel_rfl
theorem iE:(A.globals[0]?).map (·.type)=C 114:=by
 kernel_rfl
theorem bT:A.cellsOf 114=9:=by
 kernel_rfl
theorem bM:A.cellsOf 5=1:=by
 kernel_rfl
theorem Ok(i:Nat)(h:i<9):TI.getD i 0=((EA i:Nat):Int):=(by
 decide+kernel:∀i:Fin 9,TI.getD i.1 0=((EA i.1:Nat):Int)) ⟨i,h⟩
theorem SJ{W:B}(h:laidMet A gV W):Vj W∧YA W:=by
 obtain⟨ps,⟨a1,b1,cs1,f1,p1,q1,hg1,ht1,hv1,hd1,⟨a2,b2,cs2,f2,p2,q2,hg2,ht2,hv2,hd2,⟨a3,b3,cs3,f3,p3,q3,hg3,ht3,hv3,hd3,⟨a4,b4,cs4,f4,p4,q4,hg4,ht4,hv4,hd4,_,_⟩,_⟩,_⟩,_⟩,_⟩:=h;obtain rfl:=F (g0.symm.trans hg1);obtain rfl:=F (g1.symm.trans hg2);obtain rfl:=F (g2.symm.trans hg3);obtain rfl:=F (g3.symm.trans hg4);obtain rfl:=F (iB.symm.trans ht1);obtain rfl:=F (iH.symm.trans ht2);obtain rfl:=F (iG.symm.trans ht3);obtain rfl:=F (iE.symm.trans ht4);have t0:M A W "canopy/digest.roundNumbers" .u64 DS:=by unfold M;rw[hv1,<-O Tryz.underlying193 Tryz.underlying165 bN aJ hd1]
 have t1:M A W "canopy/digest.laneWalk" f DU:=by unfold M;rw[hv2,<-O tG tP On Sg hd2]
 have t2:M A W "canopy/digest.laneTurns" f TH:=by unfold M;rw[hv3,<-O tG tP On Sg hd3]
 have t3:M A W "canopy/wire.parts" .u8 TI:=by unfold M;rw[hv4,<-O Tryz.underlying114 Tryz.underlying5 bM bT hd4]
 refine⟨fun i hi=>by rw[t3.cell g3 i hi,Ok i hi],fun i hi=>?_,fun i hi=>?_,fun i hi=>?_⟩;·rw[t0.cell g0 i hi,cY i hi]
 ·rw[t1.cell g1 i hi,bI i hi]
 ·rw[t2.cell g2 i hi,IA i hi]
def Mw(cs:Array L):Obj->Obj|V _ t frozen=>V cs t frozen|o=>o
def vI(W:B):B:={W with heap:=(((W.heap.modify 2 (Mw (DS.map fun z=>S .u64 z).toArray)).modify 3 (Mw (DU.map fun z=>S f z).toArray)).modify 4 (Mw (TH.map fun z=>S f z).toArray)).modify 0 (Mw (TI.map fun z=>S .u8 z).toArray)}
end
end Go.Proofs.YtieoehicoocpjaaGreatDoor
