/-
  Texts of this proof, joined, with few blanks: AcApp, TenRow, ProofBut, Frame11, FrameG.
-/
import Derived.Laws.AppendOwnNone
import Derived.Laws.CopyRow
import Derived.Lib.AppendZerosOnto
import Derived.Lib.SliceRun
import Derived.Lib.LaidTab
import Derived.Test.YtpimcmbjdcjmlaaGreatDoorCards
import Derived.Test.YtpimcmbjdcjmlaaGreatDoorTie
import Derived.Test.YtpimcmbjdcjmlaaGreatDoorQ3
import Derived.Deep.SlicePairs
import Derived.Lib.SmallJoins
set_option maxRecDepth 100000
set_option maxHeartbeats 8000000
open Go renaming World->B,Value->L,TypeId->tB,info_parts->tE,maxLen->tJ,Addr->tL,Oper->tZ,Operand->sA
open Go.Builtin renaming append_->M,clear_->d,zeroCells->tC,lenOf->tH,firstCells->tK,copy_->tW
open Go.DataW renaming trod_int->S
open Go.IntKind renaming i64->X
open Go.Lib renaming TabIs->R,cells_of_tab->Y,tabData->tG
open Go.Obj renaming cells->tA
open Go.Proofs.Tryz renaming prog->A,underlying3->J,underlying247->tP,underlying40->tQ
open Go.Value renaming slice->E,int->T,agg->tD
open Go.World renaming grownBy->V,setCell->f,cell?->tI
open List renaming length_map->N,eq_nil_of_length_eq_zero->O,range->tM,getElem?_take->tN,flatMap_cons->tR,mem_flatMap->tS,not_mem_nil->tU,cons_append->tV,nil_append->tX,mem_cons->tY
open Option renaming some->C,none->F
open Option.some renaming inj->I
namespace Go.Proofs.YtpimcmbjdcjmlaaGreatDoor
open Go.RowKit
theorem Ey{w:B}{o:tZ}{a:Act}{K:Act->B->Prop}{Q:Exit->Act->B->Prop}(s x:sA)(ho:o.op=.call {callee:=.builtin .append,args:=#[s,x],argTypes:=#[40,40]})(rb:Nat)(v:L)(l:List Ac)(hs:a.eval s=v)(hown:UL rb w v l)(ad:tL)(cap:Nat)(us:List AV)(hx:a.eval x=E (C ad) us.length cap)(hc:∀j u,(Jk us)[j]?=C u->w.cell? (ad.add j)=C u)(hpt:∀y∈us,Qf 0 w y.2 y.1.data)(h0:0<us.length)(hl:(l.length+us.length)*48<=140737488355328)(hbase:rb<=w.heap.size)(h:∀v' w',UL rb w' v' (l++us.map (·.1))->V w w' v.ownBlock->(∀g,v'.ownBlock=C g->v.ownBlock=C g∨w.heap.size<=g)->K (a.put o.dst v') w'):o.wp A a w K Q:=by
 obtain⟨i0,hi,hz0,hz1,hz2⟩:=tE M9;have hrow:v.ownBlock=F∨∃g cur t fz,v.ownBlock=C g∧0<=g∧w.heap[g]?=C (tA cur t fz)∧t≠5:=by rcases hown.row with h|⟨g,cur,fz,e,_,h⟩;(·exact .inl h);·exact .inr ⟨g,cur,_,fz,e,Nat.zero_le _,h,mE⟩
 obtain⟨vs,hul,hr,hp⟩:=hown;refine wp_append_lies w s x 40 ho rb 42 i0 (tD #[T X 0,T X 0,T X 0,E F 0 0]) 4 48 tQ hi hz0 hz1 hz2 rfl (by decide) v l.length (Jk vs) hs hr ad us.length cap (Jk us) hx (jA us) hc ?_ h0 (by unfold tJ;omega) hl hbase _ rfl ?_;·intro u hu;obtain⟨p,hp1,hp2⟩:=tS.1 hu;have:=hpt p hp1;simp only[tY,tU,or_false]at hp2;rcases hp2 with rfl|rfl|rfl|rfl;(·rfl);(·rfl);(·rfl);·exact Zc this
 ·intro g cap w' q1 q2 q3 _;refine h _ w' ⟨vs++us,by simp[hul],?_,?_⟩ q2 (fun g' e=>by cases e;exact q3.imp id (fun e=>by show w.heap.size<=g;omega));(·rw[M2,List.length_append,N];exact q1);·intro y hy;rcases List.mem_append.1 hy with hy|hy;(·exact(hp y hy).keptT q2 hrow);·exact(hpt y hy).keptT q2 hrow
theorem Vh{P:Program}{w:B}(base:Nat)(t ty e:tB)(i:TypeInfo)(size:Nat)(ht:P.underlying t=C (.slice e))(hi:P.info? e=C i)(v:L)(n:Nat)(xs:List L)(hown:w.ownsRow base e size v n xs)(ad:Option tL)(c:Nat):(M #[t,t] ty #[v,E ad 0 c]).run P w=.ok v w:=by
 rcases hown.2with⟨rfl,rfl⟩|⟨g,cap,cur,rfl,_,_,hnc,_⟩;·cases ad<;>simp[M,run_underlying ht,sizeOf,typeInfo,hi,tH,tK,loadCells,loadCellsFrom]
 ·cases ad<;>simp[M,run_underlying ht,sizeOf,typeInfo,hi,tH,tK,loadCells,loadCellsFrom,hnc,storeCells]
theorem j9{w:B}{o:tZ}{a:Act}{K:Act->B->Prop}{Q:Exit->Act->B->Prop}(s x:sA)(ho:o.op=.call {callee:=.builtin .append,args:=#[s,x],argTypes:=#[40,40]})(rb:Nat)(v:L)(l:List Ac)(hs:a.eval s=v)(hown:UL rb w v l)(r2:Nat)(u:L)(m:List Ac)(hx:a.eval x=u)(hsrc:UL r2 w u m)(hl:(l.length+m.length)*48<=140737488355328)(hbase:rb<=w.heap.size)(h:∀v' w',UL rb w' v' (l++m)->V w w' v.ownBlock->(∀g,v'.ownBlock=C g->v.ownBlock=C g∨w.heap.size<=g)->K (a.put o.dst v') w'):o.wp A a w K Q:=by
 by_cases h0:m.length=0;·obtain⟨xa,xc,rfl⟩:=hsrc.shape;obtain⟨i0,hi,hz0,hz1,hz2⟩:=tE M9;obtain⟨vs,hul,hr,hp⟩:=hown;have hrun:=Vh (P:=A) rb 40 o.type 42 i0 4 tQ hi v l.length (Jk vs) hr xa xc;rw[h0]at hx;unfold Oper.wp;simp[execOp,ho,resolve,invoke,builtin,hs,hx,hrun,Result.andThen];refine h v w ?_ ⟨rfl,rfl,rfl,Nat.le_refl _,fun _ _ _=>rfl⟩ (fun _ e=>.inl e);rw[O h0,List.append_nil];exact⟨vs,hul,hr,hp⟩
 ·obtain⟨us,hul,hr,hp⟩:=hsrc;(have hlen:us.length=m.length:=by rw[<-hul];simp);rcases hr.2with⟨_,e⟩|⟨g,cap,cur,rfl,hb,hg,hn,hm,hcs,ht⟩;(·exact absurd e h0);·(have hcell:∀j y,(Jk us)[j]?=C y->w.cell? ((⟨g,0,F⟩:tL).add j)=C y:=by intro j y hj;(have hlt:j<m.length*4:=by have:=(List.getElem?_eq_some_iff.1 hj).1;rw[hr.1]at this;exact this);(have e2:(cur.toList.take (m.length*4))[j]?=(Jk us)[j]?:=by rw[ht]);rw[tN,if_pos hlt,hj]at e2;rw[ZX,Nat.zero_add];simp[tI,hg];simpa using e2);refine Ey s x ho rb v l hs hown ⟨g,0,F⟩ cap us (by rw[hx,hlen]) hcell hp (by omega) (by rw[hlen];exact hl) hbase ?_;rw[hul];exact h
theorem Pg{w:B}{ops:Array tZ}{rest:List tZ}{o:tZ}{a:Act}{Q:Exit->Act->B->Prop}(hgd:o.guard=F)(s x:sA)(ho:o.op=.call {callee:=.builtin .append,args:=#[s,x],argTypes:=#[40,40]})(rb:Nat)(v:L)(l:List Ac)(hs:a.eval s=v)(hown:UL rb w v l)(r2:Nat)(u:L)(m:List Ac)(hx:a.eval x=u)(hsrc:UL r2 w u m)(hl:(l.length+m.length)*48<=140737488355328)(hbase:rb<=w.heap.size)(h:∀v' w',UL rb w' v' (l++m)->V w w' v.ownBlock->(∀g,v'.ownBlock=C g->v.ownBlock=C g∨w.heap.size<=g)->wpList A ops Q rest (a.put o.dst v') w'):wpList A ops Q (o::rest) a w:=wpList_plain hgd fun _ hK=>j9 s x ho rb v l hs hown r2 u m hx hsrc hl hbase fun v' w' h1 h2 h3=>hK _ _ (h v' w' h1 h2 h3)
theorem Cp{w:B}(rb:Nat)(nb:Nat)(us:List AV)(hb:w.heap[nb]?=C (tA ⟨Jk us⟩ 42))(hr:rb<=nb)(hl:us.length<=1000)(hpt:∀y∈us,Qf 0 w y.2 y.1.data):UL rb w (E (C ⟨nb,0,F⟩) us.length us.length) (us.map (·.1)):=by
 refine⟨us,rfl,⟨by rw[N,jA],.inr ⟨nb,us.length,⟨Jk us⟩,by rw[N],hr,hb,by rw[N];omega,by unfold tJ;omega,by simp[jA],?_⟩⟩,hpt⟩;rw[N,List.take_of_length_le (by simp[jA])]
abbrev VP:=L×L
def YY(w:B)(g:Nat)(all:List VP):Prop:=w.heap[g]?=C (tA (flat all).toArray 55 (0,0))
def JK(w:B)(g:Nat)(all:List VP):B:=w.setRow g (flat all).toArray
theorem YY.set{w:B}{g:Nat}{all:List VP}(h:YY w g all)(all':List VP):YY (JK w g all') g all':=setRow_heap w g _ _ _ _ h
theorem Wv{w:B}{g:Nat}{all:List VP}(h:YY w g all):JK w g all=w:=setRow_self w g _ _ _ h
theorem YY.lt{w:B}{g:Nat}{all:List VP}(h:YY w g all):g<w.heap.size:=(Array.getElem?_eq_some_iff.1 h).1
theorem YY.drew{w:B}{g:Nat}{all:List VP}(h:YY w g all):YY w.drew g all:=h
theorem KS(w:B)(g:Nat)(all:List VP):V w (JK w g all) (C g):=⟨rfl,rfl,rfl,by
 simp[JK,World.setRow],fun k _ hne=>setRow_other w g k _ (fun e=>hne (by
 rw[e]))⟩
theorem Yk{w w1 w2:B}{r:Option Nat}(h1:V w w1 r)(h2:V w1 w2 r):V w w2 r:=⟨h2.os.trans h1.os,h2.tape.trans h1.tape,h2.output.trans h1.output,Nat.le_trans h1.size h2.size,fun k hk hn=>(h2.block k (Nat.lt_of_lt_of_le hk h1.size) hn).trans (h1.block k hk hn)⟩
theorem XW{w w1:B}{r:Option Nat}(h1:V w w1 F):V w w1 r:=⟨h1.os,h1.tape,h1.output,h1.size,fun k hk _=>h1.block k hk (by
 simp)⟩
theorem yX:∀(n:Nat)(cs:List L),cs.length=n*2->∃vs:List VP,vs.length=n∧flat vs=cs|0,cs,h=>⟨[],rfl,by rw[O (by omega:cs.length=0)];rfl⟩|n+1,[],h=>by simp at h|n+1,[_],h=>by simp at h;omega|n+1,a::b::r,h=>by obtain⟨vs,h1,h2⟩:=yX n r (by simp at h;omega);exact⟨(a,b)::vs,by simp[h1],by simp only[flat,tR,tV,tX]at h2⊢;rw[h2]⟩
theorem CQ:∀(a b:List VP),flat a=flat b->a=b|[],[],_=>rfl|[],x::r,h=>by simp[flat]at h|x::r,[],h=>by simp[flat]at h|x::r,y::s,h=>by simp only[flat,tR,tV,tX,List.cons.injEq]at h;obtain⟨h1,h2,h3⟩:=h;rw[CQ r s h3,Prod.ext h1 h2]
def EI(l:List VP):Prop:=∀x∈l,x.1.oneCell'=true∧x.2.oneCell'=true
theorem EI.flat{l:List VP}(h:EI l):∀u∈flat l,u.oneCell'=true:=by
 intro u hu;simp only[Go.Proofs.YtpimcmbjdcjmlaaGreatDoor.flat,tS,tY,tU,or_false]at hu;obtain⟨x,hx,rfl|rfl⟩:=hu;·exact(h x hx).1
 ·exact(h x hx).2
def lJ(base:Nat)(w:B)(x:VP)(t:Tn):Prop:=Qf base w x.1 t.1∧QK base w x.2 t.2
def lM:VP:=(undef,undef)
def YQ(base:Nat)(w:B)(vs:List VP)(l:FL):Prop:=vs.length=l.length∧∀i,i<l.length->lJ base w (vs.getD i lM) (l.getD i ([],[]))
theorem YQ.take{base:Nat}{w:B}{vs:List VP}{l:FL}(h:YQ base w vs l)(n:Nat):YQ base w (vs.take n) (l.take n):=by
 refine⟨by simp[h.1],fun i hi=>?_⟩;have hi':i<n∧i<l.length:=by simp at hi;omega
 have:=h.2 i hi'.2;rwa[show(vs.take n).getD i lM=vs.getD i lM by simp[hi'.1],show(l.take n).getD i ([],[])=l.getD i ([],[])by simp[hi'.1]]
theorem YQ.drop{base:Nat}{w:B}{vs:List VP}{l:FL}(h:YQ base w vs l)(n:Nat):YQ base w (vs.drop n) (l.drop n):=by
 refine⟨by simp[h.1],fun i hi=>?_⟩;have hi':n+i<l.length:=by simp at hi;omega
 have:=h.2 (n+i) hi';rwa[show(vs.drop n).getD i lM=vs.getD (n+i) lM by simp,show(l.drop n).getD i ([],[])=l.getD (n+i) ([],[])by simp]
theorem YQ.append{base:Nat}{w:B}{vs us:List VP}{l m:FL}(h:YQ base w vs l)(h2:YQ base w us m):YQ base w (vs++us) (l++m):=by
 refine⟨by simp[h.1,h2.1],fun i hi=>?_⟩;rw[Jh,Jh,h.1];by_cases hil:i<l.length;·rw[if_pos hil,if_pos hil];exact h.2 i hil
 ·rw[if_neg hil,if_neg hil];exact h2.2 _ (by simp at hi;omega)
theorem YQ.one{base:Nat}{w:B}{x:VP}{t:Tn}(h:lJ base w x t):YQ base w [x] [t]:=⟨rfl,fun i hi=>by
 obtain rfl:i=0:=by simpa using hi
 exact h⟩
theorem YQ.kept{base:Nat}{w w':B}{vs:List VP}{l:FL}(h:YQ base w vs l){row:Option Nat}(hg:V w w' row)(hrow:row=F∨∃g cur t fz,row=C g∧base<=g∧w.heap[g]?=C (tA cur t fz)∧t≠5∧t≠35):YQ base w' vs l:=⟨h.1,fun i hi=>⟨((h.2 i hi).1).keptT hg (lB hrow),((h.2 i hi).2).kept hg hrow⟩⟩
theorem YQ.oneV{base:Nat}{w:B}{vs:List VP}{l:FL}(h:YQ base w vs l):EI vs:=by
 intro x hx;obtain⟨i,hi,rfl⟩:=List.mem_iff_getElem.1 hx;have:=h.2 i (by rw[<-h.1];exact hi);rw[show vs.getD i lM=vs[i]by simp[hi]]at this;exact⟨Zc this.1,yM this.2⟩
theorem YY.rowOf{base:Nat}{w:B}{g:Nat}{all:List VP}(h:YY w g all)(hb:base<=g):(C g:Option Nat)=F∨∃g' cur t fz,(C g:Option Nat)=C g'∧base<=g'∧w.heap[g']?=C (tA cur t fz)∧t≠5∧t≠35:=.inr ⟨g,_,_,_,rfl,hb,h,gL,gH⟩
theorem YY.cells{w:B}{g:Nat}{all:List VP}(h:YY w g all)(p:Nat):∀j u,(flat (all.drop p))[j]?=C u->w.cell? ((⟨g,p*2,F⟩:tL).add j)=C u:=by
 intro j u hj;rw[EZ,List.getElem?_drop]at hj;rw[ZX];have:=h;unfold YY at this;simp[tI,this];exact hj
theorem YY.cellsT{w:B}{g:Nat}{all:List VP}(h:YY w g all)(p n:Nat):∀j u,(flat ((all.drop p).take n))[j]?=C u->w.cell? ((⟨g,p*2,F⟩:tL).add j)=C u:=by
 intro j u hj;refine h.cells p j u ?_;rw[jL,tN]at hj;split at hj;·exact hj
 ·cases hj
theorem vU{base:Nat}{w:B}{g:Nat}{all:List VP}{l:FL}(h:YY w g all)(hb:base<=g)(hl:l.length<=all.length)(hm:all.length<=tJ)(he:YQ 0 w (all.take l.length) l):ZA base w (E (C ⟨g,0,F⟩) l.length all.length) l:=by
 refine⟨all.take l.length,he.1,⟨by rw[Ku,he.1],.inr ⟨g,all.length,_,rfl,hb,h,hl,hm,by simp[Ku],?_⟩⟩,fun i hi=>he.2 i hi⟩;rw[jL]
theorem ZA.elim{base:Nat}{w:B}{v:L}{l:FL}(h:ZA base w v l):(v=E F 0 0∧l=[])∨∃g all,v=E (C ⟨g,0,F⟩) l.length (List.length all)∧YY w g all∧base<=g∧l.length<=all.length∧all.length<=tJ∧YQ 0 w (all.take l.length) l:=by
 obtain⟨vs,hl,hr,h3⟩:=h;rcases hr.2with⟨rfl,h0⟩|⟨g,cap,cur,rfl,hb,hg,hn,hm,hs,ht⟩;·exact .inl ⟨rfl,O h0⟩
 ·obtain⟨all,ha,hf⟩:=yX cap cur.toList (by simpa using hs);(have hcur:cur=(flat all).toArray:=by rw[hf]);subst hcur;have e:all.take l.length=vs:=CQ _ _ (by rw[jL];simpa using ht);exact .inr ⟨g,all,by rw[ha],hg,hb,by omega,by omega,by rw[e];exact⟨hl,fun i hi=>h3 i hi⟩⟩
theorem G4:A.underlying 44=C (.slice 55):=Tryz.underlying44
theorem Tr(all news:List VP)(o:Nat):(((flat all).toArray.toList.take (o*2)++flat news++(flat all).toArray.toList.drop (o*2+(flat news).length)).toArray)=(flat (all.take o++news++all.drop (o+news.length))).toArray:=by
 rw[JU,JU,jL,EZ,Ku,show(o+news.length)*2=o*2+news.length*2by omega]
theorem VC(w:B)(g:Nat)(all news:List VP)(hb:YY w g all)(ty:tB)(o dLen dCap:Nat)(a:tL)(sLen sCap:Nat)(hn:news.length=Nat.min sLen dLen)(hsrc:∀j v,(flat news)[j]?=C v->w.cell? (a.add j)=C v)(hfit:o+news.length<=all.length)(h1:EI news):(tW #[44,44] ty #[E (C ⟨g,o*2,F⟩) dLen dCap,E (C a) sLen sCap]).run A w=.ok (goInt news.length) (JK w g (all.take o++news++all.drop (o+news.length))):=by
 obtain⟨i0,hi,hz0,hz1,hz2⟩:=tE Tc;have hf:=run_firstCells_some (P:=A) w 2 news.length a sLen sCap (flat news) (Ku _) hsrc;have hst:=run_storeCells_at A g (o*2) _ (flat news) 0 _ w hb (by simp[Ku];omega) h1.flat;simp only[Nat.add_zero]at hst;rw[Tr]at hst;have hmin:sLen.min dLen=news.length:=hn.symm;simp[tW,run_underlying G4,tH,sizeOf,typeInfo,hi,hz1,hmin,hf,hst,JK]
theorem Fg(w:B)(g:Nat)(all news:List VP)(hb:YY w g all)(ty:tB)(n:Nat)(a:tL)(m c:Nat)(hn:news.length=m)(hsrc:∀j v,(flat news)[j]?=C v->w.cell? (a.add j)=C v)(hfit:n+m<=all.length)(h1:EI news):(M #[44,44] ty #[E (C ⟨g,0,F⟩) n all.length,E (C a) m c]).run A w=.ok (E (C ⟨g,0,F⟩) (n+m) all.length) (JK w g (all.take n++news++all.drop (n+m))):=by
 obtain⟨i0,hi,hz0,hz1,hz2⟩:=tE Tc;have:=run_append_room (P:=A) w 44 ty 55 i0 G4 hi g n all.length _ hb a m c (flat news) (by rw[Ku,hz1,hn]) hsrc h1.flat hfit (by rw[hz1];simp[Ku];omega);rw[this,hz1,Tr,hn];rfl
def Nf:VP:=(E F 0 0,E F 0 0)
theorem eH(w:B):(zeroValue 55).run A w=.ok (tD #[E F 0 0,E F 0 0]) w:=by
 kernel_rfl
theorem SX(w:B)(g:Nat)(all:List VP)(hb:YY w g all)(ty:tB)(o c:Nat)(hfit:o<all.length):(d #[44] ty #[E (C ⟨g,o*2,F⟩) 1 c]).run A w=.ok (.tuple #[]) (JK w g (all.take o++[Nf]++all.drop (o+1))):=by
 have hst:=run_storeCells_at A g (o*2) _ (flat [Nf]) 0 _ w hb (by simp[Ku];omega) (by intro u hu;simp[flat,Nf]at hu;rw[hu];rfl);simp only[Nat.add_zero]at hst;rw[Tr]at hst;have hz:(tC (tD #[E F 0 0,E F 0 0]).cells 1).toList=flat [Nf]:=by kernel_rfl
 simp only[d,List.getElem?_toArray,List.getElem?_cons_zero,Sem.run_bind,run_underlying G4,Result.andThen_ok,eH,hz,hst,Sem.run_pure];rfl
theorem BR(w:B)(ty:tB)(a:Option tL)(c:Nat):(d #[44] ty #[E a 0 c]).run A w=.ok (.tuple #[]) w:=by
 cases a<;>simp[d,run_underlying G4]
theorem BH(w:B)(g:Nat)(all:List VP)(hb:YY w g all)(ty:tB)(n k:Nat)(hk:0<k)(hn:n<=all.length)(hg:all.length<n+k)(hl:n+k<=1000):∃rest:List VP,k<=rest.length∧n+rest.length<=tJ∧(M #[44,3] ty #[E (C ⟨g,0,F⟩) n all.length,T X k]).run A w=.ok (E (C ⟨w.heap.size,0,F⟩) (n+k) (n+rest.length)) (w.drew.alloc (tA (flat (all.take n++rest)).toArray 55)):=by
 obtain⟨i0,hi,hz0,hz1,hz2⟩:=tE Tc;have hold:=run_firstCells_some (P:=A) w.drew 2 n ⟨g,0,F⟩ n all.length (flat (all.take n)) (by rw[Ku];simp;omega) (by have:=hb.drew.cellsT 0 n;simpa using this);rw[<-hz1]at hold;have hr:=Lib.run_append_grow_zeros (P:=A) w 44 3 ty 55 i0 _ X X G4 (by kernel_rfl) hi hz0 (C ⟨g,0,F⟩) n all.length (flat (all.take n)) hold k hk (by omega) hg (by omega) (by rw[hz2];omega) (by rw[hz2];exact growslice_fits hg (by omega));have hge:=grownCap_ge w (n+k) all.length 55;have hle:=grownCap_le_maxLen w (n+k) all.length 55 (by unfold tJ;omega);generalize grownCap w (n+k) all.length 55=G at*;obtain⟨rest,r1,r2⟩:=yX (G-n) (tC (tD #[E F 0 0,E F 0 0]).cells k++tC (tD #[E F 0 0,E F 0 0]).cells (G-(n+k))).toList (by(have e:(tD #[E F 0 0,E F 0 0]).cells.size=2:=by decide);simp only[Array.length_toList,Array.size_append,size_zeroCells,e];omega);refine⟨rest,by omega,by omega,?_⟩;rw[hr];congr 1;·rw[r1];congr 1;omega
 ·congr 2;rw[JU,r2];simp[Array.append_assoc]
theorem KG.agg{w:B}{v:L}{p:Cj}(h:KG w v p):∃sa sc ka kc va vc,v=tD #[.bool p.empty,E sa p.steps.length sc,E ka p.pair.1.length kc,E va p.pair.2.length vc]:=by
 obtain⟨vs,vk,vv,rfl,h0,h1,h2⟩:=h;obtain⟨sa,sc,rfl⟩:=h0.shape;obtain⟨ka,kc,rfl⟩:=h1.shape;obtain⟨va,vc,rfl⟩:=h2.shape;exact⟨sa,sc,ka,kc,va,vc,rfl⟩
theorem zK{w:B}{c b:Nat}(h:b≠c)(x y z u:L):((((f w ⟨c,0,F⟩ x).setCell ⟨c,1,F⟩ y).setCell ⟨c,2,F⟩ z).setCell ⟨c,3,F⟩ u).heap[b]?=w.heap[b]?:=by
 have one:∀(w:B)(i:Nat)(u:L),(f w ⟨c,i,F⟩ u).heap[b]?=w.heap[b]?:=fun w i u=>by simp only[f,Array.getElem?_modify];rw[if_neg (by simpa using h.symm)]
 rw[one,one,one,one]
theorem GP{w:B}{c:Nat}{x y z u:L}{t:tB}(h:w.heap[c]?=C (tA #[x,y,z,u] t)):f w ⟨c,0,F⟩ x=w∧f w ⟨c,1,F⟩ y=w∧f w ⟨c,2,F⟩ z=w∧f w ⟨c,3,F⟩ u=w:=by
 refine⟨?_,?_,?_,?_⟩;all_goals rw[setCell_eq_setRow w c _ _ _ _ _ h];exact setRow_self w c _ _ _ h
section
open Go.ChangeShapes Go.WideShapes Go.ChangeAt Go.RowKit
def CX:List Int:=[1,32898,9223372036854808714,9223372039002292224,32907,2147483649,9223372039002292353,9223372036854808585,138,136,2147516425,2147483658,2147516555,9223372036854775947,9223372036854808713,9223372036854808579,9223372036854808578,9223372036854775936,32778,9223372039002259466,9223372039002292353,9223372036854808704,2147483649,9223372039002292232]
def CY:List Int:=[10,7,11,17,18,3,5,16,8,21,24,4,15,23,19,13,12,2,20,14,22,9,6,1]
def Rs:List Int:=[1,3,6,10,15,21,28,36,45,55,2,14,27,41,56,8,25,43,62,18,39,61,20,44]
def Rv:List Int:=[0,0,3,7,11,3,0,0,3]
def mR:List (String×DataW Unit):=[("canopy/digest.roundNumbers",tG .u64 CX),("canopy/digest.laneWalk",tG X CY),("canopy/digest.laneTurns",tG X Rs),("canopy/wire.parts",tG .u8 Rv)]
theorem g0:A.globalNamed "canopy/digest.roundNumbers"=C 2:=by
 kernel_rfl
theorem g1:A.globalNamed "canopy/digest.laneWalk"=C 3:=by
 kernel_rfl
theorem g2:A.globalNamed "canopy/digest.laneTurns"=C 4:=by
 kernel_rfl
theorem mY:(A.globals[2]?).map (·.type)=C 240:=by
 kernel_rfl
theorem nE:(A.globals[3]?).map (·.type)=C 247:=by
 kernel_rfl
theorem nD:(A.globals[4]?).map (·.type)=C 247:=by
 kernel_rfl
theorem dH:A.cellsOf 240=24:=by
 kernel_rfl
theorem Lu:A.cellsOf 247=24:=by
 kernel_rfl
theorem eP:A.cellsOf 223=1:=by
 kernel_rfl
theorem bD:A.cellsOf 3=1:=by
 kernel_rfl
theorem fY(i:Nat)(h:i<24):CX.getD i 0=U (Jy.getD i 0):=(by
 decide+kernel:∀i:Fin 24,CX.getD i.1 0=U (Jy.getD i.1 0)) ⟨i,h⟩
theorem eI(i:Nat)(h:i<24):CY.getD i 0=((Jx.getD i 0:Nat):Int):=(by
 decide+kernel:∀i:Fin 24,CY.getD i.1 0=((Jx.getD i.1 0:Nat):Int)) ⟨i,h⟩
theorem OU(i:Nat)(h:i<24):Rs.getD i 0=((J6.getD i 0:Nat):Int):=(by
 decide+kernel:∀i:Fin 24,Rs.getD i.1 0=((J6.getD i.1 0:Nat):Int)) ⟨i,h⟩
theorem g3:A.globalNamed "canopy/wire.parts"=C 0:=by
 kernel_rfl
theorem nB:(A.globals[0]?).map (·.type)=C 84:=by
 kernel_rfl
theorem eS:A.cellsOf 84=9:=by
 kernel_rfl
theorem eO:A.cellsOf 5=1:=by
 kernel_rfl
theorem aY(i:Nat)(h:i<9):Rv.getD i 0=((Ns i:Nat):Int):=(by
 decide+kernel:∀i:Fin 9,Rv.getD i.1 0=((Ns i.1:Nat):Int)) ⟨i,h⟩
theorem L2{W:B}(h:laidMet A mR W):Uz W∧Yu W:=by
 obtain⟨ps,⟨a1,b1,cs1,f1,p1,q1,hg1,ht1,hv1,hd1,⟨a2,b2,cs2,f2,p2,q2,hg2,ht2,hv2,hd2,⟨a3,b3,cs3,f3,p3,q3,hg3,ht3,hv3,hd3,⟨a4,b4,cs4,f4,p4,q4,hg4,ht4,hv4,hd4,_,_⟩,_⟩,_⟩,_⟩,_⟩:=h;obtain rfl:=I (g0.symm.trans hg1);obtain rfl:=I (g1.symm.trans hg2);obtain rfl:=I (g2.symm.trans hg3);obtain rfl:=I (g3.symm.trans hg4);obtain rfl:=I (mY.symm.trans ht1);obtain rfl:=I (nE.symm.trans ht2);obtain rfl:=I (nD.symm.trans ht3);obtain rfl:=I (nB.symm.trans ht4);have t0:R A W "canopy/digest.roundNumbers" .u64 CX:=by unfold R;rw[hv1,<-Y Tryz.underlying240 Tryz.underlying223 eP dH hd1]
 have t1:R A W "canopy/digest.laneWalk" X CY:=by unfold R;rw[hv2,<-Y tP J bD Lu hd2]
 have t2:R A W "canopy/digest.laneTurns" X Rs:=by unfold R;rw[hv3,<-Y tP J bD Lu hd3]
 have t3:R A W "canopy/wire.parts" .u8 Rv:=by unfold R;rw[hv4,<-Y Tryz.underlying84 Tryz.underlying5 eO eS hd4]
 refine⟨fun i hi=>by rw[t3.cell g3 i hi,aY i hi],fun i hi=>?_,fun i hi=>?_,fun i hi=>?_⟩;·rw[t0.cell g0 i hi,fY i hi]
 ·rw[t1.cell g1 i hi,eI i hi]
 ·rw[t2.cell g2 i hi,OU i hi]
def Dj(cs:Array L):Obj->Obj|tA _ t frozen=>tA cs t frozen|o=>o
def Pj(W:B):B:={W with heap:=(((W.heap.modify 2 (Dj (CX.map fun z=>T .u64 z).toArray)).modify 3 (Dj (CY.map fun z=>T X z).toArray)).modify 4 (Dj (Rs.map fun z=>T X z).toArray)).modify 0 (Dj (Rv.map fun z=>T .u8 z).toArray)}
end
section
open Go.ChangeShapes Go.WideShapes Go.ChangeAt Go.RowKit Go.Deep Go.Joins
instance:Inhabited Gr:=⟨CU⟩
theorem fZ:A.cellsOf 3=1:=by
 kernel_rfl
theorem La{H:Type}{enc:tB×L->H}{W:B}{hd:Bool}{fuel:Nat}{a:Option tL}{n cap:Nat}{x:DataW H×List MemPlace}{t e:tB}{f0 f1 f2 f3 f4:Field}(ht:A.underlying t=C (.slice e))(he:A.underlying e=C (.struct #[f0,f1,f2,f3,f4]))(ce:A.cellsOf e=5)(o0:f0.offset=0)(o1:f1.offset=1)(o2:f2.offset=2)(o3:f3.offset=3)(o4:f4.offset=4)(t0:f0.type=3)(t1:f1.type=3)(t2:f2.type=3)(t3:f3.type=3)(t4:f4.type=3)(h:DataW.trod enc A W 0 (fun _=>true) hd fuel t [E a n cap]=C x):∃l:List Gr,Uq W (E a n cap) l∧cN l:=by
 rcases open_slice ht h with⟨hcs,_⟩|⟨y,len,c,m,k,D,Pl,hcs,hb,hl,hm,hmm,hx,hcell⟩;·simp at hcs;obtain⟨rfl,rfl,rfl⟩:=hcs;exact⟨[],⟨F,0,rfl,Nat.le_refl _,.inl rfl⟩,fun g hg=>by cases hg⟩
 ·simp at hcs;obtain⟨rfl,rfl,rfl⟩:=hcs;(have hmc:m=cap:=by simpa using hmm);subst hmc;(have each:∀i,i<m->∃q:Gr,(W.cell? (y.add (i*5))=C (T X q.kind)∧W.cell? (y.add (i*5+1))=C (T X q.sess)∧W.cell? (y.add (i*5+2))=C (T X q.name)∧W.cell? (y.add (i*5+3))=C (T X q.key)∧W.cell? (y.add (i*5+4))=C (T X q.value))∧Tz q:=by intro i hi;obtain⟨cs',g1,g2⟩:=hcell i hi;rw[ce]at g1;obtain⟨_,hlen,hcc⟩:=World.cells?_some g1;obtain⟨xs,k',hk,hxy,_,hxl,hf⟩:=DataW.trod_struct he g2;match xs,hxl,cs',hlen with|[y0,y1,y2,y3,y4],_,[v0,v1,v2,v3,v4],_=>have s0:=hf 0 f0 rfl;have s1:=hf 1 f1 rfl;have s2:=hf 2 f2 rfl;have s3:=hf 3 f3 rfl;have s4:=hf 4 f4 rfl;rw[t0]at s0;rw[t1]at s1;rw[t2]at s2;rw[t3]at s3;rw[t4]at s4;simp[o0,o1,o2,o3,o4,fZ]at s0 s1 s2 s3 s4;have e0:=hcc 0 (by omega);have e1:=hcc 1 (by omega);have e2:=hcc 2 (by omega);have e3:=hcc 3 (by omega);have e4:=hcc 4 (by omega);rw[add_add]at e0 e1 e2 e3 e4;obtain⟨z0,hz0,hy0,w0⟩:=S J s0;obtain⟨z1,hz1,hy1,w1⟩:=S J s1;obtain⟨z2,hz2,hy2,w2⟩:=S J s2;obtain⟨z3,hz3,hy3,w3⟩:=S J s3;obtain⟨z4,hz4,hy4,w4⟩:=S J s4;simp at hz0 hz1 hz2 hz3 hz4;subst hz0 hz1 hz2 hz3 hz4;exact⟨⟨z0,z1,z2,z3,z4⟩,⟨by simpa using e0,by simpa using e1,by simpa using e2,by simpa using e3,by simpa using e4⟩,⟨UK w0,UK w1,UK w2,UK w3,UK w4⟩⟩);obtain⟨q,hq⟩:=choose_lt each;(have hlen:((tM n).map fun i=>q i).length=n:=by simp);(have hget:∀i,i<n->((tM n).map fun i=>q i).getD i CU=q i:=by intro i hi;simp[hi]);refine⟨(tM n).map fun i=>q i,⟨_,m,by rw[hlen],by omega,?_⟩,?_⟩;(·by_cases h0:n=0;(·left;subst h0;rfl);·right;obtain⟨b,o,sp⟩:=y;have h00:=(hq 0 (by omega)).1.1;(obtain rfl:sp=F:=by cases sp with|none=>rfl|some z=>simp[Addr.add,tI]at h00;split at h00<;>simp at h00);refine⟨b,o,rfl,fun i hi=>?_⟩;rw[hlen]at hi;obtain⟨⟨g0,g1,g2,g3,g4⟩,_⟩:=hq i (by omega);rw[ZX]at g0 g1 g2 g3 g4;rw[hget i hi];exact⟨g0,g1,g2,g3,g4⟩);·intro g hg;obtain⟨i,hi,rfl⟩:=List.mem_map.1 hg;exact(hq i (by have:=List.mem_range.1 hi;omega)).2
end
end Go.Proofs.YtpimcmbjdcjmlaaGreatDoor
