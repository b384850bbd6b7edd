/-
  Texts of this proof, joined, with few blanks: TenRow, FCProve, FCRoot, RootMem, PCPr, ProofBut, Frame11, FrameG, SvM, RqRd, TpApp, RqWt, TpRec.
-/
import Derived.Laws.CopyRow
import Derived.Lib.AppendZerosOnto
import Derived.Lib.SliceRun
import Derived.Test.YtaljfgkjfogmeaaGreatDoorQ3
import Derived.Lib.LaidTab
import Derived.Test.YtaljfgkjfogmeaaGreatDoorCards
import Derived.Test.YtaljfgkjfogmeaaGreatDoorTie
import Derived.Deep.SlicePairs
import Derived.Lib.SmallJoins
import Derived.Deep.RegionWith
import Derived.Handy
set_option maxRecDepth 100000
set_option maxHeartbeats 8000000
open Array renaming getElem?_eq_some_iff->X
open Go renaming World->C,Value->F,undef->tC,TypeId->tD,info_parts->tS,Calls->tU,maxLen->sA,Addr->sF
open Go.Builtin renaming clear_->tH,zeroCells->tK,append_->tW,copy_->sB,lenOf->sI
open Go.DataW renaming trod_int->d
open Go.Ending renaming returned->tE
open Go.IntKind renaming i64->T
open Go.Lib renaming TabIs->Y,cells_of_tab->tG,tabData->tN
open Go.Obj renaming cells->S
open Go.Proofs.Tryz renaming prog->A,underlying3->O,underlying270->tX
open Go.Value renaming slice->J,int->M,agg->tB,tuple->tJ,ownBlock->tP
open Go.World renaming grownBy->L,setCell->tI,cell?->tM
open List renaming eq_nil_of_length_eq_zero->V,flatMap_cons->tL,range->tQ,getElem?_take->tV,cons_append->tY,not_mem_nil->tZ,nil_append->sC,mem_cons->sD
open Nat renaming lt_of_lt_of_le->tA,le_trans->sE,add_zero->sG,zero_add->sH
open Option renaming some->E,none->I
open Option.some renaming inj->N,injEq->tR
namespace Go.Proofs.YtaljfgkjfogmeaaGreatDoor
open Go.RowKit
abbrev VP:=F×F
def YX(w:C)(g:Nat)(all:List VP):Prop:=w.heap[g]?=E (S (flat all).toArray 131 (0,0))
def JH(w:C)(g:Nat)(all:List VP):C:=w.setRow g (flat all).toArray
theorem YX.set{w:C}{g:Nat}{all:List VP}(h:YX w g all)(all':List VP):YX (JH w g all') g all':=setRow_heap w g _ _ _ _ h
theorem L5{w:C}{g:Nat}{all:List VP}(h:YX w g all):JH w g all=w:=setRow_self w g _ _ _ h
theorem YX.lt{w:C}{g:Nat}{all:List VP}(h:YX w g all):g<w.heap.size:=(X.1 h).1
theorem YX.drew{w:C}{g:Nat}{all:List VP}(h:YX w g all):YX w.drew g all:=h
theorem KQ(w:C)(g:Nat)(all:List VP):L w (JH w g all) (E g):=⟨rfl,rfl,rfl,by
 simp[JH,World.setRow],fun k _ hne=>setRow_other w g k _ (fun e=>hne (by
 rw[e]))⟩
theorem Yh{w w1 w2:C}{r:Option Nat}(h1:L w w1 r)(h2:L w1 w2 r):L w w2 r:=⟨h2.os.trans h1.os,h2.tape.trans h1.tape,h2.output.trans h1.output,sE h1.size h2.size,fun k hk hn=>(h2.block k (tA hk h1.size) hn).trans (h1.block k hk hn)⟩
theorem XT{w w1:C}{r:Option Nat}(h1:L w w1 I):L w w1 r:=⟨h1.os,h1.tape,h1.output,h1.size,fun k hk _=>h1.block k hk (by
 simp)⟩
theorem yA:∀(n:Nat)(cs:List F),cs.length=n*2->∃vs:List VP,vs.length=n∧flat vs=cs|0,cs,h=>⟨[],rfl,by rw[V (by omega:cs.length=0)];rfl⟩|n+1,[],h=>by simp at h|n+1,[_],h=>by simp at h;omega|n+1,a::b::r,h=>by obtain⟨vs,h1,h2⟩:=yA n r (by simp at h;omega);exact⟨(a,b)::vs,by simp[h1],by simp only[flat,tL,tY,sC]at h2⊢;rw[h2]⟩
theorem DX:∀(a b:List VP),flat a=flat b->a=b|[],[],_=>rfl|[],x::r,h=>by simp[flat]at h|x::r,[],h=>by simp[flat]at h|x::r,y::s,h=>by simp only[flat,tL,tY,sC,List.cons.injEq]at h;obtain⟨h1,h2,h3⟩:=h;rw[DX r s h3,Prod.ext h1 h2]
def RY(l:List VP):Prop:=∀x∈l,x.1.oneCell'=true∧x.2.oneCell'=true
theorem RY.flat{l:List VP}(h:RY l):∀u∈flat l,u.oneCell'=true:=by
 intro u hu;simp only[Go.Proofs.YtaljfgkjfogmeaaGreatDoor.flat,List.mem_flatMap,sD,tZ,or_false]at hu;obtain⟨x,hx,rfl|rfl⟩:=hu;·exact(h x hx).1
 ·exact(h x hx).2
def fL(base:Nat)(w:C)(x:VP)(t:Tn):Prop:=Qj base w x.1 t.1∧QN base w x.2 t.2
def fO:VP:=(tC,tC)
def YQ(base:Nat)(w:C)(vs:List VP)(l:FL):Prop:=vs.length=l.length∧∀i,i<l.length->fL base w (vs.getD i fO) (l.getD i ([],[]))
theorem YQ.take{base:Nat}{w:C}{vs:List VP}{l:FL}(h:YQ base w vs l)(n:Nat):YQ base w (vs.take n) (l.take n):=by
 refine⟨by simp[h.1],fun i hi=>?_⟩;have hi':i<n∧i<l.length:=by simp at hi;omega
 have:=h.2 i hi'.2;rwa[show(vs.take n).getD i fO=vs.getD i fO by simp[hi'.1],show(l.take n).getD i ([],[])=l.getD i ([],[])by simp[hi'.1]]
theorem YQ.drop{base:Nat}{w:C}{vs:List VP}{l:FL}(h:YQ base w vs l)(n:Nat):YQ base w (vs.drop n) (l.drop n):=by
 refine⟨by simp[h.1],fun i hi=>?_⟩;have hi':n+i<l.length:=by simp at hi;omega
 have:=h.2 (n+i) hi';rwa[show(vs.drop n).getD i fO=vs.getD (n+i) fO by simp,show(l.drop n).getD i ([],[])=l.getD (n+i) ([],[])by simp]
theorem YQ.append{base:Nat}{w:C}{vs us:List VP}{l m:FL}(h:YQ base w vs l)(h2:YQ base w us m):YQ base w (vs++us) (l++m):=by
 refine⟨by simp[h.1,h2.1],fun i hi=>?_⟩;rw[Ji,Ji,h.1];by_cases hil:i<l.length;·rw[if_pos hil,if_pos hil];exact h.2 i hil
 ·rw[if_neg hil,if_neg hil];exact h2.2 _ (by simp at hi;omega)
theorem YQ.one{base:Nat}{w:C}{x:VP}{t:Tn}(h:fL base w x t):YQ base w [x] [t]:=⟨rfl,fun i hi=>by
 obtain rfl:i=0:=by simpa using hi
 exact h⟩
theorem YQ.kept{base:Nat}{w w':C}{vs:List VP}{l:FL}(h:YQ base w vs l){row:Option Nat}(hg:L w w' row)(hrow:row=I∨∃g cur t fz,row=E g∧base<=g∧w.heap[g]?=E (S cur t fz)∧t≠5∧t≠56):YQ base w' vs l:=⟨h.1,fun i hi=>⟨((h.2 i hi).1).keptT hg (fE hrow),((h.2 i hi).2).kept hg hrow⟩⟩
theorem YQ.oneV{base:Nat}{w:C}{vs:List VP}{l:FL}(h:YQ base w vs l):RY vs:=by
 intro x hx;obtain⟨i,hi,rfl⟩:=List.mem_iff_getElem.1 hx;have:=h.2 i (by rw[<-h.1];exact hi);rw[show vs.getD i fO=vs[i]by simp[hi]]at this;exact⟨ZD this.1,xR this.2⟩
theorem YX.rowOf{base:Nat}{w:C}{g:Nat}{all:List VP}(h:YX w g all)(hb:base<=g):(E g:Option Nat)=I∨∃g' cur t fz,(E g:Option Nat)=E g'∧base<=g'∧w.heap[g']?=E (S cur t fz)∧t≠5∧t≠56:=.inr ⟨g,_,_,_,rfl,hb,h,dO,dK⟩
theorem YX.cells{w:C}{g:Nat}{all:List VP}(h:YX w g all)(p:Nat):∀j u,(flat (all.drop p))[j]?=E u->w.cell? ((⟨g,p*2,I⟩:sF).add j)=E u:=by
 intro j u hj;rw[Ei,List.getElem?_drop]at hj;rw[Z4];have:=h;unfold YX at this;simp[tM,this];exact hj
theorem YX.cellsT{w:C}{g:Nat}{all:List VP}(h:YX w g all)(p n:Nat):∀j u,(flat ((all.drop p).take n))[j]?=E u->w.cell? ((⟨g,p*2,I⟩:sF).add j)=E u:=by
 intro j u hj;refine h.cells p j u ?_;rw[yR,tV]at hj;split at hj;·exact hj
 ·cases hj
theorem vC{base:Nat}{w:C}{g:Nat}{all:List VP}{l:FL}(h:YX w g all)(hb:base<=g)(hl:l.length<=all.length)(hm:all.length<=sA)(he:YQ 0 w (all.take l.length) l):Zx base w (J (E ⟨g,0,I⟩) l.length all.length) l:=by
 refine⟨all.take l.length,he.1,⟨by rw[Ku,he.1],.inr ⟨g,all.length,_,rfl,hb,h,hl,hm,by simp[Ku],?_⟩⟩,fun i hi=>he.2 i hi⟩;rw[yR]
theorem Zx.elim{base:Nat}{w:C}{v:F}{l:FL}(h:Zx base w v l):(v=J I 0 0∧l=[])∨∃g all,v=J (E ⟨g,0,I⟩) l.length (List.length all)∧YX w g all∧base<=g∧l.length<=all.length∧all.length<=sA∧YQ 0 w (all.take l.length) l:=by
 obtain⟨vs,hl,hr,h3⟩:=h;rcases hr.2with⟨rfl,h0⟩|⟨g,cap,cur,rfl,hb,hg,hn,hm,hs,ht⟩;·exact .inl ⟨rfl,V h0⟩
 ·obtain⟨all,ha,hf⟩:=yA cap cur.toList (by simpa using hs);(have hcur:cur=(flat all).toArray:=by rw[hf]);subst hcur;have e:all.take l.length=vs:=DX _ _ (by rw[yR];simpa using ht);exact .inr ⟨g,all,by rw[ha],hg,hb,by omega,by omega,by rw[e];exact⟨hl,fun i hi=>h3 i hi⟩⟩
theorem GP:A.underlying 25=E (.slice 131):=Tryz.underlying25
theorem FW(all news:List VP)(o:Nat):(((flat all).toArray.toList.take (o*2)++flat news++(flat all).toArray.toList.drop (o*2+(flat news).length)).toArray)=(flat (all.take o++news++all.drop (o+news.length))).toArray:=by
 rw[JU,JU,yR,Ei,Ku,show(o+news.length)*2=o*2+news.length*2by omega]
theorem Vv(w:C)(g:Nat)(all news:List VP)(hb:YX w g all)(ty:tD)(o dLen dCap:Nat)(a:sF)(sLen sCap:Nat)(hn:news.length=Nat.min sLen dLen)(hsrc:∀j v,(flat news)[j]?=E v->w.cell? (a.add j)=E v)(hfit:o+news.length<=all.length)(h1:RY news):(sB #[25,25] ty #[J (E ⟨g,o*2,I⟩) dLen dCap,J (E a) sLen sCap]).run A w=.ok (goInt news.length) (JH w g (all.take o++news++all.drop (o+news.length))):=by
 obtain⟨i0,hi,hz0,hz1,hz2⟩:=tS Fz;have hf:=run_firstCells_some (P:=A) w 2 news.length a sLen sCap (flat news) (Ku _) hsrc;have hst:=run_storeCells_at A g (o*2) _ (flat news) 0 _ w hb (by simp[Ku];omega) h1.flat;simp only[sG]at hst;rw[FW]at hst;have hmin:sLen.min dLen=news.length:=hn.symm;simp[sB,run_underlying GP,sI,sizeOf,typeInfo,hi,hz1,hmin,hf,hst,JH]
theorem PA(w:C)(g:Nat)(all news:List VP)(hb:YX w g all)(ty:tD)(n:Nat)(a:sF)(m c:Nat)(hn:news.length=m)(hsrc:∀j v,(flat news)[j]?=E v->w.cell? (a.add j)=E v)(hfit:n+m<=all.length)(h1:RY news):(tW #[25,25] ty #[J (E ⟨g,0,I⟩) n all.length,J (E a) m c]).run A w=.ok (J (E ⟨g,0,I⟩) (n+m) all.length) (JH w g (all.take n++news++all.drop (n+m))):=by
 obtain⟨i0,hi,hz0,hz1,hz2⟩:=tS Fz;have:=run_append_room (P:=A) w 25 ty 131 i0 GP hi g n all.length _ hb a m c (flat news) (by rw[Ku,hz1,hn]) hsrc h1.flat hfit (by rw[hz1];simp[Ku];omega);rw[this,hz1,FW,hn];rfl
def Es:VP:=(J I 0 0,J I 0 0)
theorem bG(w:C):(zeroValue 131).run A w=.ok (tB #[J I 0 0,J I 0 0]) w:=by
 kernel_rfl
theorem AU(w:C)(g:Nat)(all:List VP)(hb:YX w g all)(ty:tD)(o c:Nat)(hfit:o<all.length):(tH #[25] ty #[J (E ⟨g,o*2,I⟩) 1 c]).run A w=.ok (tJ #[]) (JH w g (all.take o++[Es]++all.drop (o+1))):=by
 have hst:=run_storeCells_at A g (o*2) _ (flat [Es]) 0 _ w hb (by simp[Ku];omega) (by intro u hu;simp[flat,Es]at hu;rw[hu];rfl);simp only[sG]at hst;rw[FW]at hst;have hz:(tK (tB #[J I 0 0,J I 0 0]).cells 1).toList=flat [Es]:=by kernel_rfl
 simp only[tH,List.getElem?_toArray,List.getElem?_cons_zero,Sem.run_bind,run_underlying GP,Result.andThen_ok,bG,hz,hst,Sem.run_pure];rfl
theorem CZ(w:C)(ty:tD)(a:Option sF)(c:Nat):(tH #[25] ty #[J a 0 c]).run A w=.ok (tJ #[]) w:=by
 cases a<;>simp[tH,run_underlying GP]
theorem CQ(w:C)(g:Nat)(all:List VP)(hb:YX w g all)(ty:tD)(n k:Nat)(hk:0<k)(hn:n<=all.length)(hg:all.length<n+k)(hl:n+k<=1000):∃rest:List VP,k<=rest.length∧n+rest.length<=sA∧(tW #[25,3] ty #[J (E ⟨g,0,I⟩) n all.length,M T k]).run A w=.ok (J (E ⟨w.heap.size,0,I⟩) (n+k) (n+rest.length)) (w.drew.alloc (S (flat (all.take n++rest)).toArray 131)):=by
 obtain⟨i0,hi,hz0,hz1,hz2⟩:=tS Fz;have hold:=run_firstCells_some (P:=A) w.drew 2 n ⟨g,0,I⟩ n all.length (flat (all.take n)) (by rw[Ku];simp;omega) (by have:=hb.drew.cellsT 0 n;simpa using this);rw[<-hz1]at hold;have hr:=Lib.run_append_grow_zeros (P:=A) w 25 3 ty 131 i0 _ T T GP (by kernel_rfl) hi hz0 (E ⟨g,0,I⟩) n all.length (flat (all.take n)) hold k hk (by omega) hg (by omega) (by rw[hz2];omega) (by rw[hz2];exact growslice_fits hg (by omega));have hge:=grownCap_ge w (n+k) all.length 131;have hle:=grownCap_le_maxLen w (n+k) all.length 131 (by unfold sA;omega);generalize grownCap w (n+k) all.length 131=G at*;obtain⟨rest,r1,r2⟩:=yA (G-n) (tK (tB #[J I 0 0,J I 0 0]).cells k++tK (tB #[J I 0 0,J I 0 0]).cells (G-(n+k))).toList (by(have e:(tB #[J I 0 0,J I 0 0]).cells.size=2:=by decide);simp only[Array.length_toList,Array.size_append,size_zeroCells,e];omega);refine⟨rest,by omega,by omega,?_⟩;rw[hr];congr 1;·rw[r1];congr 1;omega
 ·congr 2;rw[JU,r2];simp[Array.append_assoc]
def WN:Prop:=∀(w:C)(v r u:F)(l:FL)(n k:List UInt8),ZN w v l->Qe w r n->Qe w u k->Ge l->n.length<=140737488355328->k.length<=140737488355328->YH w->tU A 115 #[v,r,u] w fun e w'=>∃x y,e=tE (tJ #[x,y,M T (J8 l n k)])∧Zv 0 w' x (Kf l n k)∧Zv 0 w' y (Kj l n k)∧L w w' I
def IA:Prop:=∀(w:C)(v:F)(l:FL),ZN w v l->Ge l->YH w->tU A 114 #[v] w fun e w'=>∃x,e=tE (tJ #[x,M T (Q7 l)])∧XU w' x (G8 l)∧L w w' I
def aE(w:C)(b:Nat):Prop:=∃cur t fz,w.heap[b]?=E (S cur t fz)∧(t=5∨∃q,cur[0]?=E (M .u8 q))
def Cb(w:C)(b:Nat):Prop:=∃cur t fz,w.heap[b]?=E (S cur t fz)∧t≠5∧∀q,cur[0]?≠E (M .u8 q)
theorem aE.ne{w:C}{a b:Nat}(h:aE w a)(h':Cb w b):a≠b:=by
 rintro rfl;obtain⟨cur,t,fz,h1,h2⟩:=h;obtain⟨cur',t',fz',h3,h4,h5⟩:=h';rw[h1]at h3;simp only[tR,Obj.cells.injEq]at h3;obtain⟨rfl,rfl,_⟩:=h3;rcases h2 with h2|⟨q,h2⟩;·exact h4 h2
 ·exact h5 q h2
theorem Cb.grown{w w':C}{b:Nat}(h:Cb w b)(hg:L w w' I):Cb w' b:=by
 obtain⟨cur,t,fz,h1,h2⟩:=h;exact⟨cur,t,fz,by rw[hg.block b (X.1 h1).1 (by simp)];exact h1,h2⟩
def Uq(w:C)(v:F)(bs:List UInt8):Prop:=Qe w v bs∧(bs=[]∨∃b,v.ownBlock=E b∧b<w.heap.size∧aE w b)
theorem Q8.partSR{base':Nat}{w:C}{v:F}{bs:List UInt8}(h:Q8 base' w v bs):Uq w v bs:=by
 refine⟨h.slice,?_⟩;rcases h.2with⟨rfl,h0⟩|⟨g,cap,cur,rfl,hb,hg,_⟩;·exact .inl (V h0)
 ·exact .inr ⟨g,rfl,(X.1 hg).1,cur,_,_,hg,.inl rfl⟩
theorem ZG.partSR{w:C}{nb:Nat}{bs:List UInt8}(h:ZG w nb bs)(hl:bs.length=32):Uq w (J (E ⟨nb,0,I⟩) 32 32) bs:=by
 refine⟨h.slice32 hl,.inr ⟨nb,rfl,Vu (h.cell 0 (by omega)),?_⟩⟩;have hc:=h.cell 0 (by omega);obtain⟨t,hb⟩:=h;refine⟨_,t,_,hb,.inr ⟨((bs.getD 0 0).toNat:Int),?_⟩⟩;·simpa[tM,hb]using hc
theorem Rj{w:C}{v:F}{bs:List UInt8}(h:Uq w v bs):v.oneCell'=true:=by
 obtain⟨⟨a,cap,rfl,_⟩,_⟩:=h;rfl
def D9(w:C)(row:Option Nat):Prop:=row=I∨∃g,row=E g∧Cb w g
theorem Uq.kept{w w':C}{v:F}{bs:List UInt8}(h:Uq w v bs){row:Option Nat}(hg:L w w' row)(hrow:D9 w row):Uq w' v bs:=by
 obtain⟨hs,ho⟩:=h;rcases ho with rfl|⟨b,hb,hlt,hc⟩;·obtain⟨a,cap,rfl,hc,h⟩:=hs;refine⟨⟨a,cap,rfl,hc,?_⟩,.inl rfl⟩;rcases h with h|⟨b,o,rfl,h⟩;(·exact .inl h);·exact .inr ⟨b,o,rfl,fun i hi=>by simp at hi⟩
 ·(have hne:E b≠row:=by intro e;rcases hrow with rfl|⟨g,rfl,hg'⟩;(·cases e);·cases e;exact hc.ne hg' rfl);have hblk:=hg.block b hlt hne;refine⟨?_,.inr ⟨b,hb,tA hlt hg.size,?_⟩⟩;(·obtain⟨a,cap,rfl,hcp,h⟩:=hs;refine⟨a,cap,rfl,hcp,?_⟩;rcases h with h|⟨b',o,rfl,h⟩;(·exact .inl h);·refine .inr ⟨b',o,rfl,fun i hi=>?_⟩;simp[tP]at hb;subst hb;exact hg.cell (h i hi) (by simpa using hne));·obtain⟨cur,t,fz,hc,hc2⟩:=hc;exact⟨cur,t,fz,by rw[hblk];exact hc,hc2⟩
theorem Uq.grown{w w':C}{v:F}{bs:List UInt8}(h:Uq w v bs)(hg:L w w' I):Uq w' v bs:=h.kept hg (.inl rfl)
theorem fJ:(56:Nat)≠5:=by
 decide
def Vh(base:Nat)(w:C)(v:F)(l:PL):Prop:=∃vs:List (F×F),vs.length=l.length∧w.ownsRow base 56 2 v l.length (flat vs)∧D9 w v.ownBlock∧(∀k,v.ownBlock=E k->∃cur fz,w.heap[k]?=E (S cur 56 fz))∧∀i,i<l.length->Qj base w (vs.getD i (tC,tC)).1 (l.getD i ([],[])).1∧Uq w (vs.getD i (tC,tC)).2 (l.getD i ([],[])).2
theorem Hy(base:Nat)(w:C):Vh base w (J I 0 0) []:=⟨[],rfl,World.ownsRow_nil _ _ _ _,.inl rfl,fun k hk=>by
 simp[tP]at hk,fun i hi=>by
 simp at hi⟩
theorem Vh.lt{base:Nat}{w:C}{v:F}{l:PL}(h:Vh base w v l):∀k,v.ownBlock=E k->base<=k∧k<w.heap.size:=by
 obtain⟨vs,_,h,_⟩:=h;exact World.ownsRow.lt h
theorem Vh.shape{base:Nat}{w:C}{v:F}{l:PL}(h:Vh base w v l):∃a cap,v=J a l.length cap:=by
 obtain⟨vs,_,h,_⟩:=h;rcases h.2with⟨rfl,h0⟩|⟨g,cap,cur,rfl,_⟩;·exact⟨I,0,by rw[h0]⟩
 ·exact⟨_,cap,rfl⟩
theorem D9.grownN{w w':C}{r:Option Nat}(h:D9 w r)(hg:L w w' I):D9 w' r:=by
 rcases h with h|⟨g,h,h2⟩;·exact .inl h
 ·exact .inr ⟨g,h,h2.grown hg⟩
theorem Vh.grownNone{base:Nat}{w w':C}{v:F}{l:PL}(h:Vh base w v l)(hg:L w w' I):Vh base w' v l:=by
 obtain⟨vs,h1,h2,h3,h4,h5⟩:=h;refine⟨vs,h1,World.ownsRow.kept h2 hg ?_,h3.grownN hg,fun k hk=>?_,fun i hi=>⟨(h5 i hi).1.kept hg (.inl rfl),(h5 i hi).2.grown hg⟩⟩;·cases hv:v.ownBlock with|none=>exact .inl rfl|some k=>exact .inr (by simp)
 ·obtain⟨cur,fz,hb⟩:=h4 k hk;exact⟨cur,fz,by rw[hg.block k (X.1 hb).1 (by simp)];exact hb⟩
theorem Vh.list{base:Nat}{w:C}{v:F}{l:PL}(h:Vh base w v l):Qs w v l:=by
 obtain⟨vs,hl,hr,_,_,h3⟩:=h;have hr':=hr;rcases hr.2with⟨rfl,h0⟩|⟨g,cap,cur,rfl,hb,hg,hn,hm,hs,ht⟩;·have:l=[]:=V h0;subst this;exact Yg w
 ·refine⟨_,cap,rfl,hn,.inr ⟨g,0,rfl,fun i hi=>?_⟩⟩;have hf:=xD vs i (by omega);refine⟨(vs.getD i (tC,tC)).1,(vs.getD i (tC,tC)).2,?_,?_,(h3 i hi).1.1,(h3 i hi).2.1⟩;(·have:=Gt.cells hr' _ _ hf.1;rw[sH];exact this);·have:=Gt.cells hr' _ _ hf.2;rw[sH];exact this
theorem Dc{base:Nat}{w W w1:C}{v:F}{l:PL}(h:L w W I)(ho:Vh base W v l)(hb:w.heap.size<=base)(hg:L W w1 v.ownBlock):L w w1 I:=⟨hg.os.trans h.os,hg.tape.trans h.tape,hg.output.trans h.output,sE h.size hg.size,fun i hi hn=>(hg.block i (tA hi h.size) (fun e=>by
 have:=(ho.lt i e.symm).1;omega)).trans (h.block i hi hn)⟩
theorem kD{w:C}{ops:Array Oper}{rest:List Oper}{o:Oper}{a:Act}{Q:Exit->Act->C->Prop}(hgd:o.guard=I)(s x:Operand)(ho:o.op=.call {callee:=.builtin .append,args:=#[s,x],argTypes:=#[53,53]})(base:Nat)(v:F)(l:PL)(hs:a.eval s=v)(hown:Vh base w v l)(vk vv:F)(p:Pr)(hk:Qj base w vk p.1)(hv:Uq w vv p.2)(nb:Nat)(hb:w.heap[nb]?=E (S #[vk,vv] 56))(hx:a.eval x=J (E ⟨nb,0,I⟩) 1 1)(hl:(l.length+1)*48<=140737488355328)(hbase:base<=w.heap.size)(h:∀v' w',Vh base w' v' (l++[p])->L w w' v.ownBlock->wpList A ops Q rest (a.put o.dst v') w'):wpList A ops Q (o::rest) a w:=by
 obtain⟨i0,hi,hz0,hz1,hz2⟩:=tS DQ;obtain⟨vs,hvl,hr,hrow,hty,hp⟩:=hown;have hrow5:v.ownBlock=I∨∃g cur fz,v.ownBlock=E g∧base<=g∧w.heap[g]?=E (S cur 56 fz):=by cases hv':v.ownBlock with|none=>exact .inl rfl|some k=>obtain⟨cur,fz,hb'⟩:=hty k hv';exact .inr ⟨k,cur,fz,rfl,(World.ownsRow.lt hr k hv').1,hb'⟩
 refine wpList_plain hgd fun K hK=>?_;refine wp_append_lies w s x 53 ho base 56 i0 (tB #[J I 0 0,J I 0 0]) 2 48 Tryz.underlying53 hi hz0 hz1 hz2 rfl (by decide) v l.length (flat vs) hs hr ⟨nb,0,I⟩ 1 1 (flat [(vk,vv)]) hx rfl (World.news_of_block (cs:=#[vk,vv]) hb) ?_ (by omega) (by unfold sA;omega) hl hbase _ rfl ?_;·intro u hu;simp only[flat,tL,List.flatMap_nil,List.append_nil,sD,tZ,or_false]at hu;rcases hu with rfl|rfl;(·exact ZD hk);·exact Rj hv
 ·intro g cap w' h1 h2 _ _;(have hparts:∀i,i<(l++[p]).length->Qj base w' ((vs++[(vk,vv)]).getD i (tC,tC)).1 ((l++[p]).getD i ([],[])).1∧Uq w' ((vs++[(vk,vv)]).getD i (tC,tC)).2 ((l++[p]).getD i ([],[])).2:=by intro i hi;rw[Ji,Ji,hvl];by_cases hil:i<l.length;(·rw[if_pos hil,if_pos hil];exact⟨(hp i hil).1.kept h2 hrow5,(hp i hil).2.kept h2 hrow⟩);·rw[if_neg hil,if_neg hil];(obtain rfl:i=l.length:=by simp at hi;omega);rw[Nat.sub_self];exact⟨hk.kept h2 hrow5,hv.kept h2 hrow⟩);(have hblk:∃cur,w'.heap[g]?=E (S cur 56 (0,0))∧cur.toList.take ((l.length+1)*2)=flat vs++flat [(vk,vv)]:=by rcases h1.2with⟨e,_⟩|⟨g',cap',cur,e,_,hg',_,_,_,ht⟩;(·cases e);·simp only[Value.slice.injEq,tR,Addr.mk.injEq]at e;obtain⟨⟨rfl,_⟩,_,_⟩:=e;exact⟨cur,hg',ht⟩);obtain⟨cur,hcur,htk⟩:=hblk;(have hfirst:∀q,cur[0]?≠E (M .u8 q):=by intro q hq;have e0:=(xD (vs++[(vk,vv)]) 0 (by simp)).1;rw[JU,<-htk,tV,if_pos (by omega)]at e0;have hp0:=(hparts 0 (by simp)).1;obtain⟨a0,c0,e1⟩:=hp0.1.shape;rw[e1]at e0;(have:cur.toList[0]?=cur[0]?:=by simp);rw[Nat.zero_mul,this,hq]at e0;cases e0);refine hK _ _ (h _ w' ⟨vs++[(vk,vv)],by simp[hvl],?_,.inr ⟨g,rfl,cur,_,_,hcur,fJ,hfirst⟩,fun k hk'=>?_,hparts⟩ h2);(·rw[JU,List.length_append];exact h1);·simp[tP]at hk';subst hk';exact⟨cur,_,hcur⟩
def Ox:Prop:=∀(w:C)(v u:F)(l:PL)(k:List UInt8),Qs w v l->Qe w u k->kP l->YH w->tU A 127 #[v,u] w fun e w'=>∃x,e=tE (tJ #[x,M T (Xa l k)])∧Zv w.heap.size w' x (xW l k)∧L w w' I
theorem UI.agg{w:C}{v:F}{p:Ds}(h:UI w v p):∃sa sc ka kc va vc,v=tB #[.bool p.empty,J sa p.steps.length sc,J ka p.pair.1.length kc,J va p.pair.2.length vc]:=by
 obtain⟨vs,vk,vv,rfl,h0,h1,h2⟩:=h;obtain⟨sa,sc,rfl⟩:=h0.shape;obtain⟨ka,kc,rfl⟩:=h1.shape;obtain⟨va,vc,rfl⟩:=h2.shape;exact⟨sa,sc,ka,kc,va,vc,rfl⟩
theorem qW{w:C}{c b:Nat}(h:b≠c)(x y z u:F):((((tI w ⟨c,0,I⟩ x).setCell ⟨c,1,I⟩ y).setCell ⟨c,2,I⟩ z).setCell ⟨c,3,I⟩ u).heap[b]?=w.heap[b]?:=by
 have one:∀(w:C)(i:Nat)(u:F),(tI w ⟨c,i,I⟩ u).heap[b]?=w.heap[b]?:=fun w i u=>by simp only[tI,Array.getElem?_modify];rw[if_neg (by simpa using h.symm)]
 rw[one,one,one,one]
theorem GF{w:C}{c:Nat}{x y z u:F}{t:tD}(h:w.heap[c]?=E (S #[x,y,z,u] t)):tI w ⟨c,0,I⟩ x=w∧tI w ⟨c,1,I⟩ y=w∧tI w ⟨c,2,I⟩ z=w∧tI w ⟨c,3,I⟩ u=w:=by
 refine⟨?_,?_,?_,?_⟩;all_goals rw[setCell_eq_setRow w c _ _ _ _ _ h];exact setRow_self w c _ _ _ h
section
open Go.ChangeShapes Go.WideShapes Go.ChangeAt Go.RowKit
def DZ:List Int:=[1,32898,9223372036854808714,9223372039002292224,32907,2147483649,9223372039002292353,9223372036854808585,138,136,2147516425,2147483658,2147516555,9223372036854775947,9223372036854808713,9223372036854808579,9223372036854808578,9223372036854775936,32778,9223372039002259466,9223372039002292353,9223372036854808704,2147483649,9223372039002292232]
def D4:List Int:=[10,7,11,17,18,3,5,16,8,21,24,4,15,23,19,13,12,2,20,14,22,9,6,1]
def TO:List Int:=[1,3,6,10,15,21,28,36,45,55,2,14,27,41,56,8,25,43,62,18,39,61,20,44]
def TP:List Int:=[0,0,3,7,11,3,0,0,3]
def gU:List (String×DataW Unit):=[("canopy/digest.roundNumbers",tN .u64 DZ),("canopy/digest.laneWalk",tN T D4),("canopy/digest.laneTurns",tN T TO),("canopy/wire.parts",tN .u8 TP)]
theorem g0:A.globalNamed "canopy/digest.roundNumbers"=E 2:=by
 kernel_rfl
theorem g1:A.globalNamed "canopy/digest.laneWalk"=E 3:=by
 kernel_rfl
theorem g2:A.globalNamed "canopy/digest.laneTurns"=E 4:=by
 kernel_rfl
theorem iC:(A.globals[2]?).map (·.type)=E 265:=by
 kernel_rfl
theorem iI:(A.globals[3]?).map (·.type)=E 270:=by
 kernel_rfl
theorem iH:(A.globals[4]?).map (·.type)=E 270:=by
 kernel_rfl
theorem aN:A.cellsOf 265=24:=by
 kernel_rfl
theorem Sr:A.cellsOf 270=24:=by
 kernel_rfl
theorem bM:A.cellsOf 253=1:=by
 kernel_rfl
theorem Ou:A.cellsOf 3=1:=by
 kernel_rfl
theorem cZ(i:Nat)(h:i<24):DZ.getD i 0=U (Jy.getD i 0):=(by
 decide+kernel:∀i:Fin 24,DZ.getD i.1 0=U (Jy.getD i.1 0)) ⟨i,h⟩
theorem bH(i:Nat)(h:i<24):D4.getD i 0=((Jw.getD i 0:Nat):Int):=(by
 decide+kernel:∀i:Fin 24,D4.getD i.1 0=((Jw.getD i.1 0:Nat):Int)) ⟨i,h⟩
theorem IM(i:Nat)(h:i<24):TO.getD i 0=((J6.getD i 0:Nat):Int):=(by
 decide+kernel:∀i:Fin 24,TO.getD i.1 0=((J6.getD i.1 0:Nat):Int)) ⟨i,h⟩
theorem g3:A.globalNamed "canopy/wire.parts"=E 0:=by
 kernel_rfl
theorem iF:(A.globals[0]?).map (·.type)=E 162:=by
 kernel_rfl
theorem bQ:A.cellsOf 162=9:=by
 kernel_rfl
theorem bL:A.cellsOf 5=1:=by
 kernel_rfl
theorem Oo(i:Nat)(h:i<9):TP.getD i 0=((ED i:Nat):Int):=(by
 decide+kernel:∀i:Fin 9,TP.getD i.1 0=((ED i.1:Nat):Int)) ⟨i,h⟩
theorem gX{W:C}(h:laidMet A gU W):UT W∧YH W:=by
 obtain⟨ps,⟨a1,b1,cs1,f1,p1,q1,hg1,ht1,hv1,hd1,⟨a2,b2,cs2,f2,p2,q2,hg2,ht2,hv2,hd2,⟨a3,b3,cs3,f3,p3,q3,hg3,ht3,hv3,hd3,⟨a4,b4,cs4,f4,p4,q4,hg4,ht4,hv4,hd4,_,_⟩,_⟩,_⟩,_⟩,_⟩:=h;obtain rfl:=N (g0.symm.trans hg1);obtain rfl:=N (g1.symm.trans hg2);obtain rfl:=N (g2.symm.trans hg3);obtain rfl:=N (g3.symm.trans hg4);obtain rfl:=N (iC.symm.trans ht1);obtain rfl:=N (iI.symm.trans ht2);obtain rfl:=N (iH.symm.trans ht3);obtain rfl:=N (iF.symm.trans ht4);have t0:Y A W "canopy/digest.roundNumbers" .u64 DZ:=by unfold Y;rw[hv1,<-tG Tryz.underlying265 Tryz.underlying253 bM aN hd1]
 have t1:Y A W "canopy/digest.laneWalk" T D4:=by unfold Y;rw[hv2,<-tG tX O Ou Sr hd2]
 have t2:Y A W "canopy/digest.laneTurns" T TO:=by unfold Y;rw[hv3,<-tG tX O Ou Sr hd3]
 have t3:Y A W "canopy/wire.parts" .u8 TP:=by unfold Y;rw[hv4,<-tG Tryz.underlying162 Tryz.underlying5 bL bQ hd4]
 refine⟨fun i hi=>by rw[t3.cell g3 i hi,Oo i hi],fun i hi=>?_,fun i hi=>?_,fun i hi=>?_⟩;·rw[t0.cell g0 i hi,cZ i hi]
 ·rw[t1.cell g1 i hi,bH i hi]
 ·rw[t2.cell g2 i hi,IM i hi]
def ME(cs:Array F):Obj->Obj|S _ t frozen=>S cs t frozen|o=>o
def Lq(W:C):C:={W with heap:=(((W.heap.modify 2 (ME (DZ.map fun z=>M .u64 z).toArray)).modify 3 (ME (D4.map fun z=>M T z).toArray)).modify 4 (ME (TO.map fun z=>M T z).toArray)).modify 0 (ME (TP.map fun z=>M .u8 z).toArray)}
end
section
open Go.ChangeShapes Go.WideShapes Go.ChangeAt Go.RowKit Go.Deep Go.Joins
instance:Inhabited Gr:=⟨kC⟩
theorem dA:A.cellsOf 3=1:=by
 kernel_rfl
theorem fI{H:Type}{enc:tD×F->H}{W:C}{hd:Bool}{fuel:Nat}{a:Option sF}{n cap:Nat}{x:DataW H×List MemPlace}{t e:tD}{f0 f1 f2 f3 f4:Field}(ht:A.underlying t=E (.slice e))(he:A.underlying e=E (.struct #[f0,f1,f2,f3,f4]))(ce:A.cellsOf e=5)(o0:f0.offset=0)(o1:f1.offset=1)(o2:f2.offset=2)(o3:f3.offset=3)(o4:f4.offset=4)(t0:f0.type=3)(t1:f1.type=3)(t2:f2.type=3)(t3:f3.type=3)(t4:f4.type=3)(h:DataW.trod enc A W 0 (fun _=>true) hd fuel t [J a n cap]=E x):∃l:List Gr,UL W (J a n cap) l∧S5 l:=by
 rcases open_slice ht h with⟨hcs,_⟩|⟨y,len,c,m,k,D,Pl,hcs,hb,hl,hm,hmm,hx,hcell⟩;·simp at hcs;obtain⟨rfl,rfl,rfl⟩:=hcs;exact⟨[],⟨I,0,rfl,Nat.le_refl _,.inl rfl⟩,fun g hg=>by cases hg⟩
 ·simp at hcs;obtain⟨rfl,rfl,rfl⟩:=hcs;(have hmc:m=cap:=by simpa using hmm);subst hmc;(have each:∀i,i<m->∃q:Gr,(W.cell? (y.add (i*5))=E (M T q.kind)∧W.cell? (y.add (i*5+1))=E (M T q.sess)∧W.cell? (y.add (i*5+2))=E (M T q.name)∧W.cell? (y.add (i*5+3))=E (M T q.key)∧W.cell? (y.add (i*5+4))=E (M T q.value))∧F4 q:=by intro i hi;obtain⟨cs',g1,g2⟩:=hcell i hi;rw[ce]at g1;obtain⟨_,hlen,hcc⟩:=World.cells?_some g1;obtain⟨xs,k',hk,hxy,_,hxl,hf⟩:=DataW.trod_struct he g2;match xs,hxl,cs',hlen with|[y0,y1,y2,y3,y4],_,[v0,v1,v2,v3,v4],_=>have s0:=hf 0 f0 rfl;have s1:=hf 1 f1 rfl;have s2:=hf 2 f2 rfl;have s3:=hf 3 f3 rfl;have s4:=hf 4 f4 rfl;rw[t0]at s0;rw[t1]at s1;rw[t2]at s2;rw[t3]at s3;rw[t4]at s4;simp[o0,o1,o2,o3,o4,dA]at s0 s1 s2 s3 s4;have e0:=hcc 0 (by omega);have e1:=hcc 1 (by omega);have e2:=hcc 2 (by omega);have e3:=hcc 3 (by omega);have e4:=hcc 4 (by omega);rw[add_add]at e0 e1 e2 e3 e4;obtain⟨z0,hz0,hy0,w0⟩:=d O s0;obtain⟨z1,hz1,hy1,w1⟩:=d O s1;obtain⟨z2,hz2,hy2,w2⟩:=d O s2;obtain⟨z3,hz3,hy3,w3⟩:=d O s3;obtain⟨z4,hz4,hy4,w4⟩:=d O s4;simp at hz0 hz1 hz2 hz3 hz4;subst hz0 hz1 hz2 hz3 hz4;exact⟨⟨z0,z1,z2,z3,z4⟩,⟨by simpa using e0,by simpa using e1,by simpa using e2,by simpa using e3,by simpa using e4⟩,⟨VS w0,VS w1,VS w2,VS w3,VS w4⟩⟩);obtain⟨q,hq⟩:=choose_lt each;(have hlen:((tQ n).map fun i=>q i).length=n:=by simp);(have hget:∀i,i<n->((tQ n).map fun i=>q i).getD i kC=q i:=by intro i hi;simp[hi]);refine⟨(tQ n).map fun i=>q i,⟨_,m,by rw[hlen],by omega,?_⟩,?_⟩;(·by_cases h0:n=0;(·left;subst h0;rfl);·right;obtain⟨b,o,sp⟩:=y;have h00:=(hq 0 (by omega)).1.1;(obtain rfl:sp=I:=by cases sp with|none=>rfl|some z=>simp[Addr.add,tM]at h00;split at h00<;>simp at h00);refine⟨b,o,rfl,fun i hi=>?_⟩;rw[hlen]at hi;obtain⟨⟨g0,g1,g2,g3,g4⟩,_⟩:=hq i (by omega);rw[Z4]at g0 g1 g2 g3 g4;rw[hget i hi];exact⟨g0,g1,g2,g3,g4⟩);·intro g hg;obtain⟨i,hi,rfl⟩:=List.mem_map.1 hg;exact(hq i (by have:=List.mem_range.1 hi;omega)).2
end
def Bq(r:Rp):List UInt8:=match r.pf with|E (f,_,_)=>G8 f|none=>[]
def Ma(r:Rp):Ds:=match r.pf with|E (f,n,k)=>Kf f n k|none=>U2
def N6(r:Rp):Ds:=match r.pf with|E (f,n,k)=>Kj f n k|none=>U2
def zI(w:C)(v:F)(r:Rp):Prop:=∃vv vp vr oe os ok ov ie is ik iv,v=tB #[M T r.sess,M T r.code,M T r.turn,.bool r.found,vv,vp,vr,oe,os,ok,ov,ie,is,ik,iv]∧Qe w vv r.value∧Qs w vp r.pairs∧Qe w vr (Bq r)∧UI w (tB #[oe,os,ok,ov]) (Ma r)∧UI w (tB #[ie,is,ik,iv]) (N6 r)
theorem zI.grown{w w':C}{v:F}{r:Rp}(h:zI w v r)(hg:L w w' I):zI w' v r:=by
 obtain⟨vv,vp,vr,oe,os,ok,ov,ie,is,ik,iv,rfl,h1,h2,h3,h4,h5⟩:=h;exact⟨vv,vp,vr,oe,os,ok,ov,ie,is,ik,iv,rfl,h1.grown hg,h2.grown hg,h3.grown hg,h4.grown hg,h5.grown hg⟩
def iB(w:C)(cs:List F)(r:Rp):Prop:=zI w (tB ⟨cs⟩) r
def iG(w:C)(cs:List F)(c:XC):Prop:=∃vw,cs=[M T c.turn,vw]∧Xn 0 w vw c.writes
def iE(w:C)(cs:List F)(f:FL):Prop:=∃v,cs=[v]∧Zx 0 w v f
def iD(_:C)(cs:List F)(n:Nat):Prop:=cs=[M T (n:Int)]
abbrev Ys:=JA 60 15 iB
abbrev Kr:=JA 208 2 iG
abbrev JX:=JA 25 1 iE
abbrev UY:=JA 3 1 iD
def Zo(v:Sv):List FL:=(tQ (v.commits.length+1)).map (QH v)
theorem UF(v:Sv):(Zo v).length=v.commits.length+1:=by
 simp[Zo]
theorem BJ(v:Sv){n:Nat}(h:n<=v.commits.length):(Zo v).getD n []=QH v n:=by
 simp[Zo,List.getD,List.getElem?_map,List.getElem?_range (show n<v.commits.length+1by omega)]
def Jk(v:Sv)(s:Nat):Int:=if v.waits s=true then 2 else if v.begun s=true then 1 else 0
def gT(_B:Nat)(w:C)(v:Sv)(s:Nat)(cs:Array F):Prop:=∃t vr vw,cs[7+s*4]?=E (M T (Jk v s))∧cs[7+s*4+1]?=E (M T t.start)∧cs[7+s*4+2]?=E vr∧cs[7+s*4+3]?=E vw∧Zb 0 w (fun w=>GI w (tB #[M T t.start,vr,vw]) t)∧(v.begun s=true->t=v.txns s)
structure YV (R B : Nat) (w : C) (v : Sv) (cs : Array F) : Prop where
  size : cs.size = 40
  up : cs[0]? = E (.bool v.up)
  tape : ∃ vd, cs[1]? = E vd ∧ Zb 0 w (fun w => Qe w vd v.tape.data)
  mark : cs[2]? = E (M T v.tape.synced)
  commits : ∃ u, cs[3]? = E u ∧ Kr B w u v.commits
  forests : ∃ u, cs[4]? = E u ∧ JX B w u (Zo v)
  synced : cs[5]? = E (M T (v.synced : Int))
  queue : ∃ u, cs[6]? = E u ∧ UY B w u v.queue
  sess : ∀ s, s < 8 -> gT B w v s cs
  replies : ∃ u, cs[39]? = E u ∧ Ys B w u v.out ∧ ∀ g, u.ownBlock = E g -> g < R
def ZI(R B:Nat)(w:C)(b:Nat)(v:Sv):Prop:=∃cs,B<=b∧w.heap[b]?=E (S cs 118 (0,0))∧YV R B w v cs
theorem Pf:vV 118:=.inl rfl
theorem kW:vV 60:=.inr (.inl rfl)
theorem gA:vV 208:=.inr (.inr (.inl rfl))
theorem gQ:vV 25:=.inr (.inr (.inr (.inl rfl)))
theorem f8:vV 3:=.inr (.inr (.inr (.inr rfl)))
theorem gT.later{B:Nat}{w w':C}{v:Sv}{s:Nat}{cs:Array F}(h:gT B w v s cs)(k:Kp B w w'):gT B w' v s cs:=by
 obtain⟨t,vr,vw,h1,h2,h3,h4,h5,h6⟩:=h;exact⟨t,vr,vw,h1,h2,h3,h4,h5.later k,h6⟩
theorem YV.grown{R B:Nat}{w w':C}{v:Sv}{cs:Array F}(h:YV R B w v cs)(hg:L w w' I):YV R B w' v cs:=by
 obtain⟨h0,h1,⟨x2,h2,k2⟩,h3,⟨x4,h4,k4⟩,⟨x5,h5,k5⟩,h6,⟨x7,h7,k7⟩,h8,⟨x9,h9,k9,r9⟩⟩:=h;exact⟨h0,h1,⟨x2,h2,k2.grown hg⟩,h3,⟨x4,h4,k4.grown hg⟩,⟨x5,h5,k5.grown hg⟩,h6,⟨x7,h7,k7.grown hg⟩,fun s hs=>(h8 s hs).later (Kp.grown hg),⟨x9,h9,k9.grown hg,r9⟩⟩
theorem YV.turned{R B:Nat}{w w':C}{v:Sv}{cs:Array F}(h:YV R B w v cs){g:Nat}{ds:Array F}{t:tD}{fz:Nat×Nat}(hk:Kp B w w')(hg:L w w' (E g))(hb:w.heap[g]?=E (S ds t fz))(h1':t≠60)(h2':t≠208)(h3':t≠25)(h4':t≠3):YV R B w' v cs:=by
 obtain⟨h0,h1,⟨x2,h2,k2⟩,h3,⟨x4,h4,k4⟩,⟨x5,h5,k5⟩,h6,⟨x7,h7,k7⟩,h8,⟨x9,h9,k9,r9⟩⟩:=h;exact⟨h0,h1,⟨x2,h2,k2.later hk⟩,h3,⟨x4,h4,k4.other (by decide) hk hg (.inr ⟨g,ds,t,fz,rfl,hb,h2'⟩)⟩,⟨x5,h5,k5.other (by decide) hk hg (.inr ⟨g,ds,t,fz,rfl,hb,h3'⟩)⟩,h6,⟨x7,h7,k7.other (by decide) hk hg (.inr ⟨g,ds,t,fz,rfl,hb,h4'⟩)⟩,fun s hs=>(h8 s hs).later hk,⟨x9,h9,k9.other (by decide) hk hg (.inr ⟨g,ds,t,fz,rfl,hb,h1'⟩),r9⟩⟩
theorem YV.box{R B:Nat}{w w':C}{v:Sv}{cs:Array F}(h:YV R B w v cs){nb:Nat}{ds:Array F}{fz:Nat×Nat}(hk:Kp B w w')(hg:L w w' (E nb))(hn:R<=nb)(hb:w.heap[nb]?=E (S ds 60 fz)):YV R B w' v cs:=by
 obtain⟨h0,h1,⟨x2,h2,k2⟩,h3,⟨x4,h4,k4⟩,⟨x5,h5,k5⟩,h6,⟨x7,h7,k7⟩,h8,⟨x9,h9,k9,r9⟩⟩:=h;refine⟨h0,h1,⟨x2,h2,k2.later hk⟩,h3,⟨x4,h4,k4.other (by decide) hk hg (.inr ⟨nb,ds,_,fz,rfl,hb,by decide⟩)⟩,⟨x5,h5,k5.other (by decide) hk hg (.inr ⟨nb,ds,_,fz,rfl,hb,by decide⟩)⟩,h6,⟨x7,h7,k7.other (by decide) hk hg (.inr ⟨nb,ds,_,fz,rfl,hb,by decide⟩)⟩,fun s hs=>(h8 s hs).later hk,⟨x9,h9,k9.kept hk (fun g e=>hg.block g (k9.lt g e).2 (fun q=>?_)),r9⟩⟩;have:=r9 g e;cases q;omega
theorem YV.more{R R' B:Nat}{w:C}{v:Sv}{cs:Array F}(h:YV R B w v cs)(hR:R<=R'):YV R' B w v cs:=by
 obtain⟨h0,h1,h2,h3,h4,h5,h6,h7,h8,⟨x9,h9,k9,r9⟩⟩:=h;exact⟨h0,h1,h2,h3,h4,h5,h6,h7,h8,⟨x9,h9,k9,fun g e=>tA (r9 g e) hR⟩⟩
theorem GJ{R B:Nat}{w:C}{v:Sv}{cs:Array F}(h:YV R B w v cs):∀q,cs[0]?≠E (M .u8 q):=fun q e=>by
 rw[h.up]at e;cases e
theorem X6{R B:Nat}{w w':C}{v:Sv}{b:Nat}{cs:Array F}(h:YV R B w v cs)(hB:B<=b)(hb:w.heap[b]?=E (S cs 118 (0,0)))(hg:L w w' (E b)):Kp B w w'∧YV R B w' v cs:=have k:=Kp.turn hg hB hb Pf (GJ h);⟨k,h.turned k hg hb (by
 decide) (by
 decide) (by
 decide) (by
 decide)⟩
theorem Ql{w:C}{b i:Nat}{cs:Array F}{t:tD}{u:F}{fz:Nat×Nat}(hb:w.heap[b]?=E (S cs t fz))(h:cs[i]?=E u):w.cell? ⟨b,i,I⟩=E u:=by
 simp[tM,hb,h]
theorem Qf{w:C}{b:Nat}{cs:Array F}{t:tD}(hb:w.heap[b]?=E (S cs t (0,0)))(i:Nat):w.frozen? ⟨b,i,I⟩=false:=by
 simp[World.frozen?,hb]
def OU:Prop:=∀(w:C)(v:F)(r:Rq),UT w->XD w v r->xY r->tU A 119 #[v] w fun e w'=>∃x,e=tE (tJ #[x,M T (Uf r)])∧Yr w' x (Zs r)∧L w w' I
def Ia:Prop:=∀(w:C)(v u:F)(t:V2)(c:XC),KR w v t->JZ w u c->xO t->EW c->YH w->tU A 124 #[v,u] w fun e w'=>∃x,e=tE (tJ #[x,M T (Vr Qm t c)])∧Yv w' x (zH Qm t c)∧L w w' I
def Lx:Prop:=∀(w:C)(v:F)(r:Rq),UT w->XD w v r->xY r->tU A 112 #[v] w fun e w'=>∃x,e=tE (tJ #[x,M T (Y5 r)])∧Z9 w' x (Xh r)∧L w w' I
def O9:Prop:=∀(w:C)(v:F)(t:V2),KR w v t->xO t->YH w->tU A 104 #[v] w fun e w'=>∃vs x,e=tE (tJ #[vs,x,M T (RS t)])∧Y1 w.heap.size w' vs (xX Qm t)∧Yv w' x (zQ Qm t)∧L w w' I
end Go.Proofs.YtaljfgkjfogmeaaGreatDoor
