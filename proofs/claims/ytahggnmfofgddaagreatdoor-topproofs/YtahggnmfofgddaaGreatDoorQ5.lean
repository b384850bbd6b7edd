/-
  Texts of this proof, joined, with few blanks: TenRow, ProofBut, Frame11, FrameG.
-/
import Derived.Laws.CopyRow
import Derived.Lib.AppendZerosOnto
import Derived.Lib.SliceRun
import Derived.Lib.LaidTab
import Derived.Test.YtahggnmfofgddaaGreatDoorCards
import Derived.Test.YtahggnmfofgddaaGreatDoorTie
import Derived.Test.YtahggnmfofgddaaGreatDoorQ3
import Derived.Deep.SlicePairs
import Derived.Lib.SmallJoins
set_option maxRecDepth 100000
set_option maxHeartbeats 8000000
open Go renaming World->B,Value->M,TypeId->Y,Addr->tI,info_parts->tJ,maxLen->tL
open Go.Builtin renaming clear_->R,zeroCells->S,append_->tB,copy_->tG,lenOf->tM
open Go.DataW renaming trod_int->L
open Go.IntKind renaming i64->T
open Go.Lib renaming TabIs->K,cells_of_tab->O,tabData->d
open Go.Proofs.Tryz renaming prog->A,underlying3->J,underlying234->tC
open Go.Value renaming slice->C,int->N,agg->X
open Go.World renaming setCell->Q,grownBy->V,cell?->tK
open List renaming eq_nil_of_length_eq_zero->f,range->tA,flatMap_cons->tD,cons_append->tE,nil_append->tH
open Option renaming some->E,none->F
open Option.some renaming inj->I
namespace Go.Proofs.YtahggnmfofgddaaGreatDoor
open Go.RowKit
abbrev VP:=M×M
def Jd(w:B)(g:Nat)(all:List VP):Prop:=w.heap[g]?=E (.cells (flat all).toArray 99 (0,0))
def J9(w:B)(g:Nat)(all:List VP):B:=w.setRow g (flat all).toArray
theorem Jd.set{w:B}{g:Nat}{all:List VP}(h:Jd w g all)(all':List VP):Jd (J9 w g all') g all':=setRow_heap w g _ _ _ _ h
theorem Ic{w:B}{g:Nat}{all:List VP}(h:Jd w g all):J9 w g all=w:=setRow_self w g _ _ _ h
theorem Jd.lt{w:B}{g:Nat}{all:List VP}(h:Jd w g all):g<w.heap.size:=(Array.getElem?_eq_some_iff.1 h).1
theorem Jd.drew{w:B}{g:Nat}{all:List VP}(h:Jd w g all):Jd w.drew g all:=h
theorem Uf(w:B)(g:Nat)(all:List VP):V w (J9 w g all) (E g):=⟨rfl,rfl,rfl,by
 simp[J9,World.setRow],fun k _ hne=>setRow_other w g k _ (fun e=>hne (by
 rw[e]))⟩
theorem Yr{w w1 w2:B}{r:Option Nat}(h1:V w w1 r)(h2:V w1 w2 r):V w w2 r:=⟨h2.os.trans h1.os,h2.tape.trans h1.tape,h2.output.trans h1.output,Nat.le_trans h1.size h2.size,fun k hk hn=>(h2.block k (Nat.lt_of_lt_of_le hk h1.size) hn).trans (h1.block k hk hn)⟩
theorem X9{w w1:B}{r:Option Nat}(h1:V w w1 F):V w w1 r:=⟨h1.os,h1.tape,h1.output,h1.size,fun k hk _=>h1.block k hk (by
 simp)⟩
theorem jJ:∀(n:Nat)(cs:List M),cs.length=n*2->∃vs:List VP,vs.length=n∧flat vs=cs|0,cs,h=>⟨[],rfl,by rw[f (by omega:cs.length=0)];rfl⟩|n+1,[],h=>by simp at h|n+1,[_],h=>by simp at h;omega|n+1,a::b::r,h=>by obtain⟨vs,h1,h2⟩:=jJ n r (by simp at h;omega);exact⟨(a,b)::vs,by simp[h1],by simp only[flat,tD,tE,tH]at h2⊢;rw[h2]⟩
theorem Bg:∀(a b:List VP),flat a=flat b->a=b|[],[],_=>rfl|[],x::r,h=>by simp[flat]at h|x::r,[],h=>by simp[flat]at h|x::r,y::s,h=>by simp only[flat,tD,tE,tH,List.cons.injEq]at h;obtain⟨h1,h2,h3⟩:=h;rw[Bg r s h3,Prod.ext h1 h2]
def Nd(l:List VP):Prop:=∀x∈l,x.1.oneCell'=true∧x.2.oneCell'=true
theorem Nd.flat{l:List VP}(h:Nd l):∀u∈flat l,u.oneCell'=true:=by
 intro u hu;simp only[Go.Proofs.YtahggnmfofgddaaGreatDoor.flat,List.mem_flatMap,List.mem_cons,List.not_mem_nil,or_false]at hu;obtain⟨x,hx,rfl|rfl⟩:=hu;·exact(h x hx).1
 ·exact(h x hx).2
def mN(base:Nat)(w:B)(x:VP)(t:Tn):Prop:=Qj base w x.1 t.1∧QP base w x.2 t.2
def mQ:VP:=(undef,undef)
def Y8(base:Nat)(w:B)(vs:List VP)(l:FL):Prop:=vs.length=l.length∧∀i,i<l.length->mN base w (vs.getD i mQ) (l.getD i ([],[]))
theorem Y8.take{base:Nat}{w:B}{vs:List VP}{l:FL}(h:Y8 base w vs l)(n:Nat):Y8 base w (vs.take n) (l.take n):=by
 refine⟨by simp[h.1],fun i hi=>?_⟩;have hi':i<n∧i<l.length:=by simp at hi;omega
 have:=h.2 i hi'.2;rwa[show(vs.take n).getD i mQ=vs.getD i mQ by simp[hi'.1],show(l.take n).getD i ([],[])=l.getD i ([],[])by simp[hi'.1]]
theorem Y8.drop{base:Nat}{w:B}{vs:List VP}{l:FL}(h:Y8 base w vs l)(n:Nat):Y8 base w (vs.drop n) (l.drop n):=by
 refine⟨by simp[h.1],fun i hi=>?_⟩;have hi':n+i<l.length:=by simp at hi;omega
 have:=h.2 (n+i) hi';rwa[show(vs.drop n).getD i mQ=vs.getD (n+i) mQ by simp,show(l.drop n).getD i ([],[])=l.getD (n+i) ([],[])by simp]
theorem Y8.append{base:Nat}{w:B}{vs us:List VP}{l m:FL}(h:Y8 base w vs l)(h2:Y8 base w us m):Y8 base w (vs++us) (l++m):=by
 refine⟨by simp[h.1,h2.1],fun i hi=>?_⟩;rw[Ju,Ju,h.1];by_cases hil:i<l.length;·rw[if_pos hil,if_pos hil];exact h.2 i hil
 ·rw[if_neg hil,if_neg hil];exact h2.2 _ (by simp at hi;omega)
theorem Y8.one{base:Nat}{w:B}{x:VP}{t:Tn}(h:mN base w x t):Y8 base w [x] [t]:=⟨rfl,fun i hi=>by
 obtain rfl:i=0:=by simpa using hi
 exact h⟩
theorem Y8.kept{base:Nat}{w w':B}{vs:List VP}{l:FL}(h:Y8 base w vs l){row:Option Nat}(hg:V w w' row)(hrow:row=F∨∃g cur t fz,row=E g∧base<=g∧w.heap[g]?=E (.cells cur t fz)∧t≠5∧t≠44):Y8 base w' vs l:=⟨h.1,fun i hi=>⟨((h.2 i hi).1).keptT hg (mH hrow),((h.2 i hi).2).kept hg hrow⟩⟩
theorem Y8.oneV{base:Nat}{w:B}{vs:List VP}{l:FL}(h:Y8 base w vs l):Nd vs:=by
 intro x hx;obtain⟨i,hi,rfl⟩:=List.mem_iff_getElem.1 hx;have:=h.2 i (by rw[<-h.1];exact hi);rw[show vs.getD i mQ=vs[i]by simp[hi]]at this;exact⟨ZQ this.1,yY this.2⟩
theorem Jd.rowOf{base:Nat}{w:B}{g:Nat}{all:List VP}(h:Jd w g all)(hb:base<=g):(E g:Option Nat)=F∨∃g' cur t fz,(E g:Option Nat)=E g'∧base<=g'∧w.heap[g']?=E (.cells cur t fz)∧t≠5∧t≠44:=.inr ⟨g,_,_,_,rfl,hb,h,i6,iX⟩
theorem Jd.cells{w:B}{g:Nat}{all:List VP}(h:Jd w g all)(p:Nat):∀j u,(flat (all.drop p))[j]?=E u->w.cell? ((⟨g,p*2,F⟩:tI).add j)=E u:=by
 intro j u hj;rw[Nq,List.getElem?_drop]at hj;rw[Xm];have:=h;unfold Jd at this;simp[tK,this];exact hj
theorem Jd.cellsT{w:B}{g:Nat}{all:List VP}(h:Jd w g all)(p n:Nat):∀j u,(flat ((all.drop p).take n))[j]?=E u->w.cell? ((⟨g,p*2,F⟩:tI).add j)=E u:=by
 intro j u hj;refine h.cells p j u ?_;rw[jZ,List.getElem?_take]at hj;split at hj;·exact hj
 ·cases hj
theorem Ps{base:Nat}{w:B}{g:Nat}{all:List VP}{l:FL}(h:Jd w g all)(hb:base<=g)(hl:l.length<=all.length)(hm:all.length<=tL)(he:Y8 0 w (all.take l.length) l):ZJ base w (C (E ⟨g,0,F⟩) l.length all.length) l:=by
 refine⟨all.take l.length,he.1,⟨by rw[KV,he.1],.inr ⟨g,all.length,_,rfl,hb,h,hl,hm,by simp[KV],?_⟩⟩,fun i hi=>he.2 i hi⟩;rw[jZ]
theorem ZJ.elim{base:Nat}{w:B}{v:M}{l:FL}(h:ZJ base w v l):(v=C F 0 0∧l=[])∨∃g all,v=C (E ⟨g,0,F⟩) l.length (List.length all)∧Jd w g all∧base<=g∧l.length<=all.length∧all.length<=tL∧Y8 0 w (all.take l.length) l:=by
 obtain⟨vs,hl,hr,h3⟩:=h;rcases hr.2with⟨rfl,h0⟩|⟨g,cap,cur,rfl,hb,hg,hn,hm,hs,ht⟩;·exact .inl ⟨rfl,f h0⟩
 ·obtain⟨all,ha,hf⟩:=jJ cap cur.toList (by simpa using hs);(have hcur:cur=(flat all).toArray:=by rw[hf]);subst hcur;have e:all.take l.length=vs:=Bg _ _ (by rw[jZ];simpa using ht);exact .inr ⟨g,all,by rw[ha],hg,hb,by omega,by omega,by rw[e];exact⟨hl,fun i hi=>h3 i hi⟩⟩
theorem qV:A.underlying 28=E (.slice 99):=Tryz.underlying28
theorem T8(all news:List VP)(o:Nat):(((flat all).toArray.toList.take (o*2)++flat news++(flat all).toArray.toList.drop (o*2+(flat news).length)).toArray)=(flat (all.take o++news++all.drop (o+news.length))).toArray:=by
 rw[Ki,Ki,jZ,Nq,KV,show(o+news.length)*2=o*2+news.length*2by omega]
theorem V2(w:B)(g:Nat)(all news:List VP)(hb:Jd w g all)(ty:Y)(o dLen dCap:Nat)(a:tI)(sLen sCap:Nat)(hn:news.length=Nat.min sLen dLen)(hsrc:∀j v,(flat news)[j]?=E v->w.cell? (a.add j)=E v)(hfit:o+news.length<=all.length)(h1:Nd news):(tG #[28,28] ty #[C (E ⟨g,o*2,F⟩) dLen dCap,C (E a) sLen sCap]).run A w=.ok (goInt news.length) (J9 w g (all.take o++news++all.drop (o+news.length))):=by
 obtain⟨i0,hi,hz0,hz1,hz2⟩:=tJ TO;have hf:=run_firstCells_some (P:=A) w 2 news.length a sLen sCap (flat news) (KV _) hsrc;have hst:=run_storeCells_at A g (o*2) _ (flat news) 0 _ w hb (by simp[KV];omega) h1.flat;simp only[Nat.add_zero]at hst;rw[T8]at hst;have hmin:sLen.min dLen=news.length:=hn.symm;simp[tG,run_underlying qV,tM,sizeOf,typeInfo,hi,hz1,hmin,hf,hst,J9]
theorem FM(w:B)(g:Nat)(all news:List VP)(hb:Jd w g all)(ty:Y)(n:Nat)(a:tI)(m c:Nat)(hn:news.length=m)(hsrc:∀j v,(flat news)[j]?=E v->w.cell? (a.add j)=E v)(hfit:n+m<=all.length)(h1:Nd news):(tB #[28,28] ty #[C (E ⟨g,0,F⟩) n all.length,C (E a) m c]).run A w=.ok (C (E ⟨g,0,F⟩) (n+m) all.length) (J9 w g (all.take n++news++all.drop (n+m))):=by
 obtain⟨i0,hi,hz0,hz1,hz2⟩:=tJ TO;have:=run_append_room (P:=A) w 28 ty 99 i0 qV hi g n all.length _ hb a m c (flat news) (by rw[KV,hz1,hn]) hsrc h1.flat hfit (by rw[hz1];simp[KV];omega);rw[this,hz1,T8,hn];rfl
def NA:VP:=(C F 0 0,C F 0 0)
theorem fY(w:B):(zeroValue 99).run A w=.ok (X #[C F 0 0,C F 0 0]) w:=by
 kernel_rfl
theorem Lq(w:B)(g:Nat)(all:List VP)(hb:Jd w g all)(ty:Y)(o c:Nat)(hfit:o<all.length):(R #[28] ty #[C (E ⟨g,o*2,F⟩) 1 c]).run A w=.ok (.tuple #[]) (J9 w g (all.take o++[NA]++all.drop (o+1))):=by
 have hst:=run_storeCells_at A g (o*2) _ (flat [NA]) 0 _ w hb (by simp[KV];omega) (by intro u hu;simp[flat,NA]at hu;rw[hu];rfl);simp only[Nat.add_zero]at hst;rw[T8]at hst;have hz:(S (X #[C F 0 0,C F 0 0]).cells 1).toList=flat [NA]:=by kernel_rfl
 simp only[R,List.getElem?_toArray,List.getElem?_cons_zero,Sem.run_bind,run_underlying qV,Result.andThen_ok,fY,hz,hst,Sem.run_pure];rfl
theorem Ay(w:B)(ty:Y)(a:Option tI)(c:Nat):(R #[28] ty #[C a 0 c]).run A w=.ok (.tuple #[]) w:=by
 cases a<;>simp[R,run_underlying qV]
theorem Av(w:B)(g:Nat)(all:List VP)(hb:Jd w g all)(ty:Y)(n k:Nat)(hk:0<k)(hn:n<=all.length)(hg:all.length<n+k)(hl:n+k<=1000):∃rest:List VP,k<=rest.length∧n+rest.length<=tL∧(tB #[28,3] ty #[C (E ⟨g,0,F⟩) n all.length,N T k]).run A w=.ok (C (E ⟨w.heap.size,0,F⟩) (n+k) (n+rest.length)) (w.drew.alloc (.cells (flat (all.take n++rest)).toArray 99)):=by
 obtain⟨i0,hi,hz0,hz1,hz2⟩:=tJ TO;have hold:=run_firstCells_some (P:=A) w.drew 2 n ⟨g,0,F⟩ n all.length (flat (all.take n)) (by rw[KV];simp;omega) (by have:=hb.drew.cellsT 0 n;simpa using this);rw[<-hz1]at hold;have hr:=Lib.run_append_grow_zeros (P:=A) w 28 3 ty 99 i0 _ T T qV (by kernel_rfl) hi hz0 (E ⟨g,0,F⟩) n all.length (flat (all.take n)) hold k hk (by omega) hg (by omega) (by rw[hz2];omega) (by rw[hz2];exact growslice_fits hg (by omega));have hge:=grownCap_ge w (n+k) all.length 99;have hle:=grownCap_le_maxLen w (n+k) all.length 99 (by unfold tL;omega);generalize grownCap w (n+k) all.length 99=G at*;obtain⟨rest,r1,r2⟩:=jJ (G-n) (S (X #[C F 0 0,C F 0 0]).cells k++S (X #[C F 0 0,C F 0 0]).cells (G-(n+k))).toList (by(have e:(X #[C F 0 0,C F 0 0]).cells.size=2:=by decide);simp only[Array.length_toList,Array.size_append,size_zeroCells,e];omega);refine⟨rest,by omega,by omega,?_⟩;rw[hr];congr 1;·rw[r1];congr 1;omega
 ·congr 2;rw[Ki,r2];simp[Array.append_assoc]
def Hf(w:B)(c:Nat):Prop:=∀i k q,w.cell? ⟨c,i,F⟩≠E (N k q)
def zX(w w':B)(c:Nat):Prop:=∀x:tI,x.block≠c->w'.cell? x=w.cell? x
theorem MH(w:B)(c:Nat):zX w w c:=fun _ _=>rfl
theorem zX.set{w w':B}{c:Nat}(h:zX w w' c)(i:Nat)(u:M):zX w (Q w' ⟨c,i,F⟩ u) c:=fun x hx=>by
 rw[World.cell?_setCell_other _ _ _ _ (fun e=>hx (congrArg Addr.block e).symm)];exact h x hx
theorem Qe.but{w w':B}{c:Nat}{v:M}{bs:List UInt8}(h:Qe w v bs)(hn:Hf w c)(hs:zX w w' c):Qe w' v bs:=by
 obtain⟨a,cap,rfl,hc,h⟩:=h;refine⟨a,cap,rfl,hc,?_⟩;rcases h with h|⟨b,o,rfl,h⟩;·exact .inl h
 ·refine .inr ⟨b,o,rfl,fun i hi=>?_⟩;have hx:=h i hi;rw[hs _ (fun e=>by subst e;exact hn _ _ _ hx)];exact hx
theorem JG.but{w w':B}{c:Nat}{v:M}{l:List Vw}(h:JG w v l)(hn:Hf w c)(hs:zX w w' c):JG w' v l:=by
 obtain⟨a,cap,rfl,hc,h⟩:=h;refine⟨a,cap,rfl,hc,?_⟩;rcases h with h|⟨b,o,rfl,h⟩;·exact .inl h
 ·refine .inr ⟨b,o,rfl,fun i hi=>?_⟩;obtain⟨vo,c1,c2,c3,h1⟩:=h i hi;(have hne:b≠c:=fun e=>by subst e;exact hn _ _ _ c1);exact⟨vo,by rw[hs _ hne];exact c1,by rw[hs _ hne];exact c2,by rw[hs _ hne];exact c3,h1.but hn hs⟩
theorem Xy.but{w w':B}{c:Nat}{v:M}{p:GI}(h:Xy w v p)(hn:Hf w c)(hs:zX w w' c):Xy w' v p:=by
 obtain⟨vs,vk,vv,rfl,h0,h1,h2⟩:=h;exact⟨vs,vk,vv,rfl,h0.but hn hs,h1.but hn hs,h2.but hn hs⟩
theorem Xy.agg{w:B}{v:M}{p:GI}(h:Xy w v p):∃sa sc ka kc va vc,v=X #[.bool p.empty,C sa p.steps.length sc,C ka p.pair.1.length kc,C va p.pair.2.length vc]:=by
 obtain⟨vs,vk,vv,rfl,h0,h1,h2⟩:=h;obtain⟨sa,sc,rfl⟩:=h0.shape;obtain⟨ka,kc,rfl⟩:=h1.shape;obtain⟨va,vc,rfl⟩:=h2.shape;exact⟨sa,sc,ka,kc,va,vc,rfl⟩
theorem xH{w:B}{c b:Nat}(h:b≠c)(x y z u:M):((((Q w ⟨c,0,F⟩ x).setCell ⟨c,1,F⟩ y).setCell ⟨c,2,F⟩ z).setCell ⟨c,3,F⟩ u).heap[b]?=w.heap[b]?:=by
 have one:∀(w:B)(i:Nat)(u:M),(Q w ⟨c,i,F⟩ u).heap[b]?=w.heap[b]?:=fun w i u=>by simp only[Q,Array.getElem?_modify];rw[if_neg (by simpa using h.symm)]
 rw[one,one,one,one]
theorem qL{w:B}{c:Nat}{x y z u:M}{t:Y}(h:w.heap[c]?=E (.cells #[x,y,z,u] t)):Q w ⟨c,0,F⟩ x=w∧Q w ⟨c,1,F⟩ y=w∧Q w ⟨c,2,F⟩ z=w∧Q w ⟨c,3,F⟩ u=w:=by
 refine⟨?_,?_,?_,?_⟩;all_goals rw[setCell_eq_setRow w c _ _ _ _ _ h];exact setRow_self w c _ _ _ h
section
open Go.ChangeShapes Go.WideShapes Go.ChangeAt Go.RowKit
def Bi:List Int:=[1,32898,9223372036854808714,9223372039002292224,32907,2147483649,9223372039002292353,9223372036854808585,138,136,2147516425,2147483658,2147516555,9223372036854775947,9223372036854808713,9223372036854808579,9223372036854808578,9223372036854775936,32778,9223372039002259466,9223372039002292353,9223372036854808704,2147483649,9223372039002292232]
def Bj:List Int:=[10,7,11,17,18,3,5,16,8,21,24,4,15,23,19,13,12,2,20,14,22,9,6,1]
def Ei:List Int:=[1,3,6,10,15,21,28,36,45,55,2,14,27,41,56,8,25,43,62,18,39,61,20,44]
def Ej:List Int:=[0,0,3,7,11,3,0,0,3]
def nX:List (String×DataW Unit):=[("canopy/digest.roundNumbers",d .u64 Bi),("canopy/digest.laneWalk",d T Bj),("canopy/digest.laneTurns",d T Ei),("canopy/wire.parts",d .u8 Ej)]
theorem g0:A.globalNamed "canopy/digest.roundNumbers"=E 2:=by
 kernel_rfl
theorem g1:A.globalNamed "canopy/digest.laneWalk"=E 3:=by
 kernel_rfl
theorem g2:A.globalNamed "canopy/digest.laneTurns"=E 4:=by
 kernel_rfl
theorem oF:(A.globals[2]?).map (·.type)=E 186:=by
 kernel_rfl
theorem oL:(A.globals[3]?).map (·.type)=E 234:=by
 kernel_rfl
theorem oK:(A.globals[4]?).map (·.type)=E 234:=by
 kernel_rfl
theorem eV:A.cellsOf 186=24:=by
 kernel_rfl
theorem L2:A.cellsOf 234=24:=by
 kernel_rfl
theorem gC:A.cellsOf 159=1:=by
 kernel_rfl
theorem cS:A.cellsOf 3=1:=by
 kernel_rfl
theorem iI(i:Nat)(h:i<24):Bi.getD i 0=U (JW.getD i 0):=(by
 decide+kernel:∀i:Fin 24,Bi.getD i.1 0=U (JW.getD i.1 0)) ⟨i,h⟩
theorem fZ(i:Nat)(h:i<24):Bj.getD i 0=((JV.getD i 0:Nat):Int):=(by
 decide+kernel:∀i:Fin 24,Bj.getD i.1 0=((JV.getD i.1 0:Nat):Int)) ⟨i,h⟩
theorem aZ(i:Nat)(h:i<24):Ei.getD i 0=((Ks.getD i 0:Nat):Int):=(by
 decide+kernel:∀i:Fin 24,Ei.getD i.1 0=((Ks.getD i.1 0:Nat):Int)) ⟨i,h⟩
theorem g3:A.globalNamed "canopy/wire.parts"=E 0:=by
 kernel_rfl
theorem oI:(A.globals[0]?).map (·.type)=E 115:=by
 kernel_rfl
theorem gF:A.cellsOf 115=9:=by
 kernel_rfl
theorem gB:A.cellsOf 5=1:=by
 kernel_rfl
theorem cR(i:Nat)(h:i<9):Ej.getD i 0=((N0 i:Nat):Int):=(by
 decide+kernel:∀i:Fin 9,Ej.getD i.1 0=((N0 i.1:Nat):Int)) ⟨i,h⟩
theorem Hr{W:B}(h:laidMet A nX W):Vi W∧X6 W:=by
 obtain⟨ps,⟨a1,b1,cs1,f1,p1,q1,hg1,ht1,hv1,hd1,⟨a2,b2,cs2,f2,p2,q2,hg2,ht2,hv2,hd2,⟨a3,b3,cs3,f3,p3,q3,hg3,ht3,hv3,hd3,⟨a4,b4,cs4,f4,p4,q4,hg4,ht4,hv4,hd4,_,_⟩,_⟩,_⟩,_⟩,_⟩:=h;obtain rfl:=I (g0.symm.trans hg1);obtain rfl:=I (g1.symm.trans hg2);obtain rfl:=I (g2.symm.trans hg3);obtain rfl:=I (g3.symm.trans hg4);obtain rfl:=I (oF.symm.trans ht1);obtain rfl:=I (oL.symm.trans ht2);obtain rfl:=I (oK.symm.trans ht3);obtain rfl:=I (oI.symm.trans ht4);have t0:K A W "canopy/digest.roundNumbers" .u64 Bi:=by unfold K;rw[hv1,<-O Tryz.underlying186 Tryz.underlying159 gC eV hd1]
 have t1:K A W "canopy/digest.laneWalk" T Bj:=by unfold K;rw[hv2,<-O tC J cS L2 hd2]
 have t2:K A W "canopy/digest.laneTurns" T Ei:=by unfold K;rw[hv3,<-O tC J cS L2 hd3]
 have t3:K A W "canopy/wire.parts" .u8 Ej:=by unfold K;rw[hv4,<-O Tryz.underlying115 Tryz.underlying5 gB gF hd4]
 refine⟨fun i hi=>by rw[t3.cell g3 i hi,cR i hi],fun i hi=>?_,fun i hi=>?_,fun i hi=>?_⟩;·rw[t0.cell g0 i hi,iI i hi]
 ·rw[t1.cell g1 i hi,fZ i hi]
 ·rw[t2.cell g2 i hi,aZ i hi]
def DN(cs:Array M):Obj->Obj|.cells _ t frozen=>.cells cs t frozen|o=>o
def PW(W:B):B:={W with heap:=(((W.heap.modify 2 (DN (Bi.map fun z=>N .u64 z).toArray)).modify 3 (DN (Bj.map fun z=>N T z).toArray)).modify 4 (DN (Ei.map fun z=>N T z).toArray)).modify 0 (DN (Ej.map fun z=>N .u8 z).toArray)}
end
section
open Go.ChangeShapes Go.WideShapes Go.ChangeAt Go.RowKit Go.Deep Go.Joins
instance:Inhabited Gr:=⟨uM⟩
theorem iJ:A.cellsOf 3=1:=by
 kernel_rfl
theorem Ly{H:Type}{enc:Y×M->H}{W:B}{hd:Bool}{fuel:Nat}{a:Option tI}{n cap:Nat}{x:DataW H×List MemPlace}{t e:Y}{f0 f1 f2 f3 f4:Field}(ht:A.underlying t=E (.slice e))(he:A.underlying e=E (.struct #[f0,f1,f2,f3,f4]))(ce:A.cellsOf e=5)(o0:f0.offset=0)(o1:f1.offset=1)(o2:f2.offset=2)(o3:f3.offset=3)(o4:f4.offset=4)(t0:f0.type=3)(t1:f1.type=3)(t2:f2.type=3)(t3:f3.type=3)(t4:f4.type=3)(h:DataW.trod enc A W 0 (fun _=>true) hd fuel t [C a n cap]=E x):∃l:List Gr,UK W (C a n cap) l∧Ae l:=by
 rcases open_slice ht h with⟨hcs,_⟩|⟨y,len,c,m,k,D,Pl,hcs,hb,hl,hm,hmm,hx,hcell⟩;·simp at hcs;obtain⟨rfl,rfl,rfl⟩:=hcs;exact⟨[],⟨F,0,rfl,Nat.le_refl _,.inl rfl⟩,fun g hg=>by cases hg⟩
 ·simp at hcs;obtain⟨rfl,rfl,rfl⟩:=hcs;(have hmc:m=cap:=by simpa using hmm);subst hmc;(have each:∀i,i<m->∃q:Gr,(W.cell? (y.add (i*5))=E (N T q.kind)∧W.cell? (y.add (i*5+1))=E (N T q.sess)∧W.cell? (y.add (i*5+2))=E (N T q.name)∧W.cell? (y.add (i*5+3))=E (N T q.key)∧W.cell? (y.add (i*5+4))=E (N T q.value))∧PZ q:=by intro i hi;obtain⟨cs',g1,g2⟩:=hcell i hi;rw[ce]at g1;obtain⟨_,hlen,hcc⟩:=World.cells?_some g1;obtain⟨xs,k',hk,hxy,_,hxl,hf⟩:=DataW.trod_struct he g2;match xs,hxl,cs',hlen with|[y0,y1,y2,y3,y4],_,[v0,v1,v2,v3,v4],_=>have s0:=hf 0 f0 rfl;have s1:=hf 1 f1 rfl;have s2:=hf 2 f2 rfl;have s3:=hf 3 f3 rfl;have s4:=hf 4 f4 rfl;rw[t0]at s0;rw[t1]at s1;rw[t2]at s2;rw[t3]at s3;rw[t4]at s4;simp[o0,o1,o2,o3,o4,iJ]at s0 s1 s2 s3 s4;have e0:=hcc 0 (by omega);have e1:=hcc 1 (by omega);have e2:=hcc 2 (by omega);have e3:=hcc 3 (by omega);have e4:=hcc 4 (by omega);rw[add_add]at e0 e1 e2 e3 e4;obtain⟨z0,hz0,hy0,w0⟩:=L J s0;obtain⟨z1,hz1,hy1,w1⟩:=L J s1;obtain⟨z2,hz2,hy2,w2⟩:=L J s2;obtain⟨z3,hz3,hy3,w3⟩:=L J s3;obtain⟨z4,hz4,hy4,w4⟩:=L J s4;simp at hz0 hz1 hz2 hz3 hz4;subst hz0 hz1 hz2 hz3 hz4;exact⟨⟨z0,z1,z2,z3,z4⟩,⟨by simpa using e0,by simpa using e1,by simpa using e2,by simpa using e3,by simpa using e4⟩,⟨Gq w0,Gq w1,Gq w2,Gq w3,Gq w4⟩⟩);obtain⟨q,hq⟩:=choose_lt each;(have hlen:((tA n).map fun i=>q i).length=n:=by simp);(have hget:∀i,i<n->((tA n).map fun i=>q i).getD i uM=q i:=by intro i hi;simp[hi]);refine⟨(tA n).map fun i=>q i,⟨_,m,by rw[hlen],by omega,?_⟩,?_⟩;(·by_cases h0:n=0;(·left;subst h0;rfl);·right;obtain⟨b,o,sp⟩:=y;have h00:=(hq 0 (by omega)).1.1;(obtain rfl:sp=F:=by cases sp with|none=>rfl|some z=>simp[Addr.add,tK]at h00;split at h00<;>simp at h00);refine⟨b,o,rfl,fun i hi=>?_⟩;rw[hlen]at hi;obtain⟨⟨g0,g1,g2,g3,g4⟩,_⟩:=hq i (by omega);rw[Xm]at g0 g1 g2 g3 g4;rw[hget i hi];exact⟨g0,g1,g2,g3,g4⟩);·intro g hg;obtain⟨i,hi,rfl⟩:=List.mem_map.1 hg;exact(hq i (by have:=List.mem_range.1 hi;omega)).2
end
end Go.Proofs.YtahggnmfofgddaaGreatDoor
