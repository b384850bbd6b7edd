/-
  Texts of this proof, joined, with few blanks: AcApp, TenRow, ProofBut, Frame11, FrameGr.
-/
import Derived.Laws.AppendOwnNone
import Derived.Laws.CopyRow
import Derived.Lib.AppendZerosOnto
import Derived.Lib.SliceRun
import Derived.Lib.LaidTab
import Derived.Test.YtahggnmfofgddaaGreatDoorCards
import Derived.Test.YtahggnmfofgddaaGreatDoorTie
import Derived.Test.YtahggnmfofgddaaGreatDoorQ3
set_option maxRecDepth 100000
set_option maxHeartbeats 8000000
open Go renaming World->B,Value->L,TypeId->tB,maxLen->tI,info_parts->tM,Addr->tN
open Go.Builtin renaming clear_->R,zeroCells->V,append_->tE,copy_->tK,lenOf->tP
open Go.DataW renaming trod_int->K,trod->T
open Go.IntKind renaming i64->X
open Go.Lib renaming TabIs->J,cells_of_tab->N,tabData->tC
open Go.Obj renaming cells->f
open Go.Proofs.Tryz renaming prog->A,underlying3->I,underlying234->tG
open Go.Value renaming slice->C,int->M,cells->S,agg->Y
open Go.World renaming setCell->O,grownBy->tA
open List renaming length_map->Q,eq_nil_of_length_eq_zero->tD,flatMap_cons->tH,cons_append->tJ,nil_append->tL
open Option renaming some->D,none->E
open Option.some renaming inj->F
namespace Go.Proofs.YtahggnmfofgddaaGreatDoor
open Go.RowKit
theorem aC{w:B}(rb:Nat)(nb:Nat)(us:List AV)(hb:w.heap[nb]?=D (f ⟨GF us⟩ 35))(hr:rb<=nb)(hl:us.length<=1000)(hpt:∀y∈us,Qh 0 w y.2 y.1.data):Iw rb w (C (D ⟨nb,0,E⟩) us.length us.length) (us.map (·.1)):=by
 refine⟨us,rfl,⟨by rw[Q,Py],.inr ⟨nb,us.length,⟨GF us⟩,by rw[Q],hr,hb,by rw[Q];omega,by unfold tI;omega,by simp[Py],?_⟩⟩,hpt⟩;rw[Q,List.take_of_length_le (by simp[Py])]
abbrev VP:=L×L
def Jb(w:B)(g:Nat)(all:List VP):Prop:=w.heap[g]?=D (f (flat all).toArray 99 (0,0))
def JZ(w:B)(g:Nat)(all:List VP):B:=w.setRow g (flat all).toArray
theorem Jb.set{w:B}{g:Nat}{all:List VP}(h:Jb w g all)(all':List VP):Jb (JZ w g all') g all':=setRow_heap w g _ _ _ _ h
theorem Wo{w:B}{g:Nat}{all:List VP}(h:Jb w g all):JZ w g all=w:=setRow_self w g _ _ _ h
theorem Jb.lt{w:B}{g:Nat}{all:List VP}(h:Jb w g all):g<w.heap.size:=(Array.getElem?_eq_some_iff.1 h).1
theorem Jb.drew{w:B}{g:Nat}{all:List VP}(h:Jb w g all):Jb w.drew g all:=h
theorem K4(w:B)(g:Nat)(all:List VP):tA w (JZ w g all) (D g):=⟨rfl,rfl,rfl,by
 simp[JZ,World.setRow],fun k _ hne=>setRow_other w g k _ (fun e=>hne (by
 rw[e]))⟩
theorem Yp{w w1 w2:B}{r:Option Nat}(h1:tA w w1 r)(h2:tA w1 w2 r):tA w w2 r:=⟨h2.os.trans h1.os,h2.tape.trans h1.tape,h2.output.trans h1.output,Nat.le_trans h1.size h2.size,fun k hk hn=>(h2.block k (Nat.lt_of_lt_of_le hk h1.size) hn).trans (h1.block k hk hn)⟩
theorem X6{w w1:B}{r:Option Nat}(h1:tA w w1 E):tA w w1 r:=⟨h1.os,h1.tape,h1.output,h1.size,fun k hk _=>h1.block k hk (by
 simp)⟩
theorem jA:∀(n:Nat)(cs:List L),cs.length=n*2->∃vs:List VP,vs.length=n∧flat vs=cs|0,cs,h=>⟨[],rfl,by rw[tD (by omega:cs.length=0)];rfl⟩|n+1,[],h=>by simp at h|n+1,[_],h=>by simp at h;omega|n+1,a::b::r,h=>by obtain⟨vs,h1,h2⟩:=jA n r (by simp at h;omega);exact⟨(a,b)::vs,by simp[h1],by simp only[flat,tH,tJ,tL]at h2⊢;rw[h2]⟩
theorem CJ:∀(a b:List VP),flat a=flat b->a=b|[],[],_=>rfl|[],x::r,h=>by simp[flat]at h|x::r,[],h=>by simp[flat]at h|x::r,y::s,h=>by simp only[flat,tH,tJ,tL,List.cons.injEq]at h;obtain⟨h1,h2,h3⟩:=h;rw[CJ r s h3,Prod.ext h1 h2]
def ER(l:List VP):Prop:=∀x∈l,x.1.oneCell'=true∧x.2.oneCell'=true
theorem ER.flat{l:List VP}(h:ER l):∀u∈flat l,u.oneCell'=true:=by
 intro u hu;simp only[Go.Proofs.YtahggnmfofgddaaGreatDoor.flat,List.mem_flatMap,List.mem_cons,List.not_mem_nil,or_false]at hu;obtain⟨x,hx,rfl|rfl⟩:=hu;·exact(h x hx).1
 ·exact(h x hx).2
def lK(base:Nat)(w:B)(x:VP)(t:Tn):Prop:=Qh base w x.1 t.1∧QP base w x.2 t.2
def lN:VP:=(undef,undef)
def Y1(base:Nat)(w:B)(vs:List VP)(l:FL):Prop:=vs.length=l.length∧∀i,i<l.length->lK base w (vs.getD i lN) (l.getD i ([],[]))
theorem Y1.take{base:Nat}{w:B}{vs:List VP}{l:FL}(h:Y1 base w vs l)(n:Nat):Y1 base w (vs.take n) (l.take n):=by
 refine⟨by simp[h.1],fun i hi=>?_⟩;have hi':i<n∧i<l.length:=by simp at hi;omega
 have:=h.2 i hi'.2;rwa[show(vs.take n).getD i lN=vs.getD i lN by simp[hi'.1],show(l.take n).getD i ([],[])=l.getD i ([],[])by simp[hi'.1]]
theorem Y1.drop{base:Nat}{w:B}{vs:List VP}{l:FL}(h:Y1 base w vs l)(n:Nat):Y1 base w (vs.drop n) (l.drop n):=by
 refine⟨by simp[h.1],fun i hi=>?_⟩;have hi':n+i<l.length:=by simp at hi;omega
 have:=h.2 (n+i) hi';rwa[show(vs.drop n).getD i lN=vs.getD (n+i) lN by simp,show(l.drop n).getD i ([],[])=l.getD (n+i) ([],[])by simp]
theorem Y1.append{base:Nat}{w:B}{vs us:List VP}{l m:FL}(h:Y1 base w vs l)(h2:Y1 base w us m):Y1 base w (vs++us) (l++m):=by
 refine⟨by simp[h.1,h2.1],fun i hi=>?_⟩;rw[Jp,Jp,h.1];by_cases hil:i<l.length;·rw[if_pos hil,if_pos hil];exact h.2 i hil
 ·rw[if_neg hil,if_neg hil];exact h2.2 _ (by simp at hi;omega)
theorem Y1.one{base:Nat}{w:B}{x:VP}{t:Tn}(h:lK base w x t):Y1 base w [x] [t]:=⟨rfl,fun i hi=>by
 obtain rfl:i=0:=by simpa using hi
 exact h⟩
theorem Y1.kept{base:Nat}{w w':B}{vs:List VP}{l:FL}(h:Y1 base w vs l){row:Option Nat}(hg:tA w w' row)(hrow:row=E∨∃g cur t fz,row=D g∧base<=g∧w.heap[g]?=D (f cur t fz)∧t≠5∧t≠44):Y1 base w' vs l:=⟨h.1,fun i hi=>⟨((h.2 i hi).1).keptT hg (lC hrow),((h.2 i hi).2).kept hg hrow⟩⟩
theorem Y1.oneV{base:Nat}{w:B}{vs:List VP}{l:FL}(h:Y1 base w vs l):ER vs:=by
 intro x hx;obtain⟨i,hi,rfl⟩:=List.mem_iff_getElem.1 hx;have:=h.2 i (by rw[<-h.1];exact hi);rw[show vs.getD i lN=vs[i]by simp[hi]]at this;exact⟨ZU this.1,yQ this.2⟩
theorem Jb.rowOf{base:Nat}{w:B}{g:Nat}{all:List VP}(h:Jb w g all)(hb:base<=g):(D g:Option Nat)=E∨∃g' cur t fz,(D g:Option Nat)=D g'∧base<=g'∧w.heap[g']?=D (f cur t fz)∧t≠5∧t≠44:=.inr ⟨g,_,_,_,rfl,hb,h,gP,gL⟩
theorem Jb.cells{w:B}{g:Nat}{all:List VP}(h:Jb w g all)(p:Nat):∀j u,(flat (all.drop p))[j]?=D u->w.cell? ((⟨g,p*2,E⟩:tN).add j)=D u:=by
 intro j u hj;rw[E8,List.getElem?_drop]at hj;rw[Xp];have:=h;unfold Jb at this;simp[World.cell?,this];exact hj
theorem Jb.cellsT{w:B}{g:Nat}{all:List VP}(h:Jb w g all)(p n:Nat):∀j u,(flat ((all.drop p).take n))[j]?=D u->w.cell? ((⟨g,p*2,E⟩:tN).add j)=D u:=by
 intro j u hj;refine h.cells p j u ?_;rw[jQ,List.getElem?_take]at hj;split at hj;·exact hj
 ·cases hj
theorem Pe{base:Nat}{w:B}{g:Nat}{all:List VP}{l:FL}(h:Jb w g all)(hb:base<=g)(hl:l.length<=all.length)(hm:all.length<=tI)(he:Y1 0 w (all.take l.length) l):ZG base w (C (D ⟨g,0,E⟩) l.length all.length) l:=by
 refine⟨all.take l.length,he.1,⟨by rw[KJ,he.1],.inr ⟨g,all.length,_,rfl,hb,h,hl,hm,by simp[KJ],?_⟩⟩,fun i hi=>he.2 i hi⟩;rw[jQ]
theorem ZG.elim{base:Nat}{w:B}{v:L}{l:FL}(h:ZG base w v l):(v=C E 0 0∧l=[])∨∃g all,v=C (D ⟨g,0,E⟩) l.length (List.length all)∧Jb w g all∧base<=g∧l.length<=all.length∧all.length<=tI∧Y1 0 w (all.take l.length) l:=by
 obtain⟨vs,hl,hr,h3⟩:=h;rcases hr.2with⟨rfl,h0⟩|⟨g,cap,cur,rfl,hb,hg,hn,hm,hs,ht⟩;·exact .inl ⟨rfl,tD h0⟩
 ·obtain⟨all,ha,hf⟩:=jA cap cur.toList (by simpa using hs);(have hcur:cur=(flat all).toArray:=by rw[hf]);subst hcur;have e:all.take l.length=vs:=CJ _ _ (by rw[jQ];simpa using ht);exact .inr ⟨g,all,by rw[ha],hg,hb,by omega,by omega,by rw[e];exact⟨hl,fun i hi=>h3 i hi⟩⟩
theorem qL:A.underlying 28=D (.slice 99):=Tryz.underlying28
theorem TL(all news:List VP)(o:Nat):(((flat all).toArray.toList.take (o*2)++flat news++(flat all).toArray.toList.drop (o*2+(flat news).length)).toArray)=(flat (all.take o++news++all.drop (o+news.length))).toArray:=by
 rw[Ka,Ka,jQ,E8,KJ,show(o+news.length)*2=o*2+news.length*2by omega]
theorem VL(w:B)(g:Nat)(all news:List VP)(hb:Jb w g all)(ty:tB)(o dLen dCap:Nat)(a:tN)(sLen sCap:Nat)(hn:news.length=Nat.min sLen dLen)(hsrc:∀j v,(flat news)[j]?=D v->w.cell? (a.add j)=D v)(hfit:o+news.length<=all.length)(h1:ER news):(tK #[28,28] ty #[C (D ⟨g,o*2,E⟩) dLen dCap,C (D a) sLen sCap]).run A w=.ok (goInt news.length) (JZ w g (all.take o++news++all.drop (o+news.length))):=by
 obtain⟨i0,hi,hz0,hz1,hz2⟩:=tM Tp;have hf:=run_firstCells_some (P:=A) w 2 news.length a sLen sCap (flat news) (KJ _) hsrc;have hst:=run_storeCells_at A g (o*2) _ (flat news) 0 _ w hb (by simp[KJ];omega) h1.flat;simp only[Nat.add_zero]at hst;rw[TL]at hst;have hmin:sLen.min dLen=news.length:=hn.symm;simp[tK,run_underlying qL,tP,sizeOf,typeInfo,hi,hz1,hmin,hf,hst,JZ]
theorem Fo(w:B)(g:Nat)(all news:List VP)(hb:Jb w g all)(ty:tB)(n:Nat)(a:tN)(m c:Nat)(hn:news.length=m)(hsrc:∀j v,(flat news)[j]?=D v->w.cell? (a.add j)=D v)(hfit:n+m<=all.length)(h1:ER news):(tE #[28,28] ty #[C (D ⟨g,0,E⟩) n all.length,C (D a) m c]).run A w=.ok (C (D ⟨g,0,E⟩) (n+m) all.length) (JZ w g (all.take n++news++all.drop (n+m))):=by
 obtain⟨i0,hi,hz0,hz1,hz2⟩:=tM Tp;have:=run_append_room (P:=A) w 28 ty 99 i0 qL hi g n all.length _ hb a m c (flat news) (by rw[KJ,hz1,hn]) hsrc h1.flat hfit (by rw[hz1];simp[KJ];omega);rw[this,hz1,TL,hn];rfl
def Ni:VP:=(C E 0 0,C E 0 0)
theorem eK(w:B):(zeroValue 99).run A w=.ok (Y #[C E 0 0,C E 0 0]) w:=by
 kernel_rfl
theorem SR(w:B)(g:Nat)(all:List VP)(hb:Jb w g all)(ty:tB)(o c:Nat)(hfit:o<all.length):(R #[28] ty #[C (D ⟨g,o*2,E⟩) 1 c]).run A w=.ok (.tuple #[]) (JZ w g (all.take o++[Ni]++all.drop (o+1))):=by
 have hst:=run_storeCells_at A g (o*2) _ (flat [Ni]) 0 _ w hb (by simp[KJ];omega) (by intro u hu;simp[flat,Ni]at hu;rw[hu];rfl);simp only[Nat.add_zero]at hst;rw[TL]at hst;have hz:(V (Y #[C E 0 0,C E 0 0]).cells 1).toList=flat [Ni]:=by kernel_rfl
 simp only[R,List.getElem?_toArray,List.getElem?_cons_zero,Sem.run_bind,run_underlying qL,Result.andThen_ok,eK,hz,hst,Sem.run_pure];rfl
theorem Aa(w:B)(ty:tB)(a:Option tN)(c:Nat):(R #[28] ty #[C a 0 c]).run A w=.ok (.tuple #[]) w:=by
 cases a<;>simp[R,run_underlying qL]
theorem BY(w:B)(g:Nat)(all:List VP)(hb:Jb w g all)(ty:tB)(n k:Nat)(hk:0<k)(hn:n<=all.length)(hg:all.length<n+k)(hl:n+k<=1000):∃rest:List VP,k<=rest.length∧n+rest.length<=tI∧(tE #[28,3] ty #[C (D ⟨g,0,E⟩) n all.length,M X k]).run A w=.ok (C (D ⟨w.heap.size,0,E⟩) (n+k) (n+rest.length)) (w.drew.alloc (f (flat (all.take n++rest)).toArray 99)):=by
 obtain⟨i0,hi,hz0,hz1,hz2⟩:=tM Tp;have hold:=run_firstCells_some (P:=A) w.drew 2 n ⟨g,0,E⟩ n all.length (flat (all.take n)) (by rw[KJ];simp;omega) (by have:=hb.drew.cellsT 0 n;simpa using this);rw[<-hz1]at hold;have hr:=Lib.run_append_grow_zeros (P:=A) w 28 3 ty 99 i0 _ X X qL (by kernel_rfl) hi hz0 (D ⟨g,0,E⟩) n all.length (flat (all.take n)) hold k hk (by omega) hg (by omega) (by rw[hz2];omega) (by rw[hz2];exact growslice_fits hg (by omega));have hge:=grownCap_ge w (n+k) all.length 99;have hle:=grownCap_le_maxLen w (n+k) all.length 99 (by unfold tI;omega);generalize grownCap w (n+k) all.length 99=G at*;obtain⟨rest,r1,r2⟩:=jA (G-n) (V (Y #[C E 0 0,C E 0 0]).cells k++V (Y #[C E 0 0,C E 0 0]).cells (G-(n+k))).toList (by(have e:(Y #[C E 0 0,C E 0 0]).cells.size=2:=by decide);simp only[Array.length_toList,Array.size_append,size_zeroCells,e];omega);refine⟨rest,by omega,by omega,?_⟩;rw[hr];congr 1;·rw[r1];congr 1;omega
 ·congr 2;rw[Ka,r2];simp[Array.append_assoc]
def LG(w:B)(c:Nat):Prop:=∀i k q,w.cell? ⟨c,i,E⟩≠D (M k q)
def zM(w w':B)(c:Nat):Prop:=∀x:tN,x.block≠c->w'.cell? x=w.cell? x
theorem Mr(w:B)(c:Nat):zM w w c:=fun _ _=>rfl
theorem zM.set{w w':B}{c:Nat}(h:zM w w' c)(i:Nat)(u:L):zM w (O w' ⟨c,i,E⟩ u) c:=fun x hx=>by
 rw[World.cell?_setCell_other _ _ _ _ (fun e=>hx (congrArg Addr.block e).symm)];exact h x hx
theorem Qe.but{w w':B}{c:Nat}{v:L}{bs:List UInt8}(h:Qe w v bs)(hn:LG w c)(hs:zM w w' c):Qe w' v bs:=by
 obtain⟨a,cap,rfl,hc,h⟩:=h;refine⟨a,cap,rfl,hc,?_⟩;rcases h with h|⟨b,o,rfl,h⟩;·exact .inl h
 ·refine .inr ⟨b,o,rfl,fun i hi=>?_⟩;have hx:=h i hi;rw[hs _ (fun e=>by subst e;exact hn _ _ _ hx)];exact hx
theorem Jz.but{w w':B}{c:Nat}{v:L}{l:List Vl}(h:Jz w v l)(hn:LG w c)(hs:zM w w' c):Jz w' v l:=by
 obtain⟨a,cap,rfl,hc,h⟩:=h;refine⟨a,cap,rfl,hc,?_⟩;rcases h with h|⟨b,o,rfl,h⟩;·exact .inl h
 ·refine .inr ⟨b,o,rfl,fun i hi=>?_⟩;obtain⟨vo,c1,c2,c3,h1⟩:=h i hi;(have hne:b≠c:=fun e=>by subst e;exact hn _ _ _ c1);exact⟨vo,by rw[hs _ hne];exact c1,by rw[hs _ hne];exact c2,by rw[hs _ hne];exact c3,h1.but hn hs⟩
theorem Xw.but{w w':B}{c:Nat}{v:L}{p:Gw}(h:Xw w v p)(hn:LG w c)(hs:zM w w' c):Xw w' v p:=by
 obtain⟨vs,vk,vv,rfl,h0,h1,h2⟩:=h;exact⟨vs,vk,vv,rfl,h0.but hn hs,h1.but hn hs,h2.but hn hs⟩
theorem Xw.agg{w:B}{v:L}{p:Gw}(h:Xw w v p):∃sa sc ka kc va vc,v=Y #[.bool p.empty,C sa p.steps.length sc,C ka p.pair.1.length kc,C va p.pair.2.length vc]:=by
 obtain⟨vs,vk,vv,rfl,h0,h1,h2⟩:=h;obtain⟨sa,sc,rfl⟩:=h0.shape;obtain⟨ka,kc,rfl⟩:=h1.shape;obtain⟨va,vc,rfl⟩:=h2.shape;exact⟨sa,sc,ka,kc,va,vc,rfl⟩
theorem zX{w:B}{c b:Nat}(h:b≠c)(x y z u:L):((((O w ⟨c,0,E⟩ x).setCell ⟨c,1,E⟩ y).setCell ⟨c,2,E⟩ z).setCell ⟨c,3,E⟩ u).heap[b]?=w.heap[b]?:=by
 have one:∀(w:B)(i:Nat)(u:L),(O w ⟨c,i,E⟩ u).heap[b]?=w.heap[b]?:=fun w i u=>by simp only[O,Array.getElem?_modify];rw[if_neg (by simpa using h.symm)]
 rw[one,one,one,one]
theorem G8{w:B}{c:Nat}{x y z u:L}{t:tB}(h:w.heap[c]?=D (f #[x,y,z,u] t)):O w ⟨c,0,E⟩ x=w∧O w ⟨c,1,E⟩ y=w∧O w ⟨c,2,E⟩ z=w∧O w ⟨c,3,E⟩ u=w:=by
 refine⟨?_,?_,?_,?_⟩;all_goals rw[setCell_eq_setRow w c _ _ _ _ _ h];exact setRow_self w c _ _ _ h
section
open Go.ChangeShapes Go.WideShapes Go.ChangeAt Go.RowKit
def CQ:List Int:=[1,32898,9223372036854808714,9223372039002292224,32907,2147483649,9223372039002292353,9223372036854808585,138,136,2147516425,2147483658,2147516555,9223372036854775947,9223372036854808713,9223372036854808579,9223372036854808578,9223372036854775936,32778,9223372039002259466,9223372039002292353,9223372036854808704,2147483649,9223372039002292232]
def CS:List Int:=[10,7,11,17,18,3,5,16,8,21,24,4,15,23,19,13,12,2,20,14,22,9,6,1]
def RK:List Int:=[1,3,6,10,15,21,28,36,45,55,2,14,27,41,56,8,25,43,62,18,39,61,20,44]
def RQ:List Int:=[0,0,3,7,11,3,0,0,3]
def mS:List (String×DataW Unit):=[("canopy/digest.roundNumbers",tC .u64 CQ),("canopy/digest.laneWalk",tC X CS),("canopy/digest.laneTurns",tC X RK),("canopy/wire.parts",tC .u8 RQ)]
theorem g0:A.globalNamed "canopy/digest.roundNumbers"=D 2:=by
 kernel_rfl
theorem g1:A.globalNamed "canopy/digest.laneWalk"=D 3:=by
 kernel_rfl
theorem g2:A.globalNamed "canopy/digest.laneTurns"=D 4:=by
 kernel_rfl
theorem m8:(A.globals[2]?).map (·.type)=D 186:=by
 kernel_rfl
theorem nE:(A.globals[3]?).map (·.type)=D 234:=by
 kernel_rfl
theorem nD:(A.globals[4]?).map (·.type)=D 234:=by
 kernel_rfl
theorem dE:A.cellsOf 186=24:=by
 kernel_rfl
theorem Lp:A.cellsOf 234=24:=by
 kernel_rfl
theorem eR:A.cellsOf 159=1:=by
 kernel_rfl
theorem aZ:A.cellsOf 3=1:=by
 kernel_rfl
theorem f8(i:Nat)(h:i<24):CQ.getD i 0=U (JP.getD i 0):=(by
 decide+kernel:∀i:Fin 24,CQ.getD i.1 0=U (JP.getD i.1 0)) ⟨i,h⟩
theorem eL(i:Nat)(h:i<24):CS.getD i 0=((JN.getD i 0:Nat):Int):=(by
 decide+kernel:∀i:Fin 24,CS.getD i.1 0=((JN.getD i.1 0:Nat):Int)) ⟨i,h⟩
theorem OS(i:Nat)(h:i<24):RK.getD i 0=((Kh.getD i 0:Nat):Int):=(by
 decide+kernel:∀i:Fin 24,RK.getD i.1 0=((Kh.getD i.1 0:Nat):Int)) ⟨i,h⟩
theorem g3:A.globalNamed "canopy/wire.parts"=D 0:=by
 kernel_rfl
theorem nB:(A.globals[0]?).map (·.type)=D 115:=by
 kernel_rfl
theorem eW:A.cellsOf 115=9:=by
 kernel_rfl
theorem eQ:A.cellsOf 5=1:=by
 kernel_rfl
theorem aY(i:Nat)(h:i<9):RQ.getD i 0=((Nv i:Nat):Int):=(by
 decide+kernel:∀i:Fin 9,RQ.getD i.1 0=((Nv i.1:Nat):Int)) ⟨i,h⟩
theorem LW{W:B}(h:laidMet A mS W):Vw W∧X5 W:=by
 obtain⟨ps,⟨a1,b1,cs1,f1,p1,q1,hg1,ht1,hv1,hd1,⟨a2,b2,cs2,f2,p2,q2,hg2,ht2,hv2,hd2,⟨a3,b3,cs3,f3,p3,q3,hg3,ht3,hv3,hd3,⟨a4,b4,cs4,f4,p4,q4,hg4,ht4,hv4,hd4,_,_⟩,_⟩,_⟩,_⟩,_⟩:=h;obtain rfl:=F (g0.symm.trans hg1);obtain rfl:=F (g1.symm.trans hg2);obtain rfl:=F (g2.symm.trans hg3);obtain rfl:=F (g3.symm.trans hg4);obtain rfl:=F (m8.symm.trans ht1);obtain rfl:=F (nE.symm.trans ht2);obtain rfl:=F (nD.symm.trans ht3);obtain rfl:=F (nB.symm.trans ht4);have t0:J A W "canopy/digest.roundNumbers" .u64 CQ:=by unfold J;rw[hv1,<-N Tryz.underlying186 Tryz.underlying159 eR dE hd1]
 have t1:J A W "canopy/digest.laneWalk" X CS:=by unfold J;rw[hv2,<-N tG I aZ Lp hd2]
 have t2:J A W "canopy/digest.laneTurns" X RK:=by unfold J;rw[hv3,<-N tG I aZ Lp hd3]
 have t3:J A W "canopy/wire.parts" .u8 RQ:=by unfold J;rw[hv4,<-N Tryz.underlying115 Tryz.underlying5 eQ eW hd4]
 refine⟨fun i hi=>by rw[t3.cell g3 i hi,aY i hi],fun i hi=>?_,fun i hi=>?_,fun i hi=>?_⟩;·rw[t0.cell g0 i hi,f8 i hi]
 ·rw[t1.cell g1 i hi,eL i hi]
 ·rw[t2.cell g2 i hi,OS i hi]
def Dp(cs:Array L):Obj->Obj|f _ t frozen=>f cs t frozen|o=>o
def Pu(W:B):B:={W with heap:=(((W.heap.modify 2 (Dp (CQ.map fun z=>M .u64 z).toArray)).modify 3 (Dp (CS.map fun z=>M X z).toArray)).modify 4 (Dp (RK.map fun z=>M X z).toArray)).modify 0 (Dp (RQ.map fun z=>M .u8 z).toArray)}
end
section
open Go.ChangeShapes Go.WideShapes Go.ChangeAt Go.RowKit Go.Deep Go.Joins
theorem eI{α:Type}{cs:Array α}(h:cs.size=5):∃c0 c1 c2 c3 c4,cs=#[c0,c1,c2,c3,c4]:=by
 obtain⟨l⟩:=cs;match l,h with|[c0,c1,c2,c3,c4],_=>exact⟨c0,c1,c2,c3,c4,rfl⟩
theorem ID{H:Type}{enc:tB×L->H}{W:B}{hd:Bool}{r:Reach}{b0:Nat}{v:L}{d:DataW H}{p:List MemPlace}{t:tB}{f0 f1 f2 f3 f4:Field}(hs:A.underlying t=D (.struct #[f0,f1,f2,f3,f4]))(hone:oneCellFields A #[f0,f1,f2,f3,f4]=true)(hC:A.cellsOf t=5)(t0:f0.type=3)(t1:f1.type=3)(t2:f2.type=3)(t3:f3.type=3)(t4:f4.type=3)(hv:Value.okWide A W r b0 t v)(h:DataW.Trod enc A W 0 (fun _=>true) hd t v d p):∃q:Gr,v=Y #[M X q.kind,M X q.sess,M X q.name,M X q.key,M X q.value]∧My q:=by
 obtain⟨cs,rfl,hsz⟩:=okWide_struct hs hv;obtain⟨v0,v1,v2,v3,v4,rfl⟩:=eI (hsz.trans hC);obtain⟨fuel,hf⟩:=h;obtain⟨xs,n,_,hx,hl,hlen,hff⟩:=DataW.trod_struct hs hf;obtain⟨o0,k0⟩:=hone_of hone 0 f0 rfl;obtain⟨o1,k1⟩:=hone_of hone 1 f1 rfl;obtain⟨o2,k2⟩:=hone_of hone 2 f2 rfl;obtain⟨o3,k3⟩:=hone_of hone 3 f3 rfl;obtain⟨o4,k4⟩:=hone_of hone 4 f4 rfl;match xs,hlen with|[y0,y1,y2,y3,y4],_=>have h0:=hff 0 f0 rfl;have h1:=hff 1 f1 rfl;have h2:=hff 2 f2 rfl;have h3:=hff 3 f3 rfl;have h4:=hff 4 f4 rfl;(have g0:T enc A W 0 (fun _=>true) hd n f0.type [v0]=D y0:=by simpa[S,o0,k0]using h0);rw[t0]at g0;obtain⟨z0,e0,_,w0⟩:=K I g0;(have g1:T enc A W 0 (fun _=>true) hd n f1.type [v1]=D y1:=by simpa[S,o1,k1]using h1);rw[t1]at g1;obtain⟨z1,e1,_,w1⟩:=K I g1;(have g2:T enc A W 0 (fun _=>true) hd n f2.type [v2]=D y2:=by simpa[S,o2,k2]using h2);rw[t2]at g2;obtain⟨z2,e2,_,w2⟩:=K I g2;(have g3:T enc A W 0 (fun _=>true) hd n f3.type [v3]=D y3:=by simpa[S,o3,k3]using h3);rw[t3]at g3;obtain⟨z3,e3,_,w3⟩:=K I g3;(have g4:T enc A W 0 (fun _=>true) hd n f4.type [v4]=D y4:=by simpa[S,o4,k4]using h4);rw[t4]at g4;obtain⟨z4,e4,_,w4⟩:=K I g4;simp at e0 e1 e2 e3 e4;subst e0 e1 e2 e3 e4;exact⟨⟨z0,z1,z2,z3,z4⟩,rfl,⟨Gf w0,Gf w1,Gf w2,Gf w3,Gf w4⟩⟩
end
end Go.Proofs.YtahggnmfofgddaaGreatDoor
