/-
  Texts of this proof, joined, with few blanks: TenRow, ProofBut, Frame11, FrameG.
-/
import Derived.Laws.CopyRow
import Derived.Lib.AppendZerosOnto
import Derived.Lib.SliceRun
import Derived.Lib.LaidTab
import Derived.Test.YtpdbpagohccbpaaGreatDoorCards
import Derived.Test.YtpdbpagohccbpaaGreatDoorTie
import Derived.Test.YtpdbpagohccbpaaGreatDoorQ3
import Derived.Deep.SlicePairs
import Derived.Lib.SmallJoins
set_option maxRecDepth 100000
set_option maxHeartbeats 8000000
open Go renaming World->tC,TypeId->tM,Value->tP,maxLen->sA,Addr->sD,info_parts->sE
open Go.Builtin renaming clear_->tL,zeroCells->tQ,append_->tW,copy_->sB,lenOf->sH
open Go.DataW renaming trod_int->tI,trod->sG
open Go.Lib renaming TabIs->tH,cells_of_tab->tJ,tabData->tT
open Go.Proofs.Tryz renaming prog->tA,underlying3->tG,underlying252->tX
open Go.Value renaming slice->tB,int->tK,agg->tS
open Go.World renaming setCell->tN,grownBy->tR,cell?->sF
open List renaming eq_nil_of_length_eq_zero->tU,range->tV,flatMap_cons->tY,cons_append->tZ,nil_append->sC
open Option renaming some->tD,none->tE
open Option.some renaming inj->tF
namespace Go.Proofs.YtpdbpagohccbpaaGreatDoor
open Go.RowKit
abbrev VP:=tP×tP
def YN(w:tC)(g:Nat)(all:List VP):Prop:=w.heap[g]?=tD (.cells (flat all).toArray 191 (0,0))
def Jw(w:tC)(g:Nat)(all:List VP):tC:=w.setRow g (flat all).toArray
theorem YN.set{w:tC}{g:Nat}{all:List VP}(h:YN w g all)(all':List VP):YN (Jw w g all') g all':=setRow_heap w g _ _ _ _ h
theorem LU{w:tC}{g:Nat}{all:List VP}(h:YN w g all):Jw w g all=w:=setRow_self w g _ _ _ h
theorem YN.lt{w:tC}{g:Nat}{all:List VP}(h:YN w g all):g<w.heap.size:=(Array.getElem?_eq_some_iff.1 h).1
theorem YN.drew{w:tC}{g:Nat}{all:List VP}(h:YN w g all):YN w.drew g all:=h
theorem KA(w:tC)(g:Nat)(all:List VP):tR w (Jw w g all) (tD g):=⟨rfl,rfl,rfl,by
 simp[Jw,World.setRow],fun k _ a=>setRow_other w g k _ (fun e=>a (by
 rw[e]))⟩
theorem Ye{w w1 w2:tC}{r:Option Nat}(h1:tR w w1 r)(h2:tR w1 w2 r):tR w w2 r:=⟨h2.os.trans h1.os,h2.tape.trans h1.tape,h2.output.trans h1.output,Nat.le_trans h1.size h2.size,fun k a b=>(h2.block k (Nat.lt_of_lt_of_le a h1.size) b).trans (h1.block k a b)⟩
theorem XO{w w1:tC}{r:Option Nat}(h1:tR w w1 tE):tR w w1 r:=⟨h1.os,h1.tape,h1.output,h1.size,fun k hk _=>h1.block k hk (by
 simp)⟩
theorem xV:∀(n:Nat)(cs:List tP),cs.length=n*2->∃vs:List VP,vs.length=n∧flat vs=cs|0,cs,h=>⟨[],rfl,by rw[tU (by omega:cs.length=0)];rfl⟩|n+1,[],h=>by simp at h|n+1,[_],h=>by simp at h;omega|n+1,a::b::r,h=>by obtain⟨vs,d,c⟩:=xV n r (by simp at h;omega);exact⟨(a,b)::vs,by simp[d],by simp only[flat,tY,tZ,sC]at c⊢;rw[c]⟩
theorem DQ:∀(a b:List VP),flat a=flat b->a=b|[],[],_=>rfl|[],x::r,h=>by simp[flat]at h|x::r,[],h=>by simp[flat]at h|x::r,y::s,h=>by simp only[flat,tY,tZ,sC,List.cons.injEq]at h;obtain⟨c,d,e⟩:=h;rw[DQ r s e,Prod.ext c d]
def RQ(l:List VP):Prop:=∀x∈l,x.1.oneCell'=true∧x.2.oneCell'=true
theorem RQ.flat{l:List VP}(h:RQ l):∀u∈flat l,u.oneCell'=true:=by
 intro u a;simp only[Go.Proofs.YtpdbpagohccbpaaGreatDoor.flat,List.mem_flatMap,List.mem_cons,List.not_mem_nil,or_false]at a;obtain⟨x,b,rfl|rfl⟩:=a;·exact(h x b).1
 ·exact(h x b).2
def fG(base:Nat)(w:tC)(x:VP)(t:Tn):Prop:=Qh base w x.1 t.1∧QJ base w x.2 t.2
def fJ:VP:=(undef,undef)
def YH(base:Nat)(w:tC)(vs:List VP)(l:FL):Prop:=vs.length=l.length∧∀i,i<l.length->fG base w (vs.getD i fJ) (l.getD i ([],[]))
theorem YH.take{base:Nat}{w:tC}{vs:List VP}{l:FL}(h:YH base w vs l)(n:Nat):YH base w (vs.take n) (l.take n):=by
 refine⟨by simp[h.1],fun i b=>?_⟩;have a:i<n∧i<l.length:=by simp at b;omega
 have:=h.2 i a.2;rwa[show(vs.take n).getD i fJ=vs.getD i fJ by simp[a.1],show(l.take n).getD i ([],[])=l.getD i ([],[])by simp[a.1]]
theorem YH.drop{base:Nat}{w:tC}{vs:List VP}{l:FL}(h:YH base w vs l)(n:Nat):YH base w (vs.drop n) (l.drop n):=by
 refine⟨by simp[h.1],fun i b=>?_⟩;have a:n+i<l.length:=by simp at b;omega
 have:=h.2 (n+i) a;rwa[show(vs.drop n).getD i fJ=vs.getD (n+i) fJ by simp,show(l.drop n).getD i ([],[])=l.getD (n+i) ([],[])by simp]
theorem YH.append{base:Nat}{w:tC}{vs us:List VP}{l m:FL}(h:YH base w vs l)(h2:YH base w us m):YH base w (vs++us) (l++m):=by
 refine⟨by simp[h.1,h2.1],fun i b=>?_⟩;rw[Y6,Y6,h.1];by_cases a:i<l.length;·rw[if_pos a,if_pos a];exact h.2 i a
 ·rw[if_neg a,if_neg a];exact h2.2 _ (by simp at b;omega)
theorem YH.one{base:Nat}{w:tC}{x:VP}{t:Tn}(h:fG base w x t):YH base w [x] [t]:=⟨rfl,fun i a=>by
 obtain rfl:i=0:=by simpa using a
 exact h⟩
theorem YH.kept{base:Nat}{w w':tC}{vs:List VP}{l:FL}(h:YH base w vs l){row:Option Nat}(hg:tR w w' row)(hrow:row=tE∨∃g cur t fz,row=tD g∧base<=g∧w.heap[g]?=tD (.cells cur t fz)∧t≠5∧t≠50):YH base w' vs l:=⟨h.1,fun i a=>⟨((h.2 i a).1).keptT hg (eV hrow),((h.2 i a).2).kept hg hrow⟩⟩
theorem YH.oneV{base:Nat}{w:tC}{vs:List VP}{l:FL}(h:YH base w vs l):RQ vs:=by
 intro x b;obtain⟨i,a,rfl⟩:=List.mem_iff_getElem.1 b;have:=h.2 i (by rw[<-h.1];exact a);rw[show vs.getD i fJ=vs[i]by simp[a]]at this;exact⟨Zz this.1,xL this.2⟩
theorem YN.rowOf{base:Nat}{w:tC}{g:Nat}{all:List VP}(h:YN w g all)(hb:base<=g):(tD g:Option Nat)=tE∨∃g' cur t fz,(tD g:Option Nat)=tD g'∧base<=g'∧w.heap[g']?=tD (.cells cur t fz)∧t≠5∧t≠50:=.inr ⟨g,_,_,_,rfl,hb,h,dF,dB⟩
theorem YN.cells{w:tC}{g:Nat}{all:List VP}(h:YN w g all)(p:Nat):∀j u,(flat (all.drop p))[j]?=tD u->w.cell? ((⟨g,p*2,tE⟩:sD).add j)=tD u:=by
 intro j u a;rw[Ee,List.getElem?_drop]at a;rw[ZU];have:=h;unfold YN at this;simp[sF,this];exact a
theorem YN.cellsT{w:tC}{g:Nat}{all:List VP}(h:YN w g all)(p n:Nat):∀j u,(flat ((all.drop p).take n))[j]?=tD u->w.cell? ((⟨g,p*2,tE⟩:sD).add j)=tD u:=by
 intro j u a;refine h.cells p j u ?_;rw[yJ,List.getElem?_take]at a;split at a;·exact a
 ·cases a
theorem uZ{base:Nat}{w:tC}{g:Nat}{all:List VP}{l:FL}(h:YN w g all)(hb:base<=g)(hl:l.length<=all.length)(hm:all.length<=sA)(he:YH 0 w (all.take l.length) l):Zu base w (tB (tD ⟨g,0,tE⟩) l.length all.length) l:=by
 refine⟨all.take l.length,he.1,⟨by rw[Ke,he.1],.inr ⟨g,all.length,_,rfl,hb,h,hl,hm,by simp[Ke],?_⟩⟩,fun i a=>he.2 i a⟩;rw[yJ]
theorem Zu.elim{base:Nat}{w:tC}{v:tP}{l:FL}(h:Zu base w v l):(v=tB tE 0 0∧l=[])∨∃g all,v=tB (tD ⟨g,0,tE⟩) l.length (List.length all)∧YN w g all∧base<=g∧l.length<=all.length∧all.length<=sA∧YH 0 w (all.take l.length) l:=by
 obtain⟨s,o,p,d⟩:=h;rcases p.2with⟨rfl,c⟩|⟨g,cap,a,rfl,j,m,u,t,q,r⟩;·exact .inl ⟨rfl,tU c⟩
 ·obtain⟨all,f,k⟩:=xV cap a.toList (by simpa using q);(have b:a=(flat all).toArray:=by rw[k]);subst b;have e:all.take l.length=s:=DQ _ _ (by rw[yJ];simpa using r);exact .inr ⟨g,all,by rw[f],m,j,by omega,by omega,by rw[e];exact⟨o,fun i n=>d i n⟩⟩
theorem GG:tA.underlying 25=tD (.slice 191):=Tryz.underlying25
theorem FS(all news:List VP)(o:Nat):(((flat all).toArray.toList.take (o*2)++flat news++(flat all).toArray.toList.drop (o*2+(flat news).length)).toArray)=(flat (all.take o++news++all.drop (o+news.length))).toArray:=by
 rw[JE,JE,yJ,Ee,Ke,show(o+news.length)*2=o*2+news.length*2by omega]
theorem Vk(w:tC)(g:Nat)(all news:List VP)(hb:YN w g all)(ty:tM)(o dLen dCap:Nat)(a:sD)(sLen sCap:Nat)(hn:news.length=Nat.min sLen dLen)(hsrc:∀j v,(flat news)[j]?=tD v->w.cell? (a.add j)=tD v)(hfit:o+news.length<=all.length)(h1:RQ news):(sB #[25,25] ty #[tB (tD ⟨g,o*2,tE⟩) dLen dCap,tB (tD a) sLen sCap]).run tA w=.ok (goInt news.length) (Jw w g (all.take o++news++all.drop (o+news.length))):=by
 obtain⟨k,f,h,d,i⟩:=sE Fy;have e:=run_firstCells_some (P:=tA) w 2 news.length a sLen sCap (flat news) (Ke _) hsrc;have b:=run_storeCells_at tA g (o*2) _ (flat news) 0 _ w hb (by simp[Ke];omega) h1.flat;simp only[Nat.add_zero]at b;rw[FS]at b;have c:sLen.min dLen=news.length:=hn.symm;simp[sB,run_underlying GG,sH,sizeOf,typeInfo,f,d,c,e,b,Jw]
theorem Px(w:tC)(g:Nat)(all news:List VP)(hb:YN w g all)(ty:tM)(n:Nat)(a:sD)(m c:Nat)(hn:news.length=m)(hsrc:∀j v,(flat news)[j]?=tD v->w.cell? (a.add j)=tD v)(hfit:n+m<=all.length)(h1:RQ news):(tW #[25,25] ty #[tB (tD ⟨g,0,tE⟩) n all.length,tB (tD a) m c]).run tA w=.ok (tB (tD ⟨g,0,tE⟩) (n+m) all.length) (Jw w g (all.take n++news++all.drop (n+m))):=by
 obtain⟨h,d,e,b,f⟩:=sE Fy;have:=run_append_room (P:=tA) w 25 ty 191 h GG d g n all.length _ hb a m c (flat news) (by rw[Ke,b,hn]) hsrc h1.flat hfit (by rw[b];simp[Ke];omega);rw[this,b,FS,hn];rfl
def Eo:VP:=(tB tE 0 0,tB tE 0 0)
theorem bB(w:tC):(zeroValue 191).run tA w=.ok (tS #[tB tE 0 0,tB tE 0 0]) w:=by
 kernel_rfl
theorem AM(w:tC)(g:Nat)(all:List VP)(hb:YN w g all)(ty:tM)(o c:Nat)(hfit:o<all.length):(tL #[25] ty #[tB (tD ⟨g,o*2,tE⟩) 1 c]).run tA w=.ok (.tuple #[]) (Jw w g (all.take o++[Eo]++all.drop (o+1))):=by
 have a:=run_storeCells_at tA g (o*2) _ (flat [Eo]) 0 _ w hb (by simp[Ke];omega) (by intro u b;simp[flat,Eo]at b;rw[b];rfl);simp only[Nat.add_zero]at a;rw[FS]at a;have d:(tQ (tS #[tB tE 0 0,tB tE 0 0]).cells 1).toList=flat [Eo]:=by kernel_rfl
 simp only[tL,List.getElem?_toArray,List.getElem?_cons_zero,Sem.run_bind,run_underlying GG,Result.andThen_ok,bB,d,a,Sem.run_pure];rfl
theorem CQ(w:tC)(ty:tM)(a:Option sD)(c:Nat):(tL #[25] ty #[tB a 0 c]).run tA w=.ok (.tuple #[]) w:=by
 cases a<;>simp[tL,run_underlying GG]
theorem CA(w:tC)(g:Nat)(all:List VP)(hb:YN w g all)(ty:tM)(n k:Nat)(hk:0<k)(hn:n<=all.length)(hg:all.length<n+k)(hl:n+k<=1000):∃rest:List VP,k<=rest.length∧n+rest.length<=sA∧(tW #[25,3] ty #[tB (tD ⟨g,0,tE⟩) n all.length,tK .i64 k]).run tA w=.ok (tB (tD ⟨w.heap.size,0,tE⟩) (n+k) (n+rest.length)) (w.drew.alloc (.cells (flat (all.take n++rest)).toArray 191)):=by
 obtain⟨l,h,c,d,b⟩:=sE Fy;have a:=run_firstCells_some (P:=tA) w.drew 2 n ⟨g,0,tE⟩ n all.length (flat (all.take n)) (by rw[Ke];simp;omega) (by have:=hb.drew.cellsT 0 n;simpa using this);rw[<-d]at a;have j:=Lib.run_append_grow_zeros (P:=tA) w 25 3 ty 191 l _ .i64 .i64 GG (by kernel_rfl) h c (tD ⟨g,0,tE⟩) n all.length (flat (all.take n)) a k hk (by omega) hg (by omega) (by rw[b];omega) (by rw[b];exact growslice_fits hg (by omega));have f:=grownCap_ge w (n+k) all.length 191;have i:=grownCap_le_maxLen w (n+k) all.length 191 (by unfold sA;omega);generalize grownCap w (n+k) all.length 191=G at*;obtain⟨rest,m,o⟩:=xV (G-n) (tQ (tS #[tB tE 0 0,tB tE 0 0]).cells k++tQ (tS #[tB tE 0 0,tB tE 0 0]).cells (G-(n+k))).toList (by(have e:(tS #[tB tE 0 0,tB tE 0 0]).cells.size=2:=by decide);simp only[Array.length_toList,Array.size_append,size_zeroCells,e];omega);refine⟨rest,by omega,by omega,?_⟩;rw[j];congr 1;·rw[m];congr 1;omega
 ·congr 2;rw[JE,o];simp[Array.append_assoc]
theorem Kl.agg{w:tC}{v:tP}{p:Dl}(h:Kl w v p):∃sa sc ka kc va vc,v=tS #[.bool p.empty,tB sa p.steps.length sc,tB ka p.pair.1.length kc,tB va p.pair.2.length vc]:=by
 obtain⟨e,d,f,rfl,a,b,c⟩:=h;obtain⟨sa,sc,rfl⟩:=a.shape;obtain⟨ka,kc,rfl⟩:=b.shape;obtain⟨va,vc,rfl⟩:=c.shape;exact⟨sa,sc,ka,kc,va,vc,rfl⟩
theorem qQ{w:tC}{c b:Nat}(h:b≠c)(x y z u:tP):((((tN w ⟨c,0,tE⟩ x).setCell ⟨c,1,tE⟩ y).setCell ⟨c,2,tE⟩ z).setCell ⟨c,3,tE⟩ u).heap[b]?=w.heap[b]?:=by
 have one:∀(w:tC)(i:Nat)(u:tP),(tN w ⟨c,i,tE⟩ u).heap[b]?=w.heap[b]?:=fun w i u=>by simp only[tN,Array.getElem?_modify];rw[if_neg (by simpa using h.symm)]
 rw[one,one,one,one]
theorem Gv{w:tC}{c:Nat}{x y z u:tP}{t:tM}(h:w.heap[c]?=tD (.cells #[x,y,z,u] t)):tN w ⟨c,0,tE⟩ x=w∧tN w ⟨c,1,tE⟩ y=w∧tN w ⟨c,2,tE⟩ z=w∧tN w ⟨c,3,tE⟩ u=w:=by
 refine⟨?_,?_,?_,?_⟩;all_goals rw[setCell_eq_setRow w c _ _ _ _ _ h];exact setRow_self w c _ _ _ h
section
open Go.ChangeShapes Go.WideShapes Go.ChangeAt Go.RowKit
def DS:List Int:=[1,32898,9223372036854808714,9223372039002292224,32907,2147483649,9223372039002292353,9223372036854808585,138,136,2147516425,2147483658,2147516555,9223372036854775947,9223372036854808713,9223372036854808579,9223372036854808578,9223372036854775936,32778,9223372039002259466,9223372039002292353,9223372036854808704,2147483649,9223372039002292232]
def DU:List Int:=[10,7,11,17,18,3,5,16,8,21,24,4,15,23,19,13,12,2,20,14,22,9,6,1]
def TH:List Int:=[1,3,6,10,15,21,28,36,45,55,2,14,27,41,56,8,25,43,62,18,39,61,20,44]
def TJ:List Int:=[0,0,3,7,11,3,0,0,3]
def gR:List (String×DataW Unit):=[("canopy/digest.roundNumbers",tT .u64 DS),("canopy/digest.laneWalk",tT .i64 DU),("canopy/digest.laneTurns",tT .i64 TH),("canopy/wire.parts",tT .u8 TJ)]
theorem g0:tA.globalNamed "canopy/digest.roundNumbers"=tD 2:=by
 kernel_rfl
theorem g1:tA.globalNamed "canopy/digest.laneWalk"=tD 3:=by
 kernel_rfl
theorem g2:tA.globalNamed "canopy/digest.laneTurns"=tD 4:=by
 kernel_rfl
theorem gY:(tA.globals[2]?).map (·.type)=tD 245:=by
 kernel_rfl
theorem iE:(tA.globals[3]?).map (·.type)=tD 252:=by
 kernel_rfl
theorem iD:(tA.globals[4]?).map (·.type)=tD 252:=by
 kernel_rfl
theorem aD:tA.cellsOf 245=24:=by
 kernel_rfl
theorem Sn:tA.cellsOf 252=24:=by
 kernel_rfl
theorem bH:tA.cellsOf 228=1:=by
 kernel_rfl
theorem Om:tA.cellsOf 3=1:=by
 kernel_rfl
theorem cP(i:Nat)(h:i<24):DS.getD i 0=U (Jn.getD i 0):=(by
 decide+kernel:∀i:Fin 24,DS.getD i.1 0=U (Jn.getD i.1 0)) ⟨i,h⟩
theorem bC(i:Nat)(h:i<24):DU.getD i 0=((Jm.getD i 0:Nat):Int):=(by
 decide+kernel:∀i:Fin 24,DU.getD i.1 0=((Jm.getD i.1 0:Nat):Int)) ⟨i,h⟩
theorem IG(i:Nat)(h:i<24):TH.getD i 0=((JQ.getD i 0:Nat):Int):=(by
 decide+kernel:∀i:Fin 24,TH.getD i.1 0=((JQ.getD i.1 0:Nat):Int)) ⟨i,h⟩
theorem g3:tA.globalNamed "canopy/wire.parts"=tD 0:=by
 kernel_rfl
theorem iB:(tA.globals[0]?).map (·.type)=tD 101:=by
 kernel_rfl
theorem bK:tA.cellsOf 101=9:=by
 kernel_rfl
theorem bG:tA.cellsOf 5=1:=by
 kernel_rfl
theorem Ol(i:Nat)(h:i<9):TJ.getD i 0=((EA i:Nat):Int):=(by
 decide+kernel:∀i:Fin 9,TJ.getD i.1 0=((EA i.1:Nat):Int)) ⟨i,h⟩
theorem SP{W:tC}(h:laidMet tA gR W):KV W∧X8 W:=by
 obtain⟨R,⟨B,F,t,J,N,S,f,l,p,b,⟨C,G,u,K,O,T,g,m,q,c,⟨D,H,v,L,P,U,j,n,r,d,⟨E,I,w,M,Q,V,k,o,s,e,_,_⟩,_⟩,_⟩,_⟩,_⟩:=h;obtain rfl:=tF (g0.symm.trans f);obtain rfl:=tF (g1.symm.trans g);obtain rfl:=tF (g2.symm.trans j);obtain rfl:=tF (g3.symm.trans k);obtain rfl:=tF (gY.symm.trans l);obtain rfl:=tF (iE.symm.trans m);obtain rfl:=tF (iD.symm.trans n);obtain rfl:=tF (iB.symm.trans o);have x:tH tA W "canopy/digest.roundNumbers" .u64 DS:=by unfold tH;rw[p,<-tJ Tryz.underlying245 Tryz.underlying228 bH aD b]
 have y:tH tA W "canopy/digest.laneWalk" .i64 DU:=by unfold tH;rw[q,<-tJ tX tG Om Sn c]
 have z:tH tA W "canopy/digest.laneTurns" .i64 TH:=by unfold tH;rw[r,<-tJ tX tG Om Sn d]
 have A:tH tA W "canopy/wire.parts" .u8 TJ:=by unfold tH;rw[s,<-tJ Tryz.underlying101 Tryz.underlying5 bG bK e]
 refine⟨fun i a=>by rw[A.cell g3 i a,Ol i a],fun i a=>?_,fun i a=>?_,fun i a=>?_⟩;·rw[x.cell g0 i a,cP i a]
 ·rw[y.cell g1 i a,bC i a]
 ·rw[z.cell g2 i a,IG i a]
def Ms(cs:Array tP):Obj->Obj|.cells _ t frozen=>.cells cs t frozen|o=>o
def vM(W:tC):tC:={W with heap:=(((W.heap.modify 2 (Ms (DS.map fun z=>tK .u64 z).toArray)).modify 3 (Ms (DU.map fun z=>tK .i64 z).toArray)).modify 4 (Ms (TH.map fun z=>tK .i64 z).toArray)).modify 0 (Ms (TJ.map fun z=>tK .u8 z).toArray)}
end
section
open Go.ChangeShapes Go.WideShapes Go.ChangeAt Go.RowKit Go.Deep Go.Joins
instance:Inhabited Gr:=⟨jZ⟩
theorem cQ:tA.cellsOf 3=1:=by
 kernel_rfl
theorem MV{H:Type}{enc:tM×tP->H}{W:tC}{hd:Bool}{fuel:Nat}{a:Option sD}{n cap:Nat}{x:DataW H×List MemPlace}{t e:tM}{f0 f1 f2 f3 f4:Field}(ht:tA.underlying t=tD (.slice e))(he:tA.underlying e=tD (.struct #[f0,f1,f2,f3,f4]))(ce:tA.cellsOf e=5)(o0:f0.offset=0)(o1:f1.offset=1)(o2:f2.offset=2)(o3:f3.offset=3)(o4:f4.offset=4)(t0:f0.type=3)(t1:f1.type=3)(t2:f2.type=3)(t3:f3.type=3)(t4:f4.type=3)(h:sG enc tA W 0 (fun _=>true) hd fuel t [tB a n cap]=tD x):∃l:List Gr,Kr W (tB a n cap) l∧Nb l∧l.length<=sA:=by
 rcases open_slice ht h with⟨j,_⟩|⟨y,len,c,m,k,D,Pl,j,hb,hl,hm,K,hx,s⟩;·simp at j;obtain⟨rfl,rfl,rfl⟩:=j;exact⟨[],⟨tE,0,rfl,Nat.le_refl _,.inl rfl⟩,fun g I=>(by cases I),Nat.zero_le _⟩
 ·simp at j;obtain⟨rfl,rfl,rfl⟩:=j;(have J:m=cap:=by simpa using K);subst J;(have u:∀i,i<m->∃q:Gr,(W.cell? (y.add (i*5))=tD (tK .i64 q.kind)∧W.cell? (y.add (i*5+1))=tD (tK .i64 q.sess)∧W.cell? (y.add (i*5+2))=tD (tK .i64 q.name)∧W.cell? (y.add (i*5+3))=tD (tK .i64 q.key)∧W.cell? (y.add (i*5+4))=tD (tK .i64 q.value))∧vP q:=by intro i p;obtain⟨G,g1,g2⟩:=s i p;rw[ce]at g1;obtain⟨_,d,f⟩:=World.cells?_some g1;obtain⟨xs,k',hk,ab,_,M,v⟩:=DataW.trod_struct he g2;match xs,M,G,d with|[y0,y1,y2,y3,y4],_,[v0,v1,v2,v3,v4],_=>have N:=v 0 f0 rfl;have O:=v 1 f1 rfl;have P:=v 2 f2 rfl;have Q:=v 3 f3 rfl;have R:=v 4 f4 rfl;rw[t0]at N;rw[t1]at O;rw[t2]at P;rw[t3]at Q;rw[t4]at R;simp[o0,o1,o2,o3,o4,cQ]at N O P Q R;have S:=f 0 (by omega);have T:=f 1 (by omega);have U:=f 2 (by omega);have V:=f 3 (by omega);have X:=f 4 (by omega);rw[add_add]at S T U V X;obtain⟨z0,A,ac,w0⟩:=tI tG N;obtain⟨z1,B,ad,w1⟩:=tI tG O;obtain⟨z2,C,ae,w2⟩:=tI tG P;obtain⟨z3,E,af,w3⟩:=tI tG Q;obtain⟨z4,F,ag,w4⟩:=tI tG R;simp at A B C E F;subst A B C E F;exact⟨⟨z0,z1,z2,z3,z4⟩,⟨by simpa using S,by simpa using T,by simpa using U,by simpa using V,by simpa using X⟩,⟨VG w0,VG w1,VG w2,VG w3,VG w4⟩⟩);obtain⟨q,L⟩:=choose_lt u;(have d:((tV n).map fun i=>q i).length=n:=by simp);(have w:∀i,i<n->((tV n).map fun i=>q i).getD i jZ=q i:=by intro i p;simp[p]);refine⟨(tV n).map fun i=>q i,⟨_,m,by rw[d],by omega,?_⟩,?_,by rw[d];omega⟩;(·by_cases h0:n=0;(·left;subst h0;rfl);·right;obtain⟨b,o,Z⟩:=y;have r:=(L 0 (by omega)).1.1;(obtain rfl:Z=tE:=by cases Z with|none=>rfl|some z=>simp[Addr.add,sF]at r;split at r<;>simp at r);refine⟨b,o,rfl,fun i p=>?_⟩;rw[d]at p;obtain⟨⟨g0,g1,g2,g3,Y⟩,_⟩:=L i (by omega);rw[ZU]at g0 g1 g2 g3 Y;rw[w i p];exact⟨g0,g1,g2,g3,Y⟩);·intro g I;obtain⟨i,p,rfl⟩:=List.mem_map.1 I;exact(L i (by have:=List.mem_range.1 p;omega)).2
theorem AY{H:Type}{enc:tM×tP->H}{W:tC}{hd:Bool}{fuel:Nat}{a:Option sD}{n cap:Nat}{x:DataW H×List MemPlace}{t e:tM}{f0 f1 f2 f3 f4:Field}(ht:tA.underlying t=tD (.slice e))(he:tA.underlying e=tD (.struct #[f0,f1,f2,f3,f4]))(ce:tA.cellsOf e=5)(o0:f0.offset=0)(o1:f1.offset=1)(o2:f2.offset=2)(o3:f3.offset=3)(o4:f4.offset=4)(t0:f0.type=3)(t1:f1.type=3)(t2:f2.type=3)(t3:f3.type=3)(t4:f4.type=3)(h:sG enc tA W 0 (fun _=>true) hd fuel t [tB a n cap]=tD x):∃l:List Gr,Kr W (tB a n cap) l∧Nb l:=by
 obtain⟨l,b,c,_⟩:=MV ht he ce o0 o1 o2 o3 o4 t0 t1 t2 t3 t4 h;exact⟨l,b,c⟩
end
end Go.Proofs.YtpdbpagohccbpaaGreatDoor
