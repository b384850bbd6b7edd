/-
  Texts of this proof, joined, with few blanks: AcM0, PairM0, PairB, WrMem, CmtMem, TapeA, TapeB, TapeK, HistF, HistC, TxnF, TxnG, SrvF, SrvI, SrvO, TopF, TenMem, CmtSet, RdMem, StepMem, SvK, SvG, CmtTy, CmtRow, CmtRowD, TxNote, TxM, TxnL, TxCheck, TCCheck, PairStepQ, PairSlice, FCCheck, FCApply, TxMs, RqRd, WrCkF, TxLook, FindM, SrvS, SrvL, SrvM, SrvN, TxClash, TpEnc, TpCheck, BSlice, CmtFit, TxScan, TCRange, FCRange, BitC, PartC, TxWrite, RqWt, HsKept, RqDe, TapeH, WrDtF, SrvT, AcMem, DurF, RdrF, RdrMem, FrameB, GearM, TpSync, TpCrash, TapTy, LnCk, LineH, WrEnF.
-/
import Derived.Deep.AppendLies
import Derived.Test.YtflkfielgfkchaaGreatDoorQ1
import Derived.Maps.AppendAt
import Derived.Deep.RegionWith
import Derived.Handy
import Derived.ProofKit
import Derived.OpenShut
import Derived.ShutString
import Derived.ChangeOld
import Derived.Deep.DeepHandedRow
import Derived.SizedLaws
import Derived.Test.YtflkfielgfkchaaGreatDoorRows
set_option maxRecDepth 100000
set_option maxHeartbeats 8000000
open Array renaming getElem?_eq_some_iff->tJ,getElem?_modify->sA,getElem?_toList->pB
open Bool renaming true->M,false->N,and_eq_true->rP,or_eq_false_iff->rT,false_or->pR
open Classical renaming byContradiction->sX
open Decidable renaming decide->tU
open Go renaming World->F,Value->H,TypeId->sC,undef->sO,sliced->sV,Calls->rA,Addr->rI,Operand->rJ,Oper->rM,info_parts->r7,yielded->pF,maxLen->pL,heap_alloc_new->oL
open Go.Addr.mk renaming injEq->rO
open Go.Ending renaming returned->tE
open Go.Instr renaming slice->rX
open Go.IntKind renaming i64->tD,u8->pE
open Go.Obj renaming cells->Y
open Go.Obj.cells renaming injEq->sB
open Go.Proofs.Tryz renaming prog->O
open Go.Region renaming wanted->sJ
open Go.Result renaming andThen->rN
open Go.Value renaming slice->J,int->tA,bool->tP,tuple->sM,agg->sW,ownBlock->pO
open Go.Value.slice renaming injEq->tI
open Go.World renaming grownBy->L,setCell->tG,cell?->tZ,cell?_of_block->sP,ownsRow_nil->sQ,grownBy_alloc->sR,news_of_block->rC,frozen?->r8,cell?_setCell_same'->pQ
open Go.World.ownsRow renaming kept->tY,lt->sK
open Int renaming toNat_natCast->sL,emod_lt_of_pos->pY,emod_nonneg->oI
open List renaming length_append->tC,mem_cons->tK,eq_nil_of_length_eq_zero->tL,not_mem_nil->tM,flatMap_cons->tN,mem_cons_of_mem->tR,mem_cons_self->tS,mem_append->tX,length_cons->sD,length_singleton->sE,append_nil->sF,foldl_cons->sG,getElem?_take->sH,take_length->sI,getElem?_eq_some_iff->sN,getElem_mem->sU,drop_eq_getElem_cons->sZ,take_succ_eq_append_getElem->rB,pairwise_cons->rD,any_eq_true->rF,length_take->rG,flatMap_nil->rH,take_succ_cons->rK,length_set->rU,length_pos_iff->rW,take_append_drop->pC,take_take->pD,any_cons->pH,map_cons->pI,take_set->pJ,length_nil->pM,nil_append->pN,foldl_nil->pP,getElem?_append_left->pS,take_of_length_le->pT,getElem?_append->pU,drop_succ_cons->pV,set_cons_succ->pW,nodup_append->pX,append_assoc->pZ,cons_append->oC,length_drop->oD,nodup_cons->oG,mem_filter->oH,drop_zero->oJ
open Nat renaming lt_of_lt_of_le->tH,le_trans->tQ,zero_le->tV,le_refl->tW,zero_add->sS,min_eq_left->rV,succ_mul->pA,mul_le_mul_right->pG,sub_zero->pK,le_of_lt_succ->oE,sub_self->oK
open Option renaming none->G,some->I,map_some->rS
open Option.some renaming injEq->tB,inj->oM
open Prod.mk renaming injEq->rY
open UInt8 renaming ofNat->sY,toNat_inj->oF
namespace Go.Proofs.YtflkfielgfkchaaGreatDoor
open Go.RowKit
def Wn(w:F)(v:H)(a:Ac):Prop:=∃vd,v=sW #[tA tD a.kind,tA tD a.sess,tA tD a.keep,vd]∧Qe w vd a.data
theorem Wn.grown{w w':F}{v:H}{a:Ac}(h:Wn w v a)(hg:L w w' G):Wn w' v a:=by
 obtain⟨vd,rfl,h1⟩:=h;exact⟨vd,rfl,h1.grown hg⟩
theorem Wn.agg{w:F}{v:H}{a:Ac}(h:Wn w v a):∃da dc,v=sW #[tA tD a.kind,tA tD a.sess,tA tD a.keep,J da a.data.length dc]∧Qe w (J da a.data.length dc) a.data:=by
 obtain⟨vd,rfl,h1⟩:=h;obtain⟨da,dc,rfl⟩:=h1.shape;exact⟨da,dc,rfl,h1⟩
def RW(w:F)(b o:Nat)(a:Ac):Prop:=∃vd,w.cell? ⟨b,o,G⟩=I (tA tD a.kind)∧w.cell? ⟨b,o+1,G⟩=I (tA tD a.sess)∧w.cell? ⟨b,o+2,G⟩=I (tA tD a.keep)∧w.cell? ⟨b,o+3,G⟩=I vd∧Qe w vd a.data
theorem RW.grown{w w':F}{b o:Nat}{a:Ac}(h:RW w b o a)(hg:L w w' G):RW w' b o a:=by
 obtain⟨vd,c1,c2,c3,c4,h1⟩:=h;exact⟨vd,hg.cell c1 (by simp),hg.cell c2 (by simp),hg.cell c3 (by simp),hg.cell c4 (by simp),h1.grown hg⟩
def XH(w:F)(v:H)(l:List Ac):Prop:=∃a cap,v=J a l.length cap∧l.length<=cap∧((l=[]∧(a=G->cap=0))∨∃b o,a=I ⟨b,o,G⟩∧∀i,i<l.length->RW w b (o+i*4) (l.getD i JC))
theorem kT(w:F):XH w (J G 0 0) []:=⟨G,0,rfl,tW _,.inl ⟨rfl,fun _=>rfl⟩⟩
theorem XH.shape{w:F}{v:H}{l:List Ac}(h:XH w v l):∃a cap,v=J a l.length cap:=by
 obtain⟨a,cap,rfl,_⟩:=h;exact⟨a,cap,rfl⟩
theorem XH.grown{w w':F}{v:H}{l:List Ac}(h:XH w v l)(hg:L w w' G):XH w' v l:=by
 obtain⟨a,cap,rfl,hc,h⟩:=h;refine⟨a,cap,rfl,hc,?_⟩;rcases h with h|⟨b,o,rfl,h⟩;·exact .inl h
 ·exact .inr ⟨b,o,rfl,fun i hi=>(h i hi).grown hg⟩
theorem XH.at{w:F}{a:Option rI}{n cap:Nat}{l:List Ac}(h:XH w (J a n cap) l)(i:Nat)(hi:i<l.length):∃b o,a=I ⟨b,o,G⟩∧RW w b (o+i*4) (l.getD i JC):=by
 obtain⟨a',cap',e,hc,h⟩:=h;simp only[tI]at e;obtain⟨rfl,rfl,rfl⟩:=e;rcases h with⟨rfl,_⟩|⟨b,o,rfl,h⟩;·simp at hi
 ·exact⟨b,o,rfl,h i hi⟩
structure Sj(a:Ac):Prop where kind:-9223372036854775808<=a.kind∧a.kind<=9223372036854775807sess:-9223372036854775808<=a.sess∧a.sess<=9223372036854775807keep:-9223372036854775808<=a.keep∧a.keep<=9223372036854775807data:a.data.length<=140737488355328
structure Rr (l : List Ac) : Prop where
  many : l.length * 48 <= 140737488355328
  each : ∀ i, i < l.length -> Sj (l.getD i JC)
theorem LZ{a:Ac}(h:Xn a):Sj a:=by
 have h0:=h.kind;have h1:=h.data;have h2:0<=a.sess∧a.sess<=7:=by by_cases e:a.kind=1;(·exact h.sess e);·rw[h.noSess e];omega
 have h3:0<=a.keep∧a.keep<=200000:=by by_cases e:a.kind=3;(·exact h.keep e);·rw[h.noKeep e];omega
 exact⟨by omega,by omega,by omega,by omega⟩
abbrev AV:=Ac×H
def Sx:AV:=(JC,sO)
def Jj(us:List AV):List H:=us.flatMap fun x=>[tA tD x.1.kind,tA tD x.1.sess,tA tD x.1.keep,x.2]
theorem yM(us:List AV):(Jj us).length=us.length*4:=by
 induction us with|nil=>rfl|cons x us ih=>rw[Jj,tN,tC,<-Jj,ih,sD];simp;omega
theorem vH(a b:List AV):Jj (a++b)=Jj a++Jj b:=by
 simp[Jj]
theorem N9:∀(us:List AV)(i:Nat),i<us.length->(Jj us)[i*4]?=I (tA tD (us.getD i Sx).1.kind)∧(Jj us)[i*4+1]?=I (tA tD (us.getD i Sx).1.sess)∧(Jj us)[i*4+2]?=I (tA tD (us.getD i Sx).1.keep)∧(Jj us)[i*4+3]?=I (us.getD i Sx).2|[],i,h=>by simp at h|x::us,0,_=>⟨rfl,rfl,rfl,rfl⟩|x::us,i+1,h=>by have:=N9 us i (by simpa using h);rw[show(i+1)*4=i*4+4by omega];exact this
theorem aX:(27:Nat)≠5:=by
 decide
def Jk(rb:Nat)(w:F)(v:H)(l:List Ac):Prop:=∃us:List AV,us.map (·.1)=l∧w.ownsRow rb 27 4 v l.length (Jj us)∧∀x∈us,Qi 0 w x.2 x.1.data
theorem OJ(rb:Nat)(w:F):Jk rb w (J G 0 0) []:=⟨[],rfl,sQ _ _ _ _,fun x hx=>by
 simp at hx⟩
theorem Jk.row{rb:Nat}{w:F}{v:H}{l:List Ac}(h:Jk rb w v l):v.ownBlock=G∨∃g cur fz,v.ownBlock=I g∧rb<=g∧w.heap[g]?=I (Y cur 27 fz):=by
 obtain⟨us,_,h,_⟩:=h;rcases h.2with⟨rfl,_⟩|⟨g,cap,cur,rfl,hb,hg,_⟩;·exact .inl rfl
 ·exact .inr ⟨g,cur,_,rfl,hb,hg⟩
theorem Jk.lt{rb:Nat}{w:F}{v:H}{l:List Ac}(h:Jk rb w v l):∀k,v.ownBlock=I k->rb<=k∧k<w.heap.size:=by
 obtain⟨us,_,h,_⟩:=h;exact sK h
theorem Jk.grownNone{rb:Nat}{w w':F}{v:H}{l:List Ac}(h:Jk rb w v l)(hg:L w w' G):Jk rb w' v l:=by
 obtain⟨us,h1,h2,h3⟩:=h;refine⟨us,h1,tY h2 hg ?_,fun x hx=>(h3 x hx).keptT hg (.inl rfl)⟩;cases hv:v.ownBlock with|none=>exact .inl rfl|some k=>exact .inr (by simp)
theorem Jk.alloc{rb:Nat}{w:F}{v:H}{l:List Ac}(h:Jk rb w v l)(o:Obj):Jk rb (w.alloc o) v l:=h.grownNone (sR _ _ _)
theorem Jk.shape{rb:Nat}{w:F}{v:H}{l:List Ac}(h:Jk rb w v l):∃a cap,v=J a l.length cap:=by
 obtain⟨us,_,h,_⟩:=h;rcases h.2with⟨rfl,h0⟩|⟨g,cap,cur,rfl,_⟩;·exact⟨G,0,by rw[h0]⟩
 ·exact⟨_,cap,rfl⟩
theorem Wx{us:List AV}{l:List Ac}(h:us.map (·.1)=l)(i:Nat)(hi:i<l.length):(us.getD i Sx).1=l.getD i JC∧us.getD i Sx∈us:=by
 subst h;have hi':i<us.length:=by simpa using hi
 refine⟨by simp[hi'],?_⟩;rw[show us.getD i Sx=us[i]by simp[hi']];exact sU hi'
theorem Jk.list{rb:Nat}{w:F}{v:H}{l:List Ac}(h:Jk rb w v l):XH w v l:=by
 obtain⟨us,hl,hr,h3⟩:=h;rcases hr.2with⟨rfl,h0⟩|⟨g,cap,cur,rfl,hb,hg,hn,hm,hs,ht⟩;·have:l=[]:=tL h0;rw[this];exact kT w
 ·(have hcell:∀j u,(Jj us)[j]?=I u->w.cell? ⟨g,j,G⟩=I u:=by intro j u hj;(have hlt:j<l.length*4:=by have:=(sN.1 hj).1;rw[hr.1]at this;exact this);(have e2:(cur.toList.take (l.length*4))[j]?=(Jj us)[j]?:=by rw[ht]);rw[sH,if_pos hlt,hj]at e2;simp[tZ,hg];simpa using e2);refine⟨_,cap,rfl,hn,.inr ⟨g,0,rfl,fun i hi=>?_⟩⟩;obtain⟨e1,e2⟩:=Wx hl i hi;(have hlen:us.length=l.length:=by rw[<-hl];simp);obtain⟨c1,c2,c3,c4⟩:=N9 us i (by omega);have hp:=h3 _ e2;rw[e1]at c1 c2 c3 hp;rw[sS];exact⟨_,hcell _ _ c1,hcell _ _ c2,hcell _ _ c3,hcell _ _ c4,hp.1⟩
theorem Tm{rb:Nat}{w W w1:F}{v:H}{l:List Ac}(h:L w W G)(ho:Jk rb W v l)(hb:w.heap.size<=rb)(hg:L W w1 v.ownBlock):L w w1 G:=⟨hg.os.trans h.os,hg.tape.trans h.tape,hg.output.trans h.output,tQ h.size hg.size,fun i hi hn=>(hg.block i (tH hi h.size) (fun e=>by
 have:=(ho.lt i e.symm).1;omega)).trans (h.block i hi hn)⟩
theorem Db:(O.info? 27).map (fun i=>(i.zero,i.size,i.bytes))=I (I (sW #[tA tD 0,tA tD 0,tA tD 0,J G 0 0]),4,48):=by
 kernel_rfl
def PH(w:F)(v:H)(p:Pr):Prop:=∃vk vv,v=sW #[vk,vv]∧Qe w vk p.1∧Qe w vv p.2
theorem PH.grown{w w':F}{v:H}{p:Pr}(h:PH w v p)(hg:L w w' G):PH w' v p:=by
 obtain⟨vk,vv,rfl,h1,h2⟩:=h;exact⟨vk,vv,rfl,h1.grown hg,h2.grown hg⟩
def PW(w:F)(b o:Nat)(p:Pr):Prop:=∃vk vv,w.cell? ⟨b,o,G⟩=I vk∧w.cell? ⟨b,o+1,G⟩=I vv∧Qe w vk p.1∧Qe w vv p.2
theorem PW.grown{w w':F}{b o:Nat}{p:Pr}(h:PW w b o p)(hg:L w w' G):PW w' b o p:=by
 obtain⟨vk,vv,c1,c2,h1,h2⟩:=h;exact⟨vk,vv,hg.cell c1 (by simp),hg.cell c2 (by simp),h1.grown hg,h2.grown hg⟩
def Qs(w:F)(v:H)(l:PL):Prop:=∃a cap,v=J a l.length cap∧l.length<=cap∧((l=[]∧(a=G->cap=0))∨∃b o,a=I ⟨b,o,G⟩∧∀i,i<l.length->PW w b (o+i*2) (l.getD i ([],[])))
theorem Yo(w:F):Qs w (J G 0 0) []:=⟨G,0,rfl,tW _,.inl ⟨rfl,fun _=>rfl⟩⟩
theorem Qs.grown{w w':F}{v:H}{l:PL}(h:Qs w v l)(hg:L w w' G):Qs w' v l:=by
 obtain⟨a,cap,rfl,hc,h⟩:=h;refine⟨a,cap,rfl,hc,?_⟩;rcases h with h|⟨b,o,rfl,h⟩;·exact .inl h
 ·exact .inr ⟨b,o,rfl,fun i hi=>(h i hi).grown hg⟩
theorem Qs.shape{w:F}{v:H}{l:PL}(h:Qs w v l):∃a cap,v=J a l.length cap:=by
 obtain⟨a,cap,rfl,_⟩:=h;exact⟨a,cap,rfl⟩
theorem Qs.at{w:F}{a:Option rI}{n cap:Nat}{l:PL}(h:Qs w (J a n cap) l)(i:Nat)(hi:i<l.length):∃b o,a=I ⟨b,o,G⟩∧PW w b (o+i*2) (l.getD i ([],[])):=by
 obtain⟨a',cap',e,hc,h⟩:=h;simp only[tI]at e;obtain⟨rfl,rfl,rfl⟩:=e;rcases h with⟨rfl,_⟩|⟨b,o,rfl,h⟩;·simp at hi
 ·exact⟨b,o,rfl,h i hi⟩
theorem Qi.kept{base:Nat}{w w':F}{v:H}{bs:List UInt8}(h:Qi base w v bs){row:Option Nat}(hg:L w w' row)(hrow:row=G∨∃g cur fz,row=I g∧base<=g∧w.heap[g]?=I (Y cur 42 fz)):Qi base w' v bs:=by
 obtain⟨hs,ho⟩:=h;rcases ho with rfl|⟨b,hb,hlt,hc⟩;·obtain⟨a,cap,rfl,hc,h⟩:=hs;refine⟨⟨a,cap,rfl,hc,?_⟩,.inl rfl⟩;rcases h with h|⟨b,o,rfl,h⟩;(·exact .inl h);·exact .inr ⟨b,o,rfl,fun i hi=>by simp at hi⟩
 ·(have hne:I b≠row:=by intro e;rcases hrow with rfl|⟨g,cur,fz,rfl,hbg,hgc⟩;(·cases e);·cases e;rcases hc with hc|⟨cur2,fz2,hc⟩;(·omega);·rw[hc]at hgc;simp at hgc);have hblk:=hg.block b hlt hne;refine⟨?_,.inr ⟨b,hb,tH hlt hg.size,?_⟩⟩;(·obtain⟨a,cap,rfl,hcp,h⟩:=hs;refine⟨a,cap,rfl,hcp,?_⟩;rcases h with h|⟨b',o,rfl,h⟩;(·exact .inl h);·refine .inr ⟨b',o,rfl,fun i hi=>?_⟩;simp[pO]at hb;subst hb;exact hg.cell (h i hi) (by simpa using hne));·rcases hc with hc|⟨cur,fz,hc⟩;(·exact .inl hc);·exact .inr ⟨cur,fz,by rw[hblk];exact hc⟩
def flat(vs:List (H×H)):List H:=vs.flatMap fun x=>[x.1,x.2]
theorem KG(vs:List (H×H)):(flat vs).length=vs.length*2:=by
 induction vs with|nil=>rfl|cons x r ih=>simp only[flat,tN,tC,sD,pM]at ih⊢;omega
theorem J6(a b:List (H×H)):flat (a++b)=flat a++flat b:=by
 simp[flat]
theorem xN:∀(vs:List (H×H))(i:Nat),i<vs.length->(flat vs)[i*2]?=I (vs.getD i (sO,sO)).1∧(flat vs)[i*2+1]?=I (vs.getD i (sO,sO)).2|[],i,h=>by simp at h|x::r,0,_=>by simp[flat]|x::r,i+1,h=>by have:=xN r i (by simpa using h);rw[show(i+1)*2=i*2+2by omega,show i*2+2+1=(i*2+1)+2by omega];simpa[flat]using this
def GC(base:Nat)(w:F)(v:H)(l:PL):Prop:=∃vs:List (H×H),vs.length=l.length∧w.ownsRow base 42 2 v l.length (flat vs)∧∀i,i<l.length->Qi base w (vs.getD i (sO,sO)).1 (l.getD i ([],[])).1∧Qi base w (vs.getD i (sO,sO)).2 (l.getD i ([],[])).2
theorem GC.row{base:Nat}{w:F}{v:H}{l:PL}(h:GC base w v l):v.ownBlock=G∨∃g cur fz,v.ownBlock=I g∧base<=g∧w.heap[g]?=I (Y cur 42 fz):=by
 obtain⟨vs,_,h,_⟩:=h;rcases h.2with⟨rfl,_⟩|⟨g,cap,cur,rfl,hb,hg,_⟩;·exact .inl rfl
 ·exact .inr ⟨g,cur,_,rfl,hb,hg⟩
theorem GC.lt{base:Nat}{w:F}{v:H}{l:PL}(h:GC base w v l):∀k,v.ownBlock=I k->base<=k∧k<w.heap.size:=by
 obtain⟨vs,_,h,_⟩:=h;exact sK h
theorem GC.grownNone{base:Nat}{w w':F}{v:H}{l:PL}(h:GC base w v l)(hg:L w w' G):GC base w' v l:=by
 obtain⟨vs,h1,h2,h3⟩:=h;refine⟨vs,h1,tY h2 hg ?_,fun i hi=>⟨((h3 i hi).1).kept hg (.inl rfl),((h3 i hi).2).kept hg (.inl rfl)⟩⟩;cases hv:v.ownBlock with|none=>exact .inl rfl|some k=>exact .inr (by simp)
theorem GC.alloc{base:Nat}{w:F}{v:H}{l:PL}(h:GC base w v l)(o:Obj):GC base (w.alloc o) v l:=h.grownNone (sR _ _ _)
theorem GC.shape{base:Nat}{w:F}{v:H}{l:PL}(h:GC base w v l):∃a cap,v=J a l.length cap:=by
 obtain⟨vs,_,h,_⟩:=h;rcases h.2with⟨rfl,h0⟩|⟨g,cap,cur,rfl,_⟩;·exact⟨G,0,by rw[h0]⟩
 ·exact⟨_,cap,rfl⟩
theorem gH{base:Nat}{w W w1:F}{v:H}{l:PL}(h:L w W G)(ho:GC base W v l)(hb:w.heap.size<=base)(hg:L W w1 v.ownBlock):L w w1 G:=⟨hg.os.trans h.os,hg.tape.trans h.tape,hg.output.trans h.output,tQ h.size hg.size,fun i hi hn=>(hg.block i (tH hi h.size) (fun e=>by
 have:=(ho.lt i e.symm).1;omega)).trans (h.block i hi hn)⟩
theorem CI:(O.info? 42).map (fun i=>(i.zero,i.size,i.bytes))=I (I (sW #[J G 0 0,J G 0 0]),2,48):=by
 kernel_rfl
theorem Jp{α:Type}(a b:List α)(i:Nat)(d:α):(a++b).getD i d=if i<a.length then a.getD i d else b.getD (i-a.length) d:=by
 by_cases h:i<a.length;·rw[if_pos h];simp[pU,h]
 ·rw[if_neg h];simp[pU,h]
theorem yY(vs:List (H×H))(k:Nat):flat (vs.take k)=(flat vs).take (k*2):=by
 induction vs generalizing k with|nil=>simp[flat]|cons x r ih=>cases k with|zero=>simp[flat]|succ k=>rw[rK,show(k+1)*2=k*2+2by omega];have:=ih k;simp only[flat,tN,oC,pN,rK]at this⊢;rw[this]
theorem E9(vs:List (H×H))(k:Nat):flat (vs.drop k)=(flat vs).drop (k*2):=by
 induction vs generalizing k with|nil=>simp[flat]|cons x r ih=>cases k with|zero=>simp[flat]|succ k=>rw[pV,show(k+1)*2=k*2+2by omega];have:=ih k;simp only[flat,tN,oC,pN,pV]at this⊢;rw[this]
theorem GC.cells{base:Nat}{w:F}{g n cap:Nat}{vs:List (H×H)}{l:PL}(hr:w.ownsRow base 42 2 (J (I ⟨g,0,G⟩) n cap) l.length (flat vs)):∀j u,(flat vs)[j]?=I u->w.cell? ⟨g,j,G⟩=I u:=by
 intro j u hj;rcases hr.2with⟨e,_⟩|⟨g',cap',cur,e,hb,hg,hn,hm,hs,ht⟩;·cases e
 ·simp only[tI,tB,rO]at e;obtain⟨⟨rfl,_⟩,_,_⟩:=e;(have hlt:j<l.length*2:=by have:=(sN.1 hj).1;rw[hr.1]at this;exact this);(have e2:(cur.toList.take (l.length*2))[j]?=(flat vs)[j]?:=by rw[ht]);rw[sH,if_pos hlt,hj]at e2;simp[tZ,hg];simpa using e2
theorem Q9.setOther{base:Nat}{w:F}{v:H}{bs:List UInt8}(h:Q9 base w v bs)(c i:Nat)(x:H)(hc:c<base):Q9 base (tG w ⟨c,i,G⟩ x) v bs:=by
 refine h.grown (row:=I c) (Qh (Qb _ _) i x) ?_;cases hv:v.ownBlock with|none=>exact .inl rfl|some k=>have:=(h.lt k hv).1;exact .inr (by simp;omega)
theorem U8{W w:F}{b:Nat}{x y:H}{t:sC}(hg:L W w G)(h:W.heap[b]?=I (Y #[x,y] t))(u v:H):(tG w ⟨b,0,G⟩ u).cell? ⟨b,0,G⟩=I u∧((tG w ⟨b,0,G⟩ u).setCell ⟨b,1,G⟩ v).cell? ⟨b,1,G⟩=I v:=by
 have hb:w.heap[b]?=I (Y #[x,y] t):=by rw[hg.block b (tJ.1 h).1 (by simp)];exact h
 have c0:w.cell? ⟨b,0,G⟩=I x:=by simp[tZ,hb]
 have c1:w.cell? ⟨b,1,G⟩=I y:=by simp[tZ,hb]
 refine⟨pQ _ _ _ (by rw[c0];rfl),pQ _ _ _ ?_⟩;rw[World.cell?_setCell_other _ _ _ _ (by simp),c1];rfl
theorem Gt{base:Nat}{W:F}{pb:Nat}{x y:H}(h:W.heap[pb]?=I (Y #[x,y] 42))(hb:base<=pb)(u v:H):((tG W ⟨pb,0,G⟩ u).setCell ⟨pb,1,G⟩ v).heap[pb]?=I (Y #[u,v] 42)∧(∀z bs,Qi base W z bs->Qi base ((tG W ⟨pb,0,G⟩ u).setCell ⟨pb,1,G⟩ v) z bs)∧∀w0:F,w0.heap.size<=pb->L w0 W G->L w0 ((tG W ⟨pb,0,G⟩ u).setCell ⟨pb,1,G⟩ v) G:=by
 refine⟨?_,fun z bs hz=>?_,fun w0 h0 hg=>Qd (Qd hg _ h0 _ _) _ h0 _ _⟩;·simp only[tG,sA,if_true,h,rS];first|rfl|simp
 ·exact hz.kept (Qh (Qh (Qb _ _) _ _) _ _) (.inr ⟨pb,_,_,rfl,hb,h⟩)
def Kx(rb pb:Nat)(w:F)(v:H)(l:PL):Prop:=∃vs:List (H×H),vs.length=l.length∧w.ownsRow rb 42 2 v l.length (flat vs)∧∀i,i<l.length->Qi pb w (vs.getD i (sO,sO)).1 (l.getD i ([],[])).1∧Qi pb w (vs.getD i (sO,sO)).2 (l.getD i ([],[])).2
theorem BF(rb pb:Nat)(w:F):Kx rb pb w (J G 0 0) []:=⟨[],rfl,sQ _ _ _ _,fun i hi=>by
 simp at hi⟩
theorem Kx.p{rb pb:Nat}{w:F}{v:H}{l:PL}(h:Kx rb pb w v l)(hb:pb<=rb):GC pb w v l:=by
 obtain⟨vs,h1,h2,h3⟩:=h;refine⟨vs,h1,⟨h2.1,?_⟩,h3⟩;rcases h2.2with h|⟨g,cap,cur,h1,h2,h3⟩;·exact .inl h
 ·exact .inr ⟨g,cap,cur,h1,tQ hb h2,h3⟩
theorem Kx.row{rb base:Nat}{w:F}{v:H}{l:PL}(h:Kx rb base w v l)(hb:base<=rb):v.ownBlock=G∨∃g cur fz,v.ownBlock=I g∧base<=g∧w.heap[g]?=I (Y cur 42 fz):=(h.p hb).row
theorem Kx.lt{rb pb:Nat}{w:F}{v:H}{l:PL}(h:Kx rb pb w v l):∀k,v.ownBlock=I k->rb<=k∧k<w.heap.size:=by
 obtain⟨vs,_,h,_⟩:=h;exact sK h
theorem Kx.grownNone{rb pb:Nat}{w w':F}{v:H}{l:PL}(h:Kx rb pb w v l)(hg:L w w' G):Kx rb pb w' v l:=by
 obtain⟨vs,h1,h2,h3⟩:=h;refine⟨vs,h1,tY h2 hg ?_,fun i hi=>⟨((h3 i hi).1).kept hg (.inl rfl),((h3 i hi).2).kept hg (.inl rfl)⟩⟩;cases hv:v.ownBlock with|none=>exact .inl rfl|some k=>exact .inr (by simp)
theorem Kx.alloc{rb pb:Nat}{w:F}{v:H}{l:PL}(h:Kx rb pb w v l)(o:Obj):Kx rb pb (w.alloc o) v l:=h.grownNone (sR _ _ _)
theorem Kx.shape{rb pb:Nat}{w:F}{v:H}{l:PL}(h:Kx rb pb w v l):∃a cap,v=J a l.length cap:=by
 obtain⟨vs,_,h,_⟩:=h;rcases h.2with⟨rfl,h0⟩|⟨g,cap,cur,rfl,_⟩;·exact⟨G,0,by rw[h0]⟩
 ·exact⟨_,cap,rfl⟩
theorem Ro{rb pb:Nat}{w W w1:F}{v:H}{l:PL}(h:L w W G)(ho:Kx rb pb W v l)(hb:w.heap.size<=rb)(hg:L W w1 v.ownBlock):L w w1 G:=⟨hg.os.trans h.os,hg.tape.trans h.tape,hg.output.trans h.output,tQ h.size hg.size,fun i hi hn=>(hg.block i (tH hi h.size) (fun e=>by
 have:=(ho.lt i e.symm).1;omega)).trans (h.block i hi hn)⟩
def iL(base:Nat)(w:F)(b o:Nat)(p:Pr):Prop:=∃vk vv,w.cell? ⟨b,o,G⟩=I vk∧w.cell? ⟨b,o+1,G⟩=I vv∧Qi base w vk p.1∧Qi base w vv p.2
def QN(base:Nat)(w:F)(v:H)(l:PL):Prop:=∃a cap,v=J a l.length cap∧l.length<=cap∧((l=[]∧(a=G->cap=0))∨∃b o,a=I ⟨b,o,G⟩∧(b<base∨∃cur fz,w.heap[b]?=I (Y cur 42 fz))∧∀i,i<l.length->iL base w b (o+i*2) (l.getD i ([],[])))
theorem QN.list{base:Nat}{w:F}{v:H}{l:PL}(h:QN base w v l):Qs w v l:=by
 obtain⟨a,cap,rfl,hc,h⟩:=h;refine⟨a,cap,rfl,hc,?_⟩;rcases h with h|⟨b,o,rfl,_,h⟩;·exact .inl h
 ·refine .inr ⟨b,o,rfl,fun i hi=>?_⟩;obtain⟨vk,vv,c1,c2,h1,h2⟩:=h i hi;exact⟨vk,vv,c1,c2,h1.1,h2.1⟩
theorem Qs.pairsB{w w':F}{v:H}{l:PL}(h:Qs w v l)(hg:L w w' G)(base:Nat)(hb:w.heap.size<=base):QN base w' v l:=by
 obtain⟨a,cap,rfl,hc,h⟩:=h;refine⟨a,cap,rfl,hc,?_⟩;rcases h with h|⟨b,o,rfl,h⟩;·exact .inl h
 ·by_cases h0:l=[];(·exact .inl ⟨h0,fun e=>by cases e⟩);·have hl:0<l.length:=rW.2 h0;refine .inr ⟨b,o,rfl,.inl ?_,fun i hi=>?_⟩;(·obtain⟨vk,vv,c1,_⟩:=h 0 hl;exact tH (VG c1) hb);·obtain⟨vk,vv,c1,c2,h1,h2⟩:=h i hi;exact⟨vk,vv,hg.cell c1 (by simp),hg.cell c2 (by simp),h1.part hg base hb,h2.part hg base hb⟩
theorem GC.pairsB{base:Nat}{w:F}{v:H}{l:PL}(h:GC base w v l):QN base w v l:=by
 obtain⟨vs,hl,hr,h3⟩:=h;have hr':=hr;rcases hr.2with⟨rfl,h0⟩|⟨g,cap,cur,rfl,hb,hg,hn,hm,hs,ht⟩;·have:l=[]:=tL h0;subst this;exact⟨G,0,rfl,tW _,.inl ⟨rfl,fun _=>rfl⟩⟩
 ·refine⟨_,cap,rfl,hn,.inr ⟨g,0,rfl,.inr ⟨cur,_,hg⟩,fun i hi=>?_⟩⟩;have hf:=xN vs i (by omega);refine⟨(vs.getD i (sO,sO)).1,(vs.getD i (sO,sO)).2,?_,?_,(h3 i hi).1,(h3 i hi).2⟩;(·have:=GC.cells hr' _ _ hf.1;rw[sS];exact this);·have:=GC.cells hr' _ _ hf.2;rw[sS];exact this
theorem QN.kept{base:Nat}{w w':F}{v:H}{l:PL}(h:QN base w v l){row:Option Nat}(hg:L w w' row)(hrow:row=G∨∃g cur t fz,row=I g∧base<=g∧w.heap[g]?=I (Y cur t fz)∧t≠5∧t≠42):QN base w' v l:=by
 obtain⟨a,cap,rfl,hc,h⟩:=h;refine⟨a,cap,rfl,hc,?_⟩;rcases h with h|⟨b,o,rfl,hb,h⟩;·exact .inl h
 ·by_cases h0:l=[];(·exact .inl ⟨h0,fun e=>by cases e⟩);·have hl:0<l.length:=rW.2 h0;(have hlt:b<w.heap.size:=by obtain⟨vk,vv,c1,_⟩:=h 0 hl;exact VG c1);(have hne:I b≠row:=by intro e;rcases hrow with rfl|⟨g,cur,t,fz,rfl,hbg,hgc,ht,ht2⟩;(·cases e);·cases e;rcases hb with hb|⟨cur2,fz2,hb⟩;(·omega);·rw[hb]at hgc;simp only[tB,sB]at hgc;exact ht2 hgc.2.1.symm);(have hrow':row=G∨∃g cur t fz,row=I g∧base<=g∧w.heap[g]?=I (Y cur t fz)∧t≠5:=by rcases hrow with h|⟨g,cur,t,fz,h1,h2,h3,h4,_⟩;(·exact .inl h);·exact .inr ⟨g,cur,t,fz,h1,h2,h3,h4⟩);refine .inr ⟨b,o,rfl,?_,fun i hi=>?_⟩;(·rcases hb with hb|⟨cur,fz,hb⟩;(·exact .inl hb);·exact .inr ⟨cur,fz,by rw[hg.block b hlt hne];exact hb⟩);·obtain⟨vk,vv,c1,c2,h1,h2⟩:=h i hi;exact⟨vk,vv,hg.cell c1 (by simpa using hne),hg.cell c2 (by simpa using hne),h1.keptT hg hrow',h2.keptT hg hrow'⟩
theorem QN.grown{base:Nat}{w w':F}{v:H}{l:PL}(h:QN base w v l)(hg:L w w' G):QN base w' v l:=h.kept hg (.inl rfl)
theorem xZ{base:Nat}{w:F}{v:H}{l:PL}(h:QN base w v l):v.oneCell'=M:=by
 obtain⟨a,cap,rfl,_⟩:=h;rfl
theorem YF(base:Nat)(w:F):QN base w (J G 0 0) []:=⟨G,0,rfl,tW _,.inl ⟨rfl,fun _=>rfl⟩⟩
theorem QN.shape{base:Nat}{w:F}{v:H}{l:PL}(h:QN base w v l):∃a cap,v=J a l.length cap:=by
 obtain⟨a,cap,rfl,_⟩:=h;exact⟨a,cap,rfl⟩
theorem QN.mono{base base':Nat}{w:F}{v:H}{l:PL}(h:QN base w v l)(hb:base<=base'):QN base' w v l:=by
 obtain⟨a,cap,rfl,hc,h⟩:=h;refine⟨a,cap,rfl,hc,?_⟩;rcases h with h|⟨b,o,rfl,h1,h2⟩;·exact .inl h
 ·refine .inr ⟨b,o,rfl,?_,fun i hi=>?_⟩;(·rcases h1 with h1|h1;(·exact .inl (by omega));·exact .inr h1);·obtain⟨vk,vv,c1,c2,p1,p2⟩:=h2 i hi;exact⟨vk,vv,c1,c2,p1.mono hb,p2.mono hb⟩
theorem Kx.pairsB{rb:Nat}{w:F}{v:H}{l:PL}(h:Kx rb 0 w v l):QN 0 w v l:=(h.p (tV _)).pairsB
theorem QN.up{w:F}{v:H}{l:PL}(h:QN 0 w v l)(base:Nat):QN base w v l:=h.mono (tV _)
abbrev WV:=Zh×H×H×H
def Ab:WV:=(Qr,sO,sO,sO)
def Ja(us:List WV):List H:=us.flatMap fun x=>[x.2.1,x.2.2.1,tP x.1.gone,x.2.2.2]
theorem Wp(us:List WV):(Ja us).length=us.length*4:=by
 induction us with|nil=>rfl|cons x r ih=>simp only[Ja,tN,tC,sD,pM]at ih⊢;omega
theorem uP(a b:List WV):Ja (a++b)=Ja a++Ja b:=by
 simp[Ja]
theorem Mf:∀(us:List WV)(i:Nat),i<us.length->(Ja us)[i*4]?=I (us.getD i Ab).2.1∧(Ja us)[i*4+1]?=I (us.getD i Ab).2.2.1∧(Ja us)[i*4+2]?=I (tP (us.getD i Ab).1.gone)∧(Ja us)[i*4+3]?=I (us.getD i Ab).2.2.2|[],i,h=>by simp at h|x::r,0,_=>by simp[Ja]|x::r,i+1,h=>by have:=Mf r i (by simpa using h);rw[show(i+1)*4=i*4+4by omega,show i*4+4+1=(i*4+1)+4by omega,show i*4+4+2=(i*4+2)+4by omega,show i*4+4+3=(i*4+3)+4by omega];simpa[Ja]using this
theorem uC:(179:Nat)≠5:=by
 decide
theorem Wo{us:List WV}{l:List Zh}(h:us.map (·.1)=l)(i:Nat)(hi:i<l.length):(us.getD i Ab).1=l.getD i Qr∧us.getD i Ab∈us:=by
 subst h;have hi':i<us.length:=by simpa using hi
 refine⟨by simp[hi'],?_⟩;rw[show us.getD i Ab=us[i]by simp[hi']];exact sU hi'
theorem cQ:(O.info? 179).map (fun i=>(i.zero,i.size,i.bytes))=I (I (sW #[J G 0 0,J G 0 0,tP N,J G 0 0]),4,80):=by
 kernel_rfl
theorem Ei(w:F)(vn vk vv:H)(p:Zh)(h1:Qe w vn p.name)(h2:Qe w vk p.key)(h3:Qe w vv p.value)(t:sC):QQ (w.alloc (Y #[vn,vk,tP p.gone,vv] t)) (J (I ⟨w.heap.size,0,G⟩) 1 1) [p]:=by
 refine⟨_,1,rfl,by simp,.inr ⟨w.heap.size,0,rfl,fun i hi=>?_⟩⟩;match i,hi with|0,_=>exact⟨vn,vk,vv,by simp,by simp,by simp,by simp,h1.alloc _,h2.alloc _,h3.alloc _⟩
def OS(base:Nat)(w:F)(b o:Nat)(p:Zh):Prop:=∃vn vk vv,w.cell? ⟨b,o,G⟩=I vn∧w.cell? ⟨b,o+1,G⟩=I vk∧w.cell? ⟨b,o+2,G⟩=I (tP p.gone)∧w.cell? ⟨b,o+3,G⟩=I vv∧Qi base w vn p.name∧Qi base w vk p.key∧Qi base w vv p.value
def Xr(base:Nat)(w:F)(v:H)(l:List Zh):Prop:=∃a cap,v=J a l.length cap∧l.length<=cap∧((l=[]∧(a=G->cap=0))∨∃b o,a=I ⟨b,o,G⟩∧(b<base∨∃cur fz,w.heap[b]?=I (Y cur 179 fz))∧∀i,i<l.length->OS base w b (o+i*4) (l.getD i Qr))
theorem Ci(base:Nat)(w:F):Xr base w (J G 0 0) []:=⟨G,0,rfl,tW _,.inl ⟨rfl,fun _=>rfl⟩⟩
theorem Xr.shape{base:Nat}{w:F}{v:H}{l:List Zh}(h:Xr base w v l):∃a cap,v=J a l.length cap:=by
 obtain⟨a,cap,rfl,_⟩:=h;exact⟨a,cap,rfl⟩
theorem Xr.oneCell{base:Nat}{w:F}{v:H}{l:List Zh}(h:Xr base w v l):v.oneCell'=M:=by
 obtain⟨a,cap,rfl,_⟩:=h;rfl
theorem Xr.list{base:Nat}{w:F}{v:H}{l:List Zh}(h:Xr base w v l):QQ w v l:=by
 obtain⟨a,cap,rfl,hc,h⟩:=h;refine⟨a,cap,rfl,hc,?_⟩;rcases h with h|⟨b,o,rfl,_,h⟩;·exact .inl h
 ·refine .inr ⟨b,o,rfl,fun i hi=>?_⟩;obtain⟨vn,vk,vv,c1,c2,c3,c4,h1,h2,h3⟩:=h i hi;exact⟨vn,vk,vv,c1,c2,c3,c4,h1.1,h2.1,h3.1⟩
theorem Xr.kept{base:Nat}{w w':F}{v:H}{l:List Zh}(h:Xr base w v l){row:Option Nat}(hg:L w w' row)(hrow:row=G∨∃g cur t fz,row=I g∧base<=g∧w.heap[g]?=I (Y cur t fz)∧t≠5∧t≠179):Xr base w' v l:=by
 obtain⟨a,cap,rfl,hc,h⟩:=h;refine⟨a,cap,rfl,hc,?_⟩;rcases h with h|⟨b,o,rfl,hb,h⟩;·exact .inl h
 ·by_cases h0:l=[];(·exact .inl ⟨h0,fun e=>by cases e⟩);·have hl:0<l.length:=rW.2 h0;(have hlt:b<w.heap.size:=by obtain⟨vn,vk,vv,c1,_⟩:=h 0 hl;exact VG c1);(have hne:I b≠row:=by intro e;rcases hrow with rfl|⟨g,cur,t,fz,rfl,hbg,hgc,ht,ht2⟩;(·cases e);·cases e;rcases hb with hb|⟨cur2,fz2,hb⟩;(·omega);·rw[hb]at hgc;simp only[tB,sB]at hgc;exact ht2 hgc.2.1.symm);(have hrow':row=G∨∃g cur t fz,row=I g∧base<=g∧w.heap[g]?=I (Y cur t fz)∧t≠5:=by rcases hrow with h|⟨g,cur,t,fz,h1,h2,h3,h4,_⟩;(·exact .inl h);·exact .inr ⟨g,cur,t,fz,h1,h2,h3,h4⟩);refine .inr ⟨b,o,rfl,?_,fun i hi=>?_⟩;(·rcases hb with hb|⟨cur,fz,hb⟩;(·exact .inl hb);·exact .inr ⟨cur,fz,by rw[hg.block b hlt hne];exact hb⟩);·obtain⟨vn,vk,vv,c1,c2,c3,c4,h1,h2,h3⟩:=h i hi;exact⟨vn,vk,vv,hg.cell c1 (by simpa using hne),hg.cell c2 (by simpa using hne),hg.cell c3 (by simpa using hne),hg.cell c4 (by simpa using hne),h1.keptT hg hrow',h2.keptT hg hrow',h3.keptT hg hrow'⟩
theorem Xr.grown{base:Nat}{w w':F}{v:H}{l:List Zh}(h:Xr base w v l)(hg:L w w' G):Xr base w' v l:=h.kept hg (.inl rfl)
def Kb(w:F)(v:H)(c:XF):Prop:=∃vs,v=sW #[tA tD c.turn,vs]∧QQ w vs c.writes
theorem Kb.grown{w w':F}{v:H}{c:XF}(h:Kb w v c)(hg:L w w' G):Kb w' v c:=by
 obtain⟨vs,rfl,h⟩:=h;exact⟨vs,rfl,h.grown hg⟩
theorem Kb.agg{w:F}{v:H}{c:XF}(h:Kb w v c):∃a cap,v=sW #[tA tD c.turn,J a c.writes.length cap]:=by
 obtain⟨vs,rfl,h⟩:=h;obtain⟨a,cap,rfl⟩:=h.shape;exact⟨a,cap,rfl⟩
theorem Kb.writes{w:F}{c:XF}{x y:H}(h:Kb w (sW #[x,y]) c):x=tA tD c.turn∧QQ w y c.writes:=by
 obtain⟨vs,e,h⟩:=h;injection e with e;injection e with e;injection e with e1 e;injection e with e2 e;exact⟨e1,e2▸h⟩
structure NW(c:XF):Prop where turn:-9223372036854775808<=c.turn∧c.turn<=9223372036854775807writes:uH c.writes
structure Gc where
  data : List UInt8
  synced : Int
def Gh:Gc:=⟨[],0⟩
def KY(w:F)(v:H)(t:Gc):Prop:=∃vd,v=sW #[vd,tA tD t.synced]∧Qe w vd t.data
theorem KY.grown{w w':F}{v:H}{t:Gc}(h:KY w v t)(hg:L w w' G):KY w' v t:=by
 obtain⟨vd,rfl,h⟩:=h;exact⟨vd,rfl,h.grown hg⟩
theorem KY.agg{w:F}{v:H}{t:Gc}(h:KY w v t):∃a cap,v=sW #[J a t.data.length cap,tA tD t.synced]:=by
 obtain⟨vd,rfl,h⟩:=h;obtain⟨a,cap,rfl⟩:=h.shape;exact⟨a,cap,rfl⟩
theorem KY.data{w:F}{t:Gc}{x y:H}(h:KY w (sW #[x,y]) t):Qe w x t.data∧y=tA tD t.synced:=by
 obtain⟨vd,e,h⟩:=h;injection e with e;injection e with e;injection e with e1 e;injection e with e2 e;exact⟨e1▸h,e2⟩
structure xW(t:Gc):Prop where data:t.data.length<=140737488355328synced:-9223372036854775808<=t.synced∧t.synced<=9223372036854775807
def YE(w:F)(v:H)(t:Gc):Prop:=∃vd,v=sW #[vd,tA tD t.synced]∧Qi 0 w vd t.data
theorem YE.is{w:F}{v:H}{t:Gc}(h:YE w v t):KY w v t:=by
 obtain⟨vd,rfl,h⟩:=h;exact⟨vd,rfl,h.slice⟩
theorem V2(w:F):YE w (sW #[J G 0 0,tA tD 0]) Gh:=⟨_,rfl,QC w,.inl rfl⟩
def GA(t:Gc):Bool:=tU (t.data.length<=200000)&&tU (0<=t.synced∧t.synced<=(t.data.length:Int))
theorem KM(t:Gc):GA t=M↔t.data.length<=200000∧0<=t.synced∧t.synced<=(t.data.length:Int):=by
 unfold GA;rw[rP,decide_eq_true_iff,decide_eq_true_iff]
def TO(c:XF):List UInt8:=if Za c=0then Zj c else[]
def Rz(t:Gc):Int:=if GA t=M then 0 else 6
def Kv(t:Gc):Gc:=if GA t=M then⟨t.data,(t.data.length:Int)⟩else Gh
def Uw(t:Gc)(keep:Int):Int:=if GA t=M then(if keep<0then 2 else 0)else 6
def Xy(t:Gc)(keep:Int):Nat:=if keep<(t.data.length:Int)-t.synced then(t.synced+keep).toNat else t.data.length
def Xu(t:Gc)(keep:Int):Gc:=if Uw t keep=0then⟨t.data.take (Xy t keep),(Xy t keep:Int)⟩else Gh
def VC(D:List UInt8->List UInt8)(t:Gc)(c:XF):Int:=if GA t=M then(if Za c=0then(if 200000<t.data.length+(ZI D c).length then 11 else 0)else Za c)else 6
def zS(D:List UInt8->List UInt8)(t:Gc)(c:XF):Gc:=if VC D t c=0then⟨t.data++ZI D c,t.synced⟩else Gh
def EJ(t:Gc):Int:=if GA t=M then 0 else 6
def yF(D:List UInt8->List UInt8)(t:Gc):List XF:=if GA t=M then(KN D 1 t.data).1 else[]
def z8(D:List UInt8->List UInt8)(t:Gc):Gc:=if GA t=M then⟨t.data.take (DX D t.data),if t.synced>(DX D t.data:Int)then(DX D t.data:Int)else t.synced⟩else Gh
theorem Bs{D:List UInt8->List UInt8}(hD:∀x,(D x).length=4){c:XF}(hc:Za c=0):6<=(ZI D c).length∧(ZI D c).length<=600:=by
 have h1:=PG hD c;have h2:=Vb hc;omega
theorem Aa(D:List UInt8->List UInt8)(cs:List XF)(i:Nat)(h:i<cs.length):Q5 D (cs.take (i+1))=Q5 D (cs.take i)++ZI D (cs.getD i Zm):=by
 rw[rB h,VF,Px,show cs[i]=cs.getD i Zm by simp[h]]
theorem gT{D:List UInt8->List UInt8}{t:Gc}(hm:GA t=M){cs:List XF}{r:List UInt8}{n:Nat}(h:KN D 1 t.data=(cs,r))(hn:DX D t.data=n):EJ t=0∧yF D t=cs∧z8 D t=⟨t.data.take n,if t.synced>(n:Int)then(n:Int)else t.synced⟩:=by
 refine⟨by rw[EJ,if_pos hm],by rw[yF,if_pos hm,h],by rw[z8,if_pos hm,hn]⟩
theorem aE{D:List UInt8->List UInt8}(hD:∀x,(D x).length=4){cs:List XF}(h:qZ 1 cs)(k:Nat)(s:Int)(hk:k<=(Q5 D cs).length)(hs:0<=s∧s<=(k:Int))(hl:(Q5 D cs).length<=200000):∃j,j<=cs.length∧(Q5 D (cs.take j)).length<=k∧(j<cs.length->k<(Q5 D (cs.take (j+1))).length)∧EJ ⟨(Q5 D cs).take k,s⟩=0∧yF D ⟨(Q5 D cs).take k,s⟩=cs.take j∧z8 D ⟨(Q5 D cs).take k,s⟩=⟨Q5 D (cs.take j),if s>((Q5 D (cs.take j)).length:Int)then((Q5 D (cs.take j)).length:Int)else s⟩:=by
 obtain⟨j,h1,h2,h3,h4,h5⟩:=Bo hD h k;have hkl:((Q5 D cs).take k).length=k:=by simp;omega
 have hm:GA ⟨(Q5 D cs).take k,s⟩=M:=(KM _).2 ⟨by show((Q5 D cs).take k).length<=_;omega,by show 0<=s∧s<=(((Q5 D cs).take k).length:Int);omega⟩;have hn:DX D ((Q5 D cs).take k)=(Q5 D (cs.take j)).length:=by rw[DX,h2,hkl];show k-(((Q5 D cs).take k).drop _).length=_;rw[oD,hkl];omega
 obtain⟨a,b,c⟩:=gT hm h2 hn;refine⟨j,h1,h3,h5,a,b,?_⟩;rw[c];have e:((Q5 D cs).take k).take (Q5 D (cs.take j)).length=Q5 D (cs.take j):=by rw[pD,rV h3];(conv=>lhs;rw[<-pC j cs,VF]);rw[show(cs.take j++cs.drop j).take j=cs.take j by rw[pC]];exact List.take_left' rfl
 show(⟨((Q5 D cs).take k).take _,_⟩:Gc)=_;rw[e]
def OL:FL->Nat->List XF->Int|_,_,[]=>0|f,i,c::cs=>if Za c=0then(if c.turn=((i+1:Nat):Int)then(if QZ f c.writes=0then OL (Xx f c.writes) (i+1) cs else QZ f c.writes)else 3)else Za c
def qD:FL->List XF->FL|f,[]=>f|f,c::cs=>qD (Xx f c.writes) cs
theorem vV:∀(a b:List XF)(f:FL),qD f (a++b)=qD (qD f a) b|[],_,_=>rfl|_::a,b,_=>vV a b _
theorem Sr(cs:List XF)(f:FL)(c:XF):qD f (cs++[c])=Xx (qD f cs) c.writes:=by
 rw[vV];rfl
def vI:FL->Nat->List XF->Prop|_,_,[]=>True|f,i,c::cs=>Za c=0∧c.turn=((i+1:Nat):Int)∧QZ f c.writes=0∧vI (Xx f c.writes) (i+1) cs
theorem vI.take:∀{cs:List XF}{f:FL}{i:Nat}(_:vI f i cs)(j:Nat),vI f i (cs.take j)|[],_,_,_,j=>by rw[List.take_nil];trivial|_::_,_,_,_,0=>trivial|_::_,_,_,h,j+1=>⟨h.1,h.2.1,h.2.2.1,vI.take h.2.2.2 j⟩
theorem vI.at:∀{cs:List XF}{f:FL}{i:Nat}(_:vI f i cs)(j:Nat)(_:j<cs.length),Za (cs.getD j Zm)=0∧(cs.getD j Zm).turn=((i+j+1:Nat):Int)∧QZ (qD f (cs.take j)) (cs.getD j Zm).writes=0|[],_,_,_,j,hj=>by simp at hj|c::cs,f,i,h,0,_=>⟨h.1,h.2.1,h.2.2.1⟩|c::cs,f,i,h,j+1,hj=>by have:=vI.at h.2.2.2 j (by simpa using hj);rw[show i+(j+1)+1=i+1+j+1by omega];simpa[qD]using this
theorem FP{l:FL}(h:Xs l)(ws:List Zh):Xs (Xx l ws):=by
 unfold Xx;by_cases h0:QZ l ws=0;·rw[if_pos h0];unfold QZ at h0;rw[if_pos ((Ya l).2 h)]at h0;by_cases h10:10<ws.length;(·rw[if_pos h10]at h0;omega);·rw[if_neg h10]at h0;exact vL ws l h h0
 ·rw[if_neg h0];exact VQ
theorem qT:∀(cs:List XF)(f:FL),Xs f->Xs (qD f cs)|[],_,h=>h|c::cs,_,h=>qT cs _ (FP h c.writes)
def ZK(n t:Int):Bool:=tU (0<=t∧t<=n∧n-t<6)
def Rn(a b:Zh):Prop:=a.name=b.name∧a.key=b.key
def NS(l:List Zh):Prop:=l.Pairwise fun a b=>¬Rn a b
def XJ(a b:Rd):Bool:=a.wide==b.wide&&(tU (a.name=b.name)&&(tU (a.key=b.key)&&tU (a.last=b.last)))
theorem qN(a b:Rd):XJ a b=M↔a=b:=by
 obtain⟨n,k,w,l⟩:=a;obtain⟨n2,k2,w2,l2⟩:=b;simp only[XJ,rP,decide_eq_true_iff,beq_iff_eq,Rd.mk.injEq];exact⟨fun⟨h1,h2,h3,h4⟩=>⟨h2,h3,h1,h4⟩,fun⟨h1,h2,h3,h4⟩=>⟨h3,h1,h2,h4⟩⟩
def ZU(a b:Zh):Bool:=tU (a.name=b.name)&&tU (a.key=b.key)
theorem qY(a b:Zh):ZU a b=M↔Rn a b:=by
 simp only[ZU,rP,decide_eq_true_iff];exact Iff.rfl
def GY:List Rd->List Rd->Int|_,[]=>0|p,r::rs=>if XG r=0then(if p.any (fun q=>XJ q r)=M then 3 else GY (p++[r]) rs)else XG r
def xR:List Zh->List Zh->Int|_,[]=>0|p,w::ws=>if QD w=0then(if p.any (fun q=>ZU q w)=M then 3 else xR (p++[w]) ws)else QD w
theorem Ty:∀(rs p:List Rd),GY p rs=0↔(∀r∈rs,XG r=0)∧(∀r∈rs,r∉p)∧rs.Nodup|[],p=>by simp[GY]|r::rs,p=>by have ih:=Ty rs (p++[r]);rw[GY];by_cases h1:XG r=0;(·rw[if_pos h1];by_cases h2:p.any (fun q=>XJ q r)=M;(·rw[if_pos h2];refine⟨fun h=>by omega,fun h=>?_⟩;obtain⟨q,hq,he⟩:=rF.1 h2;rw[(qN q r).1 he]at hq;exact absurd hq (h.2.1 r (tS ..)));·rw[if_neg h2,ih];have hr:r∉p:=fun hm=>h2 (rF.2 ⟨r,hm,(qN r r).2 rfl⟩);constructor;(·rintro⟨a,b,c⟩;refine⟨fun x hx=>?_,fun x hx=>?_,oG.2 ⟨fun hm=>b r hm (by simp),c⟩⟩;(·rcases tK.1 hx with rfl|hx;(·exact h1);·exact a x hx);·rcases tK.1 hx with rfl|hx;(·exact hr);·exact fun hm=>b x hx (tX.2 (.inl hm)));·rintro⟨a,b,c⟩;have c':=oG.1 c;refine⟨fun x hx=>a x (tR _ hx),fun x hx hm=>?_,c'.2⟩;rcases tX.1 hm with hm|hm;(·exact b x (tR _ hx) hm);·simp only[tK,tM,or_false]at hm;subst hm;exact c'.1 hx);·rw[if_neg h1];exact⟨fun h=>absurd h h1,fun h=>absurd (h.1 r (tS ..)) h1⟩
theorem DD:∀(ws p:List Zh),xR p ws=0↔(∀w∈ws,QD w=0)∧(∀w∈ws,∀q∈p,¬Rn q w)∧NS ws|[],p=>by simp[xR,NS]|w::ws,p=>by have ih:=DD ws (p++[w]);rw[xR];by_cases h1:QD w=0;(·rw[if_pos h1];by_cases h2:p.any (fun q=>ZU q w)=M;(·rw[if_pos h2];refine⟨fun h=>by omega,fun h=>?_⟩;obtain⟨q,hq,he⟩:=rF.1 h2;exact absurd ((qY q w).1 he) (h.2.1 w (tS ..) q hq));·rw[if_neg h2,ih];have hr:∀q∈p,¬Rn q w:=fun q hm e=>h2 (rF.2 ⟨q,hm,(qY q w).2 e⟩);constructor;(·rintro⟨a,b,c⟩;refine⟨fun x hx=>?_,fun x hx q hq=>?_,rD.2 ⟨fun x hx=>b x hx w (by simp),c⟩⟩;(·rcases tK.1 hx with rfl|hx;(·exact h1);·exact a x hx);·rcases tK.1 hx with rfl|hx;(·exact hr q hq);·exact b x hx q (tX.2 (.inl hq)));·rintro⟨a,b,c⟩;have c':=rD.1 c;refine⟨fun x hx=>a x (tR _ hx),fun x hx q hm=>?_,c'.2⟩;rcases tX.1 hm with hm|hm;(·exact b x (tR _ hx) q hm);·simp only[tK,tM,or_false]at hm;subst hm;exact c'.1 x hx);·rw[if_neg h1];exact⟨fun h=>absurd h h1,fun h=>absurd (h.1 w (tS ..)) h1⟩
structure Tx where
  start : Int
  reads : List Rd
  writes : List Zh
def FO:Tx:=⟨0,[],[]⟩
def Gn(t:Tx):Int:=if 0<=t.start∧t.start<=1048576then(if 20<t.reads.length∨10<t.writes.length then 1 else(if GY [] t.reads=0then xR [] t.writes else GY [] t.reads))else 2
structure qJ (t : Tx) : Prop where
  start : 0 <= t.start ∧ t.start <= 1048576
  reads : t.reads.length <= 20
  writes : t.writes.length <= 10
  each : ∀ r ∈ t.reads, XG r = 0
  once : t.reads.Nodup
  wrs : ∀ w ∈ t.writes, QD w = 0
  apart : NS t.writes
theorem kX(t:Tx):Gn t=0↔qJ t:=by
 unfold Gn;by_cases h1:0<=t.start∧t.start<=1048576;·rw[if_pos h1];by_cases h2:20<t.reads.length∨10<t.writes.length;(·rw[if_pos h2];exact⟨fun h=>by omega,fun h=>by have:=h.reads;have:=h.writes;omega⟩);·rw[if_neg h2];by_cases h3:GY [] t.reads=0;(·rw[if_pos h3,DD];have h3':=(Ty _ _).1 h3;exact⟨fun h=>⟨h1,by omega,by omega,h3'.1,h3'.2.2,h.1,h.2.2⟩,fun h=>⟨h.wrs,fun _ _ _ hq=>by simp at hq,h.apart⟩⟩);·rw[if_neg h3];exact⟨fun h=>absurd h h3,fun h=>absurd ((Ty _ _).2 ⟨h.each,fun _ _ hq=>by simp at hq,h.once⟩) h3⟩
 ·rw[if_neg h1];exact⟨fun h=>by omega,fun h=>absurd h.start h1⟩
def EI(t:Tx)(r:Rd):Bool:=t.reads.any (fun q=>XJ q r)
theorem OQ(t:Tx)(r:Rd):EI t r=M↔r∈t.reads:=by
 unfold EI;rw[rF];exact⟨fun⟨q,hq,e⟩=>(qN q r).1 e▸hq,fun h=>⟨r,h,(qN r r).2 rfl⟩⟩
def Xj(t:Tx)(r:Rd):Int:=if Gn t=0then(if XG r=0then(if EI t r=M then 0 else(if t.reads.length=20then 11 else 0))else XG r)else Gn t
def XW(t:Tx)(r:Rd):Tx:=if Xj t r=0then(if EI t r=M then t else⟨t.start,t.reads++[r],t.writes⟩)else FO
theorem fZ{t:Tx}(h:qJ t){r:Rd}(hr:XG r=0):Xj t r=if EI t r=M then 0 else(if t.reads.length=20then 11 else 0):=by
 rw[Xj,if_pos ((kX t).2 h),if_pos hr]
theorem eW{t:Tx}(h:qJ t){r:Rd}(hr:XG r=0)(he:Xj t r=0):qJ (XW t r):=by
 rw[XW,if_pos he];by_cases hh:EI t r=M;·rw[if_pos hh];exact h
 ·rw[if_neg hh];rw[fZ h hr,if_neg hh]at he;have hm:r∉t.reads:=fun e=>hh ((OQ t r).2 e);(have h20:t.reads.length≠20:=fun e=>by rw[if_pos e]at he;omega);refine⟨h.start,?_,h.writes,fun x hx=>?_,?_,h.wrs,h.apart⟩;(·have:=h.reads;simp;omega);(·rcases tX.1 hx with hx|hx;(·exact h.each x hx);·simp only[tK,tM,or_false]at hx;rw[hx];exact hr);·rw[pX];refine⟨h.once,by simp,fun a ha b hb e=>?_⟩;simp only[tK,tM,or_false]at hb;subst hb;subst e;exact hm ha
def FJ(l:List Zh)(w:Zh):Bool:=l.any (fun q=>ZU q w)
def zZ:List Zh->Zh->List Zh|[],w=>[w]|a::l,w=>if ZU a w=M then w::l else a::zZ l w
def Xl(t:Tx)(w:Zh):Int:=if Gn t=0then(if QD w=0then(if FJ t.writes w=M then 0 else(if t.writes.length=10then 11 else 0))else QD w)else Gn t
def Yj(t:Tx)(w:Zh):Tx:=if Xl t w=0then⟨t.start,t.reads,zZ t.writes w⟩else FO
theorem Cb:∀(l:List Zh)(w:Zh),(zZ l w).length=if FJ l w=M then l.length else l.length+1|[],w=>rfl|a::l,w=>by rw[zZ,FJ,pH];by_cases h:ZU a w=M;(·rw[if_pos h,h];rfl);·rw[if_neg h,sD,Cb l w];(have hf:ZU a w=N:=by simpa using h);rw[hf,pR];show _=if FJ l w=M then _ else _;by_cases h2:FJ l w=M;(·rw[if_pos h2,if_pos h2];rfl);·rw[if_neg h2,if_neg h2];rfl
theorem TU:∀(l:List Zh)(w x:Zh),x∈zZ l w->x=w∨x∈l|[],w,x,h=>by simpa[zZ]using h|a::l,w,x,h=>by rw[zZ]at h;by_cases h1:ZU a w=M;(·rw[if_pos h1]at h;rcases tK.1 h with h|h;(·exact .inl h);·exact .inr (tR _ h));·rw[if_neg h1]at h;rcases tK.1 h with h|h;(·exact .inr (by rw[h];exact tS ..));·exact(TU l w x h).elim .inl fun h=>.inr (tR _ h)
theorem Cd{a b c:Zh}(h:Rn a b)(k:Rn b c):Rn a c:=⟨h.1.trans k.1,h.2.trans k.2⟩
theorem Tt:∀(l:List Zh)(w:Zh),NS l->NS (zZ l w)|[],w,_=>List.pairwise_singleton ..|a::l,w,h=>by have h':=rD.1 h;rw[zZ];by_cases h1:ZU a w=M;(·rw[if_pos h1];exact rD.2 ⟨fun x hx e=>h'.1 x hx (Cd ((qY a w).1 h1) e),h'.2⟩);·rw[if_neg h1];refine rD.2 ⟨fun x hx e=>?_,Tt l w h'.2⟩;rcases TU l w x hx with rfl|hx;(·exact h1 ((qY _ _).2 e));·exact h'.1 x hx e
theorem O9{t:Tx}(h:qJ t){w:Zh}(hw:QD w=0):Xl t w=if FJ t.writes w=M then 0 else(if t.writes.length=10then 11 else 0):=by
 rw[Xl,if_pos ((kX t).2 h),if_pos hw]
theorem cT{t:Tx}(h:qJ t){w:Zh}(hw:QD w=0)(he:Xl t w=0):qJ (Yj t w):=by
 rw[Yj,if_pos he];rw[O9 h hw]at he;refine⟨h.start,h.reads,?_,h.each,h.once,fun x hx=>?_,Tt _ _ h.apart⟩;·show(zZ t.writes w).length<=10;rw[Cb];have:=h.writes;by_cases hh:FJ t.writes w=M;(·rw[if_pos hh];exact this);·rw[if_neg hh]at he⊢;(have h10:t.writes.length≠10:=fun e=>by rw[if_pos e]at he;omega);omega
 ·rcases TU _ _ _ hx with rfl|hx;(·exact hw);·exact h.wrs x hx
def iZ(l:List Zh)(n k:List UInt8):Option Zh:=l.find? fun q=>tU (q.name=n)&&tU (q.key=k)
theorem OP{l:List Zh}{n k:List UInt8}{w:Zh}(h:iZ l n k=I w):w∈l∧w.name=n∧w.key=k:=by
 refine⟨List.mem_of_find?_eq_some h,?_⟩;have:=List.find?_some h;simpa using this
def lM(a b k:List UInt8):Bool:=!YM k a&&!YM b k
def K6(n a b:List UInt8)(l:PL)(w:Zh):PL:=if w.name=n∧lM a b w.key=M then(if w.gone=M then kE l w.key else Kj l (w.key,w.value))else l
def SS(n a b:List UInt8):PL->List Zh->PL|l,[]=>l|l,w::ws=>SS n a b (K6 n a b l w) ws
def kV(n a b:List UInt8):PL->List Zh->Int|_,[]=>0|l,w::ws=>if 60<(K6 n a b l w).length then 11 else kV n a b (K6 n a b l w) ws
def XX(r:Rd)(w:Zh):Bool:=tU (r.name=w.name)&&(if r.wide=M then lM r.key r.last w.key else tU (r.key=w.key))
def l9(t:Tx)(ws:List Zh):Bool:=ws.any fun w=>t.reads.any fun r=>XX r w
def aH(t:Tx)(l:List XF):Bool:=l.any fun c=>tU (t.start<c.turn)&&l9 t c.writes
def TH(t:Tx):Int:=Gn t
def UO(t:Tx)(l:List XF):Bool:=if Gn t=0then aH t l else N
def zV(l:FL)(t:Tx):Int:=if Q8 l=0then Gn t else Q8 l
def KD(l:FL)(t:Tx)(n k:List UInt8):Int:=if zV l t=0then(if Qt n.length=0then Qq k.length else Qt n.length)else zV l t
def VR(l:FL)(t:Tx)(n k:List UInt8):Bool:=if KD l t n k=0then(iZ t.writes n k).isSome else N
def Vk(l:FL)(t:Tx)(n k:List UInt8):Bool:=if KD l t n k=0then(match iZ t.writes n k with|I w=>!w.gone|none=>Vg l n k)else N
def U6(l:FL)(t:Tx)(n k:List UInt8):List UInt8:=if KD l t n k=0then(match iZ t.writes n k with|I w=>w.value|none=>Vj l n k)else[]
theorem Lo{l:FL}{t:Tx}(hl:Xs l)(ht:qJ t){n k:List UInt8}(hn:1<=n.length∧n.length<=8)(hk:1<=k.length∧k.length<=16):KD l t n k=0:=by
 rw[KD,zV,if_pos ((Ya l).2 hl),if_pos ((kX t).2 ht),if_pos ((ZA _).2 hn),(Zw _).2 hk]
def KH(l:FL)(t:Tx)(n a b:List UInt8):Int:=if zV l t=0then(if Qt n.length=0then(if Qq a.length=0then(if Qq b.length=0then kV n a b (Vm (Jm l n) a b) t.writes else Qq b.length)else Qq a.length)else Qt n.length)else zV l t
def V3(l:FL)(t:Tx)(n a b:List UInt8):PL:=if KH l t n a b=0then SS n a b (Vm (Jm l n) a b) t.writes else[]
structure Rp where
  sess : Int
  code : Int
  turn : Int
  found : Bool
  value : List UInt8
  pairs : PL
  pf : Option (FL × List UInt8 × List UInt8)
def Ga(s:Nat)(e:Int):Rp:=⟨(s:Int),e,0,N,[],[],G⟩
def aS(s:Nat)(t:Int):Rp:=⟨(s:Int),0,t,N,[],[],G⟩
structure Sv where
  up : Bool
  tape : Gc
  commits : List XF
  synced : Nat
  begun : Nat -> Bool
  waits : Nat -> Bool
  txns : Nat -> Tx
  queue : List Nat
  out : List Rp
def UC{α:Type}(f:Nat->α)(i:Nat)(x:α):Nat->α:=fun j=>if j=i then x else f j
theorem ZM{α:Type}(f:Nat->α)(i:Nat)(x:α):UC f i x i=x:=by
 simp[UC]
theorem Zl{α:Type}(f:Nat->α){i j:Nat}(x:α)(h:j≠i):UC f i x j=f j:=by
 simp[UC,h]
def Ge(up:Bool)(t:Gc)(cs:List XF)(o:List Rp):Sv:=⟨up,t,cs,cs.length,fun _=>N,fun _=>N,fun _=>FO,[],o⟩
def WI:Sv:=Ge M Gh [] []
def ZN(v:Sv)(r:Rp):Sv:={v with out:=v.out++[r]}
def QE(v:Sv)(n:Nat):FL:=qD [] (v.commits.take n)
def UF(v:Sv)(s:Nat)(x:Rd)(o:Rp):Sv:=if Xj (v.txns s) x=0then ZN {v with txns:=UC v.txns s (XW (v.txns s) x)} o else ZN v (Ga s (Xj (v.txns s) x))
def V6(v:Sv)(s:Nat)(w:Zh):Sv:=ZN (if Xl (v.txns s) w=0then{v with txns:=UC v.txns s (Yj (v.txns s) w)}else v) (Ga s (Xl (v.txns s) w))
def Mr(v:Sv)(s:Nat)(r:Rq):Sv:=if VR (QE v (v.txns s).start.toNat) (v.txns s) r.name r.key=M then ZN v ⟨(s:Int),0,(v.txns s).start,Vk (QE v (v.txns s).start.toNat) (v.txns s) r.name r.key,U6 (QE v (v.txns s).start.toNat) (v.txns s) r.name r.key,[],G⟩else UF v s (Zu r) ⟨(s:Int),0,(v.txns s).start,Vk (QE v (v.txns s).start.toNat) (v.txns s) r.name r.key,U6 (QE v (v.txns s).start.toNat) (v.txns s) r.name r.key,[],G⟩
def vP(v:Sv)(s:Nat)(r:Rq):Sv:=if KH (QE v (v.txns s).start.toNat) (v.txns s) r.name r.key r.last=0then UF v s (Zu r) ⟨(s:Int),0,(v.txns s).start,N,[],V3 (QE v (v.txns s).start.toNat) (v.txns s) r.name r.key r.last,G⟩else ZN v (Ga s (KH (QE v (v.txns s).start.toNat) (v.txns s) r.name r.key r.last))
def jQ(v:Sv)(s:Nat)(r:Rq):Sv:=if r.kind=4∨r.kind=5then V6 v s (Xm r)else if r.kind=2then Mr v s r else vP v s r
def Js(v:Sv)(s:Nat):XF:=⟨((v.commits.length+1:Nat):Int),(v.txns s).writes⟩
def XN(v:Sv)(s:Nat):Sv:={v with begun:=UC v.begun s N}
def JR(D:List UInt8->List UInt8)(v:Sv)(s:Nat):Sv:=if(v.txns s).writes.length=0then ZN (XN v s) (aS s (v.txns s).start)else if v.queue.length=6∨v.commits.length=300then ZN v (Ga s 11)else if UO (v.txns s) v.commits=M then ZN (XN v s) (Ga s 9)else if QZ (QE v v.commits.length) (v.txns s).writes≠0then ZN (XN v s) (Ga s (QZ (QE v v.commits.length) (v.txns s).writes))else if VC D v.tape (Js v s)≠0then ZN (XN v s) (Ga s (VC D v.tape (Js v s)))else{XN v s with tape:=zS D v.tape (Js v s),commits:=v.commits++[Js v s],queue:=v.queue++[s],waits:=UC v.waits s M}
def Nz(v:Sv)(s:Nat)(r:Rq):Sv:=ZN v ⟨(s:Int),0,(v.synced:Int),Vg (QE v v.synced) r.name r.key,Vj (QE v v.synced) r.name r.key,[],I (QE v v.synced,r.name,r.key)⟩
def QI(v:Sv)(s:Nat)(r:Rq):Bool:=v.waits s||(if r.kind=1then v.begun s else !v.begun s)
def Jg(D:List UInt8->List UInt8)(v:Sv)(s:Nat)(r:Rq):Sv:=if r.kind=8then Nz v s r else if QI v s r=M then ZN v (Ga s 6)else if r.kind=1then ZN {v with begun:=UC v.begun s M,txns:=UC v.txns s ⟨(v.synced:Int),[],[]⟩} (aS s (v.synced:Int))else if r.kind=7then ZN (XN v s) (Ga s 0)else if ZK (v.synced:Int) (v.txns s).start=N then ZN (XN v s) (Ga s 10)else if r.kind=6then JR D v s else jQ v s r
def Xa(D:List UInt8->List UInt8)(v:Sv)(s:Nat)(data:List UInt8):Sv:=if v.up=N then ZN v (Ga s 13)else if QJ data=0then Jg D v s (Qu data)else ZN v (Ga s (QJ data))
def JU:Nat->List Nat->List Rp|_,[]=>[]|n,s::q=>aS s ((n+1:Nat):Int)::JU (n+1) q
def UK(f:Nat->Bool)(q:List Nat):Nat->Bool:=fun j=>if j∈q then N else f j
def Vp(v:Sv):Sv:={v with tape:=Kv v.tape,synced:=v.synced+v.queue.length,waits:=UK v.waits v.queue,queue:=[],out:=v.out++JU v.synced v.queue}
def K3(D:List UInt8->List UInt8)(v:Sv)(k:Int):Sv:=Ge N (z8 D (Xu v.tape k)) (yF D (Xu v.tape k)) v.out
def Q7(D:List UInt8->List UInt8)(v:Sv)(a:Ac):Sv:=if a.kind=1then Xa D v a.sess.toNat a.data else if a.kind=2then(if v.up=M then Vp v else v)else if a.kind=3then(if v.up=M then K3 D v a.keep else v)else{v with up:=M}
def Z7(D:List UInt8->List UInt8)(l:List Ac):Sv:=l.foldl (Q7 D) WI
theorem Pm(D:List UInt8->List UInt8)(l:List Ac)(a:Ac):Z7 D (l++[a])=Q7 D (Z7 D l) a:=by
 simp[Z7]
theorem Fj(D:List UInt8->List UInt8)(l k:List Ac):Z7 D (l++k)=k.foldl (Q7 D) (Z7 D l):=by
 simp[Z7]
def G9(l:List Ac):Int:=Gl l
structure Oc where
  up : Bool
  turn : Int
  pending : Int
  forest : FL
  replies : List Rp
def K2(v:Sv):Oc:=⟨v.up,(v.synced:Int),(v.queue.length:Int),QE v v.synced,v.out⟩
def Il:Oc:=⟨N,0,0,[],[]⟩
def xP(D:List UInt8->List UInt8)(l:List Ac):Oc:=if G9 l=0then K2 (Z7 D l)else Il
section
theorem Nj:∀{cs:List XF}{f:FL}{i:Nat},vI f i cs->qZ (i+1) cs|[],_,_,_=>trivial|_::_,_,_,h=>⟨by rw[h.2.1],h.1,Nj h.2.2.2⟩
theorem NK:∀{cs:List XF}{f:FL}{i:Nat}{c:XF},vI f i cs->Za c=0->c.turn=((i+cs.length+1:Nat):Int)->QZ (qD f cs) c.writes=0->vI f i (cs++[c])|[],_,_,_,_,h1,h2,h3=>⟨h1,by rw[h2];rfl,h3,trivial⟩|d::cs,f,i,c,h,h1,h2,h3=>⟨h.1,h.2.1,h.2.2.1,NK h.2.2.2 h1 (by rw[h2,sD];congr 1;omega) h3⟩
structure Zc (D : List UInt8 -> List UInt8) (v : Sv) : Prop where
  goes : vI [] 0 v.commits
  many : v.commits.length <= 300
  data : v.tape.data = Q5 D v.commits
  mark : v.tape.synced = ((Q5 D (v.commits.take v.synced)).length : Int)
  room : v.tape.data.length <= 200000
  turn : v.synced + v.queue.length = v.commits.length
  few : v.queue.length <= 6
  wait : ∀ s, v.waits s = M ↔ s ∈ v.queue
  once : v.queue.Nodup
  tx : ∀ s, v.begun s = M -> qJ (v.txns s) ∧ (v.txns s).start <= (v.synced : Int)
  idle : ∀ s, v.waits s = M -> v.begun s = N
  down : v.up = N -> v.queue = [] ∧ ∀ s, v.begun s = N
variable{D:List UInt8->List UInt8}{v:Sv}
theorem Zc.tell(h:Zc D v)(r:Rp):Zc D (ZN v r):=⟨h.goes,h.many,h.data,h.mark,h.room,h.turn,h.few,h.wait,h.once,h.tx,h.idle,h.down⟩
theorem Nc{f:Nat->Bool}{s j:Nat}(h:UC f s N j=M):j≠s∧f j=M:=by
 by_cases e:j=s;·rw[e,ZM]at h;cases h
 ·exact⟨e,by rwa[Zl f _ e]at h⟩
theorem Zc.end(h:Zc D v)(s:Nat):Zc D (XN v s):=by
 refine⟨h.goes,h.many,h.data,h.mark,h.room,h.turn,h.few,h.wait,h.once,fun j hj=>h.tx j (Nc hj).2,fun j hj=>?_,fun hu=>⟨(h.down hu).1,fun j=>?_⟩⟩;·show UC v.begun s N j=N;by_cases e:j=s;(·rw[e,ZM]);·rw[Zl _ _ e];exact h.idle j hj
 ·show UC v.begun s N j=N;by_cases e:j=s;(·rw[e,ZM]);·rw[Zl _ _ e];exact(h.down hu).2 j
theorem Zc.txn(h:Zc D v){s:Nat}{t:Tx}(ht:qJ t)(hs:t.start<=(v.synced:Int)):Zc D {v with txns:=UC v.txns s t}:=by
 refine⟨h.goes,h.many,h.data,h.mark,h.room,h.turn,h.few,h.wait,h.once,fun j hj=>?_,h.idle,h.down⟩;show qJ (UC v.txns s t j)∧(UC v.txns s t j).start<=_;by_cases e:j=s;·rw[e,ZM];exact⟨ht,hs⟩
 ·rw[Zl _ _ e];exact h.tx j hj
theorem Zc.may(h:Zc D v):GA v.tape=M:=by
 refine(KM _).2 ⟨h.room,?_⟩;rw[h.mark,h.data];have:=U4 D v.commits v.synced v.commits.length (by have:=h.turn;omega);rw[sI]at this;omega
theorem zB{t:Tx}{r:Rd}(h:Xj t r=0):(XW t r).start=t.start:=by
 rw[XW,if_pos h];split<;>rfl
theorem CO{t:Tx}{w:Zh}(h:Xl t w=0):(Yj t w).start=t.start:=by
 rw[Yj,if_pos h]
theorem Zc.note(h:Zc D v){s:Nat}(hb:v.begun s=M){x:Rd}(hx:XG x=0)(o:Rp):Zc D (UF v s x o):=by
 obtain⟨h1,h2⟩:=h.tx s hb;unfold UF;by_cases e:Xj (v.txns s) x=0;·rw[if_pos e];exact(h.txn (eW h1 hx e) (by rw[zB e];exact h2)).tell _
 ·rw[if_neg e];exact h.tell _
theorem Zc.write(h:Zc D v){s:Nat}(hb:v.begun s=M){w:Zh}(hw:QD w=0):Zc D (V6 v s w):=by
 obtain⟨h1,h2⟩:=h.tx s hb;unfold V6;by_cases e:Xl (v.txns s) w=0;·rw[if_pos e];exact(h.txn (cT h1 hw e) (by rw[CO e];exact h2)).tell _
 ·rw[if_neg e];exact h.tell _
theorem uB{r:Rq}(h:Yc r)(hk:r.kind=2∨r.kind=3):XG (Zu r)=0:=bG (by
 rw[(Ni h).1,if_pos hk])
theorem Wm{r:Rq}(h:Yc r)(hk:r.kind=4∨r.kind=5):QD (Xm r)=0:=Pk (by
 rw[(Ni h).2,if_pos hk])
theorem Zc.work(h:Zc D v){s:Nat}(hb:v.begun s=M){r:Rq}(hr:Yc r)(hk:2<=r.kind∧r.kind<=5):Zc D (jQ v s r):=by
 unfold jQ;by_cases h1:r.kind=4∨r.kind=5;·rw[if_pos h1];exact h.write hb (Wm hr h1)
 ·rw[if_neg h1];by_cases h2:r.kind=2;(·rw[if_pos h2];unfold Mr;split;(·exact h.tell _);·exact h.note hb (uB hr (.inl h2)) _);·rw[if_neg h2];unfold vP;split;(·exact h.note hb (uB hr (.inr (by omega))) _);·exact h.tell _
theorem Cz{t:Tx}(ht:qJ t)(hw:¬t.writes.length=0)(n:Nat)(hn:n<=300):Za ⟨((n+1:Nat):Int),t.writes⟩=0:=(KW _).2 ⟨by
 show(1:Int)<=((n+1:Nat):Int)∧((n+1:Nat):Int)<=1048576;omega,⟨by
 show 1<=t.writes.length;omega,ht.writes⟩,ht.wrs⟩
theorem Bm(h:Zc D v){s:Nat}(hb:v.begun s=M)(h1:¬(v.txns s).writes.length=0)(h2:¬(v.queue.length=6∨v.commits.length=300))(h4:QZ (QE v v.commits.length) (v.txns s).writes=0)(h5:VC D v.tape (Js v s)=0):Zc D {XN v s with tape:=zS D v.tape (Js v s),commits:=v.commits++[Js v s],queue:=v.queue++[s],waits:=UC v.waits s M}:=by
 obtain⟨ht,hst⟩:=h.tx s hb;have hm:=h.many;have hc:Za (Js v s)=0:=Cz ht h1 _ hm;have hmay:=h.may;have hroom:v.tape.data.length+(ZI D (Js v s)).length<=200000:=by rw[VC,if_pos hmay,if_pos hc]at h5;by_cases e:200000<v.tape.data.length+(ZI D (Js v s)).length;(·rw[if_pos e]at h5;exact absurd h5 (by decide));·omega
 have hT:zS D v.tape (Js v s)=⟨v.tape.data++ZI D (Js v s),v.tape.synced⟩:=by rw[zS,if_pos h5]
 have hnw:v.waits s≠M:=fun e=>by have:=h.idle s e;rw[hb]at this;cases this
 have hnq:s∉v.queue:=fun e=>hnw ((h.wait s).2 e);have hup:v.up=M:=by cases hu:v.up with|true=>rfl|false=>have:=(h.down hu).2 s;rw[hb]at this;cases this
 have htn:=h.turn;rw[hT];refine⟨?_,?_,?_,?_,?_,?_,?_,?_,?_,?_,?_,?_⟩;·refine NK h.goes hc (by show((v.commits.length+1:Nat):Int)=_;congr 1;omega) ?_;rw[QE,sI]at h4;exact h4
 ·show(v.commits++[Js v s]).length<=300;rw[tC,sE];omega
 ·show v.tape.data++ZI D (Js v s)=Q5 D (v.commits++[Js v s]);rw[VF,Px,h.data]
 ·show v.tape.synced=((Q5 D ((v.commits++[Js v s]).take v.synced)).length:Int);rw[List.take_append_of_le_length (by omega)];exact h.mark
 ·show(v.tape.data++ZI D (Js v s)).length<=200000;rw[tC];exact hroom
 ·show v.synced+(v.queue++[s]).length=(v.commits++[Js v s]).length;rw[tC,tC,sE,sE];omega
 ·show(v.queue++[s]).length<=6;have:=h.few;rw[tC,sE];omega
 ·intro j;show UC v.waits s M j=M↔j∈v.queue++[s];by_cases e:j=s;(·rw[e,ZM];simp);·rw[Zl _ _ e,h.wait j];simp[e]
 ·show(v.queue++[s]).Nodup;rw[pX];exact⟨h.once,by simp,fun a ha b hb e=>hnq (by simp at hb;rw[<-hb,<-e];exact ha)⟩
 ·intro j hj;exact h.tx j (Nc hj).2
 ·intro j hj;show UC v.begun s N j=N;by_cases e:j=s;(·rw[e,ZM]);·rw[Zl _ _ e];exact h.idle j (by have:UC v.waits s M j=M:=hj;rwa[Zl _ _ e]at this)
 ·intro hu;have:v.up=N:=hu;rw[hup]at this;cases this
theorem Zc.commit(h:Zc D v){s:Nat}(hb:v.begun s=M):Zc D (JR D v s):=by
 unfold JR;by_cases h1:(v.txns s).writes.length=0;·rw[if_pos h1];exact(h.end s).tell _
 ·rw[if_neg h1];by_cases h2:v.queue.length=6∨v.commits.length=300;(·rw[if_pos h2];exact h.tell _);·rw[if_neg h2];by_cases h3:UO (v.txns s) v.commits=M;(·rw[if_pos h3];exact(h.end s).tell _);·rw[if_neg h3];by_cases h4:QZ (QE v v.commits.length) (v.txns s).writes≠0;(·rw[if_pos h4];exact(h.end s).tell _);·rw[if_neg h4];by_cases h5:VC D v.tape (Js v s)≠0;(·rw[if_pos h5];exact(h.end s).tell _);·rw[if_neg h5];exact Bm h hb h1 h2 (sX h4) (sX h5)
theorem Zc.req(h:Zc D v)(hup:v.up=M)(s:Nat){r:Rq}(hr:Yc r):Zc D (Jg D v s r):=by
 unfold Jg;by_cases h1:r.kind=8;·rw[if_pos h1];exact h.tell _
 ·rw[if_neg h1];by_cases h2:QI v s r=M;(·rw[if_pos h2];exact h.tell _);·rw[if_neg h2];(have h2':v.waits s=N∧(if r.kind=1then v.begun s else !v.begun s)=N:=by unfold QI at h2;cases hw:v.waits s;(·rw[hw]at h2;exact⟨rfl,by simpa using h2⟩);·rw[hw]at h2;exact absurd rfl h2);by_cases h3:r.kind=1;(·rw[if_pos h3];refine Zc.tell ?_ _;have hm:=h.many;have htn:=h.turn;refine⟨h.goes,h.many,h.data,h.mark,h.room,h.turn,h.few,h.wait,h.once,fun j hj=>?_,fun j hj=>?_,fun hu=>?_⟩;(·show qJ (UC v.txns s _ j)∧(UC v.txns s _ j).start<=_;by_cases e:j=s;(·rw[e,ZM];exact⟨⟨by show(0:Int)<=(v.synced:Int)∧(v.synced:Int)<=1048576;omega,by simp,by simp,by simp,by simp,by simp,by simp[NS]⟩,Int.le_refl _⟩);·rw[Zl _ _ e];exact h.tx j (by have:UC v.begun s M j=M:=hj;rwa[Zl _ _ e]at this));(·show UC v.begun s M j=N;have hj':v.waits j=M:=hj;by_cases e:j=s;(·rw[e,h2'.1]at hj';cases hj');·rw[Zl _ _ e];exact h.idle j hj');·have:v.up=N:=hu;rw[hup]at this;cases this);·rw[if_neg h3];(have hb:v.begun s=M:=by have:=h2'.2;rw[if_neg h3]at this;simpa using this);by_cases h4:r.kind=7;(·rw[if_pos h4];exact(h.end s).tell _);·rw[if_neg h4];by_cases h5:ZK (v.synced:Int) (v.txns s).start=N;(·rw[if_pos h5];exact(h.end s).tell _);·rw[if_neg h5];by_cases h6:r.kind=6;(·rw[if_pos h6];exact h.commit hb);·rw[if_neg h6];have hk:=hr.kind;exact h.work hb hr (by omega)
theorem Zc.ask(h:Zc D v)(s:Nat)(d:List UInt8):Zc D (Xa D v s d):=by
 unfold Xa;by_cases h1:v.up=N;·rw[if_pos h1];exact h.tell _
 ·rw[if_neg h1];by_cases h2:QJ d=0;(·rw[if_pos h2];exact h.req (by simpa using h1) s ((Yk _).1 (Yv h2).1));·rw[if_neg h2];exact h.tell _
theorem Zc.sync(h:Zc D v):Zc D (Vp v):=by
 have hm:=h.may;have htn:=h.turn;refine⟨h.goes,h.many,?_,?_,?_,?_,by simp[Vp],?_,by simp[Vp],?_,?_,?_⟩;·show(Kv v.tape).data=_;rw[Kv,if_pos hm];exact h.data
 ·show(Kv v.tape).synced=((Q5 D (v.commits.take (v.synced+v.queue.length))).length:Int);rw[Kv,if_pos hm,htn,sI,<-h.data]
 ·show(Kv v.tape).data.length<=_;rw[Kv,if_pos hm];exact h.room
 ·show v.synced+v.queue.length+([]:List Nat).length=v.commits.length;simpa using htn
 ·intro j;show UK v.waits v.queue j=M↔j∈([]:List Nat);rw[UK];constructor;(·intro e;split at e;(·cases e);·rename_i hq;exact absurd ((h.wait j).1 e) hq);·intro e;simp at e
 ·intro j hj;obtain⟨h1,h2⟩:=h.tx j hj;exact⟨h1,by show _<=((v.synced+v.queue.length:Nat):Int);have:(v.txns j).start<=(v.synced:Int):=h2;show(v.txns j).start<=_;omega⟩
 ·intro j hj;have:UK v.waits v.queue j=M:=hj;rw[UK]at this;split at this;(·cases this);·exact h.idle j this
 ·intro hu;exact⟨rfl,(h.down hu).2⟩
theorem L5{up:Bool}{t:Gc}{cs:List XF}{o:List Rp}(hg:vI [] 0 cs)(hm:cs.length<=300)(hd:t=⟨Q5 D cs,((Q5 D cs).length:Int)⟩)(hr:(Q5 D cs).length<=200000):Zc D (Ge up t cs o):=by
 subst hd;refine⟨hg,hm,rfl,?_,hr,rfl,by simp[Ge],fun s=>by simp[Ge],by simp[Ge],fun s hs=>by simp[Ge]at hs,fun s hs=>by simp[Ge]at hs,fun _=>⟨rfl,fun _=>rfl⟩⟩;show((Q5 D cs).length:Int)=((Q5 D (cs.take cs.length)).length:Int);rw[sI]
theorem At(D:List UInt8->List UInt8):Zc D WI:=L5 trivial (by
 simp) rfl (by
 simp[Q5])
theorem Ut(hD:∀x,(D x).length=4)(h:Zc D v){k:Int}(hk:0<=k):∃j,v.synced<=j∧j<=v.commits.length∧K3 D v k=Ge N ⟨Q5 D (v.commits.take j),((Q5 D (v.commits.take j)).length:Int)⟩ (v.commits.take j) v.out∧(k=0->j=v.synced):=by
 have hm:=h.may;obtain⟨m1,m2,m3⟩:=(KM _).1 hm;have hit:qZ 1 v.commits:=Nj h.goes;have htn:=h.turn;have hce:Uw v.tape k=0:=by rw[Uw,if_pos hm,if_neg (by omega)]
 have hcn:Xy v.tape k<=v.tape.data.length∧v.tape.synced<=(Xy v.tape k:Int):=by rw[Xy];split<;>omega
 have hcT:Xu v.tape k=⟨(Q5 D v.commits).take (Xy v.tape k),(Xy v.tape k:Int)⟩:=by rw[Xu,if_pos hce,h.data]
 have hrl:(Q5 D v.commits).length<=200000:=by rw[<-h.data];exact h.room
 obtain⟨j,h1,h2,h3,_,h5,h6⟩:=aE hD hit (Xy v.tape k) (Xy v.tape k:Int) (by rw[<-h.data];exact hcn.1) (by omega) hrl;have hsj:v.synced<=j:=by refine RU (D:=D) (cs:=v.commits) (k:=Xy v.tape k) (by omega) h3 ?_;have:=h.mark;omega
 have e:(if(Xy v.tape k:Int)>((Q5 D (v.commits.take j)).length:Int)then((Q5 D (v.commits.take j)).length:Int)else(Xy v.tape k:Int))=((Q5 D (v.commits.take j)).length:Int):=by split<;>omega
 refine⟨j,hsj,h1,?_,?_⟩;·rw[K3,hcT,h5,h6,e]
 ·intro hk0;by_cases hj:j=v.synced;(·exact hj);·exfalso;(have hn:(Xy v.tape k:Int)=v.tape.synced:=by rw[Xy,hk0];split<;>omega);have g1:=U4 D v.commits (v.synced+1) j (by omega);have g2:=Aa D v.commits v.synced (by omega);have hc:=(h.goes.at v.synced (by omega)).1;have g3:=(Bs hD hc).1;have hmk:=h.mark;rw[g2,tC]at g1;omega
theorem Zc.crash(hD:∀x,(D x).length=4)(h:Zc D v){k:Int}(hk:0<=k):Zc D (K3 D v k):=by
 obtain⟨j,h1,h2,h3,_⟩:=Ut hD h hk;have hm:=h.many;have hle:=U4 D v.commits j v.commits.length h2;rw[sI,<-h.data]at hle;have hr:=h.room;rw[h3];exact L5 (h.goes.take j) (by rw[rG];omega) rfl (by omega)
theorem Zc.start(h:Zc D v):Zc D {v with up:=M}:=⟨h.goes,h.many,h.data,h.mark,h.room,h.turn,h.few,h.wait,h.once,h.tx,h.idle,fun hu=>by
 cases hu⟩
theorem Zc.act(hD:∀x,(D x).length=4)(h:Zc D v){a:Ac}(ha:Xn a):Zc D (Q7 D v a):=by
 unfold Q7;by_cases h1:a.kind=1;·rw[if_pos h1];exact h.ask _ _
 ·rw[if_neg h1];by_cases h2:a.kind=2;(·rw[if_pos h2];split;(·exact h.sync);·exact h);·rw[if_neg h2];by_cases h3:a.kind=3;(·rw[if_pos h3];split;(·exact h.crash hD (ha.keep h3).1);·exact h);·rw[if_neg h3];exact h.start
theorem Na(hD:∀x,(D x).length=4):∀(l:List Ac)(v:Sv),Zc D v->(∀a∈l,Xn a)->Zc D (l.foldl (Q7 D) v)|[],_,h,_=>h|a::l,v,h,ha=>Na hD l _ (h.act hD (ha a (by simp))) (fun x hx=>ha x (by simp[hx]))
theorem uW(hD:∀x,(D x).length=4)(l:List Ac)(h:∀a∈l,Xn a):Zc D (Z7 D l):=Na hD l WI (At D) h
end
structure Same (v u : Sv) : Prop where
  up : u.up = v.up
  tape : u.tape = v.tape
  commits : u.commits = v.commits
  synced : u.synced = v.synced
  waits : u.waits = v.waits
  queue : u.queue = v.queue
theorem Same.rfl{v:Sv}:Same v v:=⟨by
 rfl,by
 rfl,by
 rfl,by
 rfl,by
 rfl,by
 rfl⟩
theorem Same.trans{v u w:Sv}(h:Same v u)(k:Same u w):Same v w:=⟨k.up.trans h.up,k.tape.trans h.tape,k.commits.trans h.commits,k.synced.trans h.synced,k.waits.trans h.waits,k.queue.trans h.queue⟩
structure dD (s : Nat) (v u : Sv) : Prop extends Same v u where
  out : ∃ r, u.out = v.out ++ [r] ∧ r.sess = (s : Int)
  begun : ∀ j, j ≠ s -> u.begun j = v.begun j
  txns : ∀ j, j ≠ s -> u.txns j = v.txns j
theorem Ul(v:Sv)(s:Nat)(r:Rp)(h:r.sess=(s:Int)):dD s v (ZN v r):=⟨⟨rfl,rfl,rfl,rfl,rfl,rfl⟩,⟨r,rfl,h⟩,fun _ _=>rfl,fun _ _=>rfl⟩
theorem yO(v:Sv)(s:Nat)(r:Rp)(h:r.sess=(s:Int)):dD s v (ZN (XN v s) r):=⟨⟨rfl,rfl,rfl,rfl,rfl,rfl⟩,⟨r,rfl,h⟩,fun _ hj=>Zl _ _ hj,fun _ _=>rfl⟩
theorem LS(v:Sv)(s:Nat)(t:Tx)(r:Rp)(h:r.sess=(s:Int)):dD s v (ZN {v with txns:=UC v.txns s t} r):=⟨⟨rfl,rfl,rfl,rfl,rfl,rfl⟩,⟨r,rfl,h⟩,fun _ _=>rfl,fun _ hj=>Zl _ _ hj⟩
theorem DY(v:Sv)(s:Nat)(x:Rd)(o:Rp)(h:o.sess=(s:Int)):dD s v (UF v s x o):=by
 unfold UF;split;·exact LS v s _ _ h
 ·exact Ul v s _ rfl
theorem Ic(v:Sv)(s:Nat)(w:Zh):dD s v (V6 v s w):=by
 unfold V6;split;·exact LS v s _ _ rfl
 ·exact Ul v s _ rfl
theorem Ov(v:Sv)(s:Nat)(r:Rq):dD s v (jQ v s r):=by
 unfold jQ;split;·exact Ic v s _
 ·split;(·unfold Mr;split;(·exact Ul v s _ rfl);·exact DY v s _ _ rfl);·unfold vP;split;(·exact DY v s _ _ rfl);·exact Ul v s _ rfl
structure OZ (D : List UInt8 -> List UInt8) (s : Nat) (v u : Sv) : Prop where
  up : u.up = v.up
  tape : u.tape = zS D v.tape (Js v s)
  commits : u.commits = v.commits ++ [Js v s]
  synced : u.synced = v.synced
  waits : u.waits = UC v.waits s M
  queue : u.queue = v.queue ++ [s]
  out : u.out = v.out
  begun : u.begun = UC v.begun s N
  txns : u.txns = v.txns
  full : (v.txns s).writes.length ≠ 0
  room : v.queue.length ≠ 6 ∧ v.commits.length ≠ 300
  clash : UO (v.txns s) v.commits = N
  fits : QZ (QE v v.commits.length) (v.txns s).writes = 0
  app : VC D v.tape (Js v s) = 0
theorem IW(D:List UInt8->List UInt8)(v:Sv)(s:Nat):dD s v (JR D v s)∨OZ D s v (JR D v s):=by
 unfold JR;by_cases h1:(v.txns s).writes.length=0;·rw[if_pos h1];exact .inl (yO v s _ rfl)
 ·rw[if_neg h1];by_cases h2:v.queue.length=6∨v.commits.length=300;(·rw[if_pos h2];exact .inl (Ul v s _ rfl));·rw[if_neg h2];by_cases h3:UO (v.txns s) v.commits=M;(·rw[if_pos h3];exact .inl (yO v s _ rfl));·rw[if_neg h3];by_cases h4:QZ (QE v v.commits.length) (v.txns s).writes≠0;(·rw[if_pos h4];exact .inl (yO v s _ rfl));·rw[if_neg h4];by_cases h5:VC D v.tape (Js v s)≠0;(·rw[if_pos h5];exact .inl (yO v s _ rfl));·rw[if_neg h5];exact .inr ⟨rfl,rfl,rfl,rfl,rfl,rfl,rfl,rfl,rfl,h1,⟨fun e=>h2 (.inl e),fun e=>h2 (.inr e)⟩,by simpa using h3,sX h4,sX h5⟩
theorem gW(D:List UInt8->List UInt8)(v:Sv)(s:Nat)(r:Rq):dD s v (Jg D v s r)∨(r.kind=6∧QI v s r=N∧OZ D s v (Jg D v s r)):=by
 unfold Jg;by_cases h1:r.kind=8;·rw[if_pos h1];exact .inl (Ul v s _ rfl)
 ·rw[if_neg h1];by_cases h2:QI v s r=M;(·rw[if_pos h2];exact .inl (Ul v s _ rfl));·rw[if_neg h2];by_cases h3:r.kind=1;(·rw[if_pos h3];exact .inl ⟨⟨rfl,rfl,rfl,rfl,rfl,rfl⟩,⟨_,rfl,rfl⟩,fun _ hj=>Zl _ _ hj,fun _ hj=>Zl _ _ hj⟩);·rw[if_neg h3];by_cases h4:r.kind=7;(·rw[if_pos h4];exact .inl (yO v s _ rfl));·rw[if_neg h4];by_cases h5:ZK (v.synced:Int) (v.txns s).start=N;(·rw[if_pos h5];exact .inl (yO v s _ rfl));·rw[if_neg h5];by_cases h6:r.kind=6;(·rw[if_pos h6];rcases IW D v s with h|h;(·exact .inl h);·exact .inr ⟨h6,by simpa using h2,h⟩);·rw[if_neg h6];exact .inl (Ov v s r)
theorem Tw(D:List UInt8->List UInt8)(v:Sv)(s:Nat)(d:List UInt8):dD s v (Xa D v s d)∨(v.up=M∧QJ d=0∧(Qu d).kind=6∧v.waits s=N∧v.begun s=M∧OZ D s v (Xa D v s d)):=by
 unfold Xa;by_cases h1:v.up=N;·rw[if_pos h1];exact .inl (Ul v s _ rfl)
 ·rw[if_neg h1];by_cases h2:QJ d=0;(·rw[if_pos h2];rcases gW D v s (Qu d)with h|⟨h3,h4,h5⟩;(·exact .inl h);·right;unfold QI at h4;rw[if_neg (by omega)]at h4;simp only[rT,Bool.not_eq_false']at h4;exact⟨by simpa using h1,h2,h3,h4.1,h4.2,h5⟩);·rw[if_neg h2];exact .inl (Ul v s _ rfl)
theorem LN(D:List UInt8->List UInt8)(v:Sv)(a:Ac):∃rs,(Q7 D v a).out=v.out++rs:=by
 unfold Q7;split;·rcases Tw D v a.sess.toNat a.data with h|h;(·obtain⟨r,h1,_⟩:=h.out;exact⟨[r],h1⟩);·exact⟨[],by rw[sF];exact h.2.2.2.2.2.out⟩
 ·split;(·split;(·exact⟨JU v.synced v.queue,rfl⟩);·exact⟨[],by rw[sF]⟩);·split;(·split;(·exact⟨[],by rw[sF];rfl⟩);·exact⟨[],by rw[sF]⟩);·exact⟨[],by rw[sF]⟩
theorem Fb:∀(q:List Nat)(n:Nat),(JU n q).length=q.length|[],_=>rfl|_::q,n=>by rw[JU,sD,sD,Fb q]
theorem Eh{D:List UInt8->List UInt8}(hD:∀x,(D x).length=4){v:Sv}(h:Zc D v){a:Ac}(ha:Xn a):v.synced<=(Q7 D v a).synced∧(Q7 D v a).synced<=v.synced+v.queue.length∧(v.synced<(Q7 D v a).synced->a.kind=2∨a.kind=3):=by
 unfold Q7;by_cases h1:a.kind=1;·rw[if_pos h1];(have e:(Xa D v a.sess.toNat a.data).synced=v.synced:=by rcases Tw D v a.sess.toNat a.data with h|h;(·exact h.synced);·exact h.2.2.2.2.2.synced);rw[e];exact⟨by omega,by omega,fun h=>by omega⟩
 ·rw[if_neg h1];by_cases h2:a.kind=2;(·rw[if_pos h2];split;(·exact⟨by show v.synced<=v.synced+v.queue.length;omega,tW _,fun _=>.inl h2⟩);·exact⟨by omega,by omega,fun _=>.inl h2⟩);·rw[if_neg h2];by_cases h3:a.kind=3;(·rw[if_pos h3];split;(·obtain⟨j,j1,j2,j3,_⟩:=Ut hD h (ha.keep h3).1;(have e:(K3 D v a.keep).synced=j:=by rw[j3];show(v.commits.take j).length=j;rw[rG];omega);have:=h.turn;rw[e];exact⟨j1,by omega,fun _=>.inr h3⟩);·exact⟨by omega,by omega,fun _=>.inr h3⟩);·rw[if_neg h3];exact⟨tW _,by show v.synced<=_;omega,fun h=>absurd h (Nat.lt_irrefl _)⟩
structure Gr where
  kind : Int
  sess : Int
  name : Int
  key : Int
  value : Int
def kQ:Gr:=⟨0,0,0,0,0⟩
def YY(n:Int)(many:Nat):Nat:=if n<0then((-(n+1))%(many:Int)).toNat else(n%(many:Int)).toNat
theorem Vh(n:Int){many:Nat}(h:0<many):YY n many<many:=by
 unfold YY;split;·have b0:=oI (-(n+1)) (show(many:Int)≠0 by omega);have b1:=pY (-(n+1)) (show(0:Int)<many by omega);omega
 ·have b0:=oI n (show(many:Int)≠0 by omega);have b1:=pY n (show(0:Int)<many by omega);omega
def lZ(n:Int):List UInt8:=[sY (97+YY n 3)]
def lX(n:Int):List UInt8:=[sY (107+YY n 5)]
def mP(n:Int):List UInt8:=[sY (YY n 50)]
def GM(k:Nat)(a b c d:List UInt8):Rq:=if k<4then⟨1,[],[],[],[]⟩else if k<7then⟨2,a,b,[],[]⟩else if k=7then⟨3,a,b,c,[]⟩else if k<12then⟨4,a,b,[],d⟩else if k=12then⟨5,a,b,[],[]⟩else if k<17then⟨6,[],[],[],[]⟩else if k=17then⟨7,[],[],[],[]⟩else⟨8,a,b,[],[]⟩
def EF(g:Gr):Rq:=GM (YY g.kind 20) (lZ g.name) (lX g.key) (lX g.value) (mP g.value)
theorem fG(k:Nat){a b c d:List UInt8}(ha:a.length=1)(hb:b.length=1)(hc:c.length=1)(hd:d.length=1):Yc (GM k a b c d):=by
 unfold GM;repeat' split
 all_goals(refine⟨⟨?_,?_⟩,?_,?_,?_,?_,?_,?_,?_,?_⟩<;>simp[QV, *])
theorem L7(g:Gr):Yc (EF g):=fG _ rfl rfl rfl rfl
def Ez(g:Gr):Ac:=if YY g.kind 26=20∨YY g.kind 26=21∨YY g.kind 26=22then⟨2,0,0,[]⟩else if YY g.kind 26=23then⟨3,0,(YY g.value 80:Int),[]⟩else if YY g.kind 26=24then⟨4,0,0,[]⟩else if YY g.kind 26=25then⟨1,(YY g.sess 8:Int),0,[sY (pE.wrap g.value).toNat,sY (pE.wrap g.key).toNat]⟩else⟨1,(YY g.sess 8:Int),0,Kc (EF g)⟩
def XP(l:List Gr)(n:Nat):List Ac:=(l.take n).map Ez
theorem f7{r:Rq}(h:Yc r):Kc r=Kw r:=by
 rw[Kc,if_pos ((Yk r).2 h)]
theorem cW{r:Rq}(h:Yc r):(Kc r).length<=78:=by
 rw[f7 h];exact(uF h).1
theorem Ot{s:Int}{d:List UInt8}(h0:0<=s)(h1:s<=7)(hd:d.length<=4000):Xn ⟨1,s,0,d⟩:=by
 refine⟨⟨by simp,by simp⟩,fun _=>⟨h0,h1⟩,fun h=>by simp at h,hd,fun h=>by simp at h,fun _=>rfl,fun h=>by simp at h⟩
theorem fJ:Xn ⟨2,0,0,[]⟩:=⟨⟨by
 simp,by
 simp⟩,fun h=>by
 simp at h,fun h=>by
 simp at h,by
 simp,fun _=>rfl,fun _=>rfl,fun _=>rfl⟩
theorem bN:Xn ⟨4,0,0,[]⟩:=⟨⟨by
 simp,by
 simp⟩,fun h=>by
 simp at h,fun h=>by
 simp at h,by
 simp,fun _=>rfl,fun _=>rfl,fun _=>rfl⟩
theorem Om{k:Int}(h0:0<=k)(h1:k<=200000):Xn ⟨3,0,k,[]⟩:=⟨⟨by
 simp,by
 simp⟩,fun h=>by
 simp at h,fun _=>⟨h0,h1⟩,by
 simp,fun _=>rfl,fun h=>by
 simp at h,fun _=>rfl⟩
theorem fY(g:Gr):Xn (Ez g):=by
 have h8:=Vh g.sess (many:=8) (by decide);have h80:=Vh g.value (many:=80) (by decide);have hr:=cW (L7 g);unfold Ez;split;·exact fJ
 ·split;(·exact Om (by omega) (by omega));·split;(·exact bN);·split;(·exact Ot (by omega) (by omega) (by simp));·exact Ot (by omega) (by omega) (by omega)
theorem Rl(l:List Gr)(n:Nat):∀a∈XP l n,Xn a:=fun a ha=>by
 obtain⟨g,_,rfl⟩:=List.mem_map.1 ha;exact fY g
structure UG (l : FL) : Prop where
  many : l.length * 48 <= 140737488355328
  each : ∀ i, i < l.length -> (l.getD i ([], [])).1.length <= 140737488355328 ∧ uD (l.getD i ([], [])).2
theorem UG.len{l:FL}(h:UG l):l.length<=140737488355328:=by
 have:=h.many;omega
theorem Xs.fits{l:FL}(h:Xs l):UG l:=by
 refine⟨by have:=h.room;omega,fun i hi=>?_⟩;have:=h.tens l[i] (sU hi);rw[show l[i]=l.getD i ([],[])by simp[hi]]at this;exact⟨by omega,this.2.2.fits⟩
def D5(w:F)(b o:Nat)(t:Tn):Prop:=∃vn vp,w.cell? ⟨b,o,G⟩=I vn∧w.cell? ⟨b,o+1,G⟩=I vp∧Qe w vn t.1∧Qs w vp t.2
theorem D5.grown{w w':F}{b o:Nat}{t:Tn}(h:D5 w b o t)(hg:L w w' G):D5 w' b o t:=by
 obtain⟨vn,vp,c1,c2,h1,h2⟩:=h;exact⟨vn,vp,hg.cell c1 (by simp),hg.cell c2 (by simp),h1.grown hg,h2.grown hg⟩
def Zz(w:F)(v:H)(l:FL):Prop:=∃a cap,v=J a l.length cap∧l.length<=cap∧((l=[]∧(a=G->cap=0))∨∃b o,a=I ⟨b,o,G⟩∧∀i,i<l.length->D5 w b (o+i*2) (l.getD i ([],[])))
theorem qQ(w:F):Zz w (J G 0 0) []:=⟨G,0,rfl,tW _,.inl ⟨rfl,fun _=>rfl⟩⟩
theorem Zz.grown{w w':F}{v:H}{l:FL}(h:Zz w v l)(hg:L w w' G):Zz w' v l:=by
 obtain⟨a,cap,rfl,hc,h⟩:=h;refine⟨a,cap,rfl,hc,?_⟩;rcases h with h|⟨b,o,rfl,h⟩;·exact .inl h
 ·exact .inr ⟨b,o,rfl,fun i hi=>(h i hi).grown hg⟩
theorem Zz.shape{w:F}{v:H}{l:FL}(h:Zz w v l):∃a cap,v=J a l.length cap:=by
 obtain⟨a,cap,rfl,_⟩:=h;exact⟨a,cap,rfl⟩
theorem Zz.at{w:F}{a:Option rI}{n cap:Nat}{l:FL}(h:Zz w (J a n cap) l)(i:Nat)(hi:i<l.length):∃b o,a=I ⟨b,o,G⟩∧D5 w b (o+i*2) (l.getD i ([],[])):=by
 obtain⟨a',cap',e,hc,h⟩:=h;simp only[tI]at e;obtain⟨rfl,rfl,rfl⟩:=e;rcases h with⟨rfl,_⟩|⟨b,o,rfl,h⟩;·simp at hi
 ·exact⟨b,o,rfl,h i hi⟩
theorem gF:(84:Nat)≠5:=by
 decide
theorem gB:(84:Nat)≠42:=by
 decide
def ZC(base:Nat)(w:F)(v:H)(l:FL):Prop:=∃vs:List (H×H),vs.length=l.length∧w.ownsRow base 84 2 v l.length (flat vs)∧∀i,i<l.length->Qi 0 w (vs.getD i (sO,sO)).1 (l.getD i ([],[])).1∧QN 0 w (vs.getD i (sO,sO)).2 (l.getD i ([],[])).2
theorem yD(base:Nat)(w:F):ZC base w (J G 0 0) []:=⟨[],rfl,sQ _ _ _ _,fun i hi=>by
 simp at hi⟩
theorem ZC.row{base:Nat}{w:F}{v:H}{l:FL}(h:ZC base w v l):v.ownBlock=G∨∃g cur t fz,v.ownBlock=I g∧base<=g∧w.heap[g]?=I (Y cur t fz)∧t≠5∧t≠42:=by
 obtain⟨vs,_,h,_⟩:=h;rcases h.2with⟨rfl,_⟩|⟨g,cap,cur,rfl,hb,hg,_⟩;·exact .inl rfl
 ·exact .inr ⟨g,cur,_,_,rfl,hb,hg,gF,gB⟩
theorem ZC.row0{base:Nat}{w:F}{v:H}{l:FL}(h:ZC base w v l):v.ownBlock=G∨∃g cur t fz,v.ownBlock=I g∧0<=g∧w.heap[g]?=I (Y cur t fz)∧t≠5∧t≠42:=by
 rcases h.row with h|⟨g,cur,t,fz,h1,_,h3⟩;·exact .inl h
 ·exact .inr ⟨g,cur,t,fz,h1,tV _,h3⟩
theorem iR{base:Nat}{w:F}{r:Option Nat}(h:r=G∨∃g cur t fz,r=I g∧base<=g∧w.heap[g]?=I (Y cur t fz)∧t≠5∧t≠42):r=G∨∃g cur t fz,r=I g∧base<=g∧w.heap[g]?=I (Y cur t fz)∧t≠5:=by
 rcases h with h|⟨g,cur,t,fz,h1,h2,h3,h4,_⟩;·exact .inl h
 ·exact .inr ⟨g,cur,t,fz,h1,h2,h3,h4⟩
theorem ZC.lt{base:Nat}{w:F}{v:H}{l:FL}(h:ZC base w v l):∀k,v.ownBlock=I k->base<=k∧k<w.heap.size:=by
 obtain⟨vs,_,h,_⟩:=h;exact sK h
theorem ZC.grownNone{base:Nat}{w w':F}{v:H}{l:FL}(h:ZC base w v l)(hg:L w w' G):ZC base w' v l:=by
 obtain⟨vs,h1,h2,h3⟩:=h;refine⟨vs,h1,tY h2 hg ?_,fun i hi=>⟨((h3 i hi).1).keptT hg (.inl rfl),((h3 i hi).2).kept hg (.inl rfl)⟩⟩;cases hv:v.ownBlock with|none=>exact .inl rfl|some k=>exact .inr (by simp)
theorem ZC.alloc{base:Nat}{w:F}{v:H}{l:FL}(h:ZC base w v l)(o:Obj):ZC base (w.alloc o) v l:=h.grownNone (sR _ _ _)
theorem ZC.shape{base:Nat}{w:F}{v:H}{l:FL}(h:ZC base w v l):∃a cap,v=J a l.length cap:=by
 obtain⟨vs,_,h,_⟩:=h;rcases h.2with⟨rfl,h0⟩|⟨g,cap,cur,rfl,_⟩;·exact⟨G,0,by rw[h0]⟩
 ·exact⟨_,cap,rfl⟩
theorem ZC.cells{base:Nat}{w:F}{g n cap:Nat}{vs:List (H×H)}{l:FL}(hr:w.ownsRow base 84 2 (J (I ⟨g,0,G⟩) n cap) l.length (flat vs)):∀j u,(flat vs)[j]?=I u->w.cell? ⟨g,j,G⟩=I u:=by
 intro j u hj;rcases hr.2with⟨e,_⟩|⟨g',cap',cur,e,hb,hg,hn,hm,hs,ht⟩;·cases e
 ·simp only[tI,tB,rO]at e;obtain⟨⟨rfl,_⟩,_,_⟩:=e;(have hlt:j<l.length*2:=by have:=(sN.1 hj).1;rw[hr.1]at this;exact this);(have e2:(cur.toList.take (l.length*2))[j]?=(flat vs)[j]?:=by rw[ht]);rw[sH,if_pos hlt,hj]at e2;simp[tZ,hg];simpa using e2
theorem ZC.list{base:Nat}{w:F}{v:H}{l:FL}(h:ZC base w v l):Zz w v l:=by
 obtain⟨vs,hl,hr,h3⟩:=h;have hr':=hr;rcases hr.2with⟨rfl,h0⟩|⟨g,cap,cur,rfl,hb,hg,hn,hm,hs,ht⟩;·have:l=[]:=tL h0;subst this;exact qQ w
 ·refine⟨_,cap,rfl,hn,.inr ⟨g,0,rfl,fun i hi=>?_⟩⟩;have hf:=xN vs i (by omega);refine⟨(vs.getD i (sO,sO)).1,(vs.getD i (sO,sO)).2,?_,?_,(h3 i hi).1.1,(h3 i hi).2.list⟩;(·have:=ZC.cells hr' _ _ hf.1;rw[sS];exact this);·have:=ZC.cells hr' _ _ hf.2;rw[sS];exact this
theorem T4{base:Nat}{w W w1:F}{v:H}{l:FL}(h:L w W G)(ho:ZC base W v l)(hb:w.heap.size<=base)(hg:L W w1 v.ownBlock):L w w1 G:=⟨hg.os.trans h.os,hg.tape.trans h.tape,hg.output.trans h.output,tQ h.size hg.size,fun i hi hn=>(hg.block i (tH hi h.size) (fun e=>by
 have:=(ho.lt i e.symm).1;omega)).trans (h.block i hi hn)⟩
theorem F9:(O.info? 84).map (fun i=>(i.zero,i.size,i.bytes))=I (I (sW #[J G 0 0,J G 0 0]),2,48):=by
 kernel_rfl
theorem jW{w:F}{o:rM}{a:Act}{K:Act->F->Prop}{Q:Exit->Act->F->Prop}(s x:rJ)(ho:o.op=.call {callee:=.builtin .append,args:=#[s,x],argTypes:=#[33,33]})(base:Nat)(v:H)(l:FL)(hs:a.eval s=v)(hown:ZC base w v l)(vn vp:H)(t:Tn)(hk:Qi 0 w vn t.1)(hv:QN 0 w vp t.2)(nb:Nat)(hb:w.heap[nb]?=I (Y #[vn,vp] 84))(hx:a.eval x=J (I ⟨nb,0,G⟩) 1 1)(hl:(l.length+1)*48<=140737488355328)(hbase:base<=w.heap.size)(h:∀v' w',ZC base w' v' (l++[t])->L w w' v.ownBlock->K (a.put o.dst v') w'):o.wp O a w K Q:=by
 obtain⟨i0,hi,hz0,hz1,hz2⟩:=r7 F9;have hrow:=hown.row0;obtain⟨vs,hvl,hr,hp⟩:=hown;refine wp_append_lies w s x 33 ho base 84 i0 (sW #[J G 0 0,J G 0 0]) 2 48 Tryz.underlying33 hi hz0 hz1 hz2 rfl (by decide) v l.length (flat vs) hs hr ⟨nb,0,G⟩ 1 1 (flat [(vn,vp)]) hx rfl (rC (cs:=#[vn,vp]) hb) ?_ (by omega) (by unfold pL;omega) hl hbase _ rfl ?_;·intro u hu;simp only[flat,tN,rH,sF,tK,tM,or_false]at hu;rcases hu with rfl|rfl;(·exact Zx hk);·exact xZ hv
 ·intro g cap w' h1 h2 _ _;refine h _ w' ⟨vs++[(vn,vp)],by simp[hvl],?_,?_⟩ h2;(·rw[J6,tC];exact h1);·intro i hi;rw[Jp,Jp,hvl];by_cases hil:i<l.length;(·rw[if_pos hil,if_pos hil];exact⟨(hp i hil).1.keptT h2 (iR hrow),(hp i hil).2.kept h2 hrow⟩);·rw[if_neg hil,if_neg hil];(obtain rfl:i=l.length:=by simp at hi;omega);rw[oK];exact⟨hk.keptT h2 (iR hrow),hv.kept h2 hrow⟩
theorem F0{w:F}{ops:Array rM}{o:rM}{a:Act}{K:Act->F->Prop}{Q:Exit->Act->F->Prop}{E:Prop}(hgd:o.guard=G)(s x:rJ)(ho:o.op=.call {callee:=.builtin .append,args:=#[s,x],argTypes:=#[33,33]})(base:Nat)(v:H)(l:FL)(hs:a.eval s=v)(hown:ZC base w v l)(vn vp:H)(t:Tn)(hk:Qi 0 w vn t.1)(hv:QN 0 w vp t.2)(nb:Nat)(hb:w.heap[nb]?=I (Y #[vn,vp] 84))(hx:a.eval x=J (I ⟨nb,0,G⟩) 1 1)(hl:(l.length+1)*48<=140737488355328)(hbase:base<=w.heap.size)(h:∀v' w',ZC base w' v' (l++[t])->L w w' v.ownBlock->K (a.put o.dst v') w'):if sJ o (pF ops a.tmps)=M then Oper.wp O o a w K Q else E:=by
 have hw:sJ o (pF ops a.tmps)=M:=by simp[sJ,hgd]
 rw[if_pos hw];exact jW s x ho base v l hs hown vn vp t hk hv nb hb hx hl hbase h
theorem uQ{w:F}{ops:Array rM}{rest:List rM}{o:rM}{a:Act}{Q:Exit->Act->F->Prop}(hgd:o.guard=G)(s x:rJ)(ho:o.op=.call {callee:=.builtin .append,args:=#[s,x],argTypes:=#[33,33]})(base:Nat)(v:H)(l:FL)(hs:a.eval s=v)(hown:ZC base w v l)(vn vp:H)(t:Tn)(hk:Qi 0 w vn t.1)(hv:QN 0 w vp t.2)(nb:Nat)(hb:w.heap[nb]?=I (Y #[vn,vp] 84))(hx:a.eval x=J (I ⟨nb,0,G⟩) 1 1)(hl:(l.length+1)*48<=140737488355328)(hbase:base<=w.heap.size)(h:∀v' w',ZC base w' v' (l++[t])->L w w' v.ownBlock->wpList O ops Q rest (a.put o.dst v') w'):wpList O ops Q (o::rest) a w:=wpList_plain hgd fun _ hK=>jW s x ho base v l hs hown vn vp t hk hv nb hb hx hl hbase fun v' w' h1 h2=>hK _ _ (h v' w' h1 h2)
theorem Qk{w:F}{b i:Nat}{cs:Array H}{t:sC}{fz:Nat×Nat}{u:H}(h:w.heap[b]?=I (Y cs t fz)):(tG w ⟨b,i,G⟩ u).heap[b]?=I (Y (cs.setIfInBounds i u) t fz):=by
 simp only[tG,sA,if_true,h,rS];rfl
theorem Qx{w:F}{b c i:Nat}{o:Obj}{u:H}(h:w.heap[b]?=I o)(hne:b≠c):(tG w ⟨c,i,G⟩ u).heap[b]?=I o:=by
 simp only[tG,sA];rw[if_neg (fun e=>hne e.symm)];exact h
theorem YN(w:F)(b i:Nat)(u:H):L w (tG w ⟨b,i,G⟩ u) (I b):=Qh (Qb w _) i u
theorem Qi.setOther{base:Nat}{w:F}{v:H}{bs:List UInt8}(h:Qi base w v bs){b i:Nat}{cs:Array H}{t:sC}{fz:Nat×Nat}(hb:w.heap[b]?=I (Y cs t fz))(ht:t≠5)(hbb:base<=b)(u:H):Qi base (tG w ⟨b,i,G⟩ u) v bs:=h.keptT (YN w b i u) (.inr ⟨b,cs,t,fz,rfl,hbb,hb,ht⟩)
def Q4(rb pb:Nat)(w:F)(v:H)(l:List Zh):Prop:=∃us:List WV,us.map (·.1)=l∧w.ownsRow rb 179 4 v l.length (Ja us)∧∀x∈us,Qi pb w x.2.1 x.1.name∧Qi pb w x.2.2.1 x.1.key∧Qi pb w x.2.2.2 x.1.value
theorem Xz(rb pb:Nat)(w:F):Q4 rb pb w (J G 0 0) []:=⟨[],rfl,sQ _ _ _ _,fun x hx=>by
 simp at hx⟩
theorem Q4.row{rb pb:Nat}{w:F}{v:H}{l:List Zh}(h:Q4 rb pb w v l):v.ownBlock=G∨∃g cur fz,v.ownBlock=I g∧rb<=g∧w.heap[g]?=I (Y cur 179 fz):=by
 obtain⟨us,_,h,_⟩:=h;rcases h.2with⟨rfl,_⟩|⟨g,cap,cur,rfl,hb,hg,_⟩;·exact .inl rfl
 ·exact .inr ⟨g,cur,_,rfl,hb,hg⟩
theorem Q4.lt{rb pb:Nat}{w:F}{v:H}{l:List Zh}(h:Q4 rb pb w v l):∀k,v.ownBlock=I k->rb<=k∧k<w.heap.size:=by
 obtain⟨us,_,h,_⟩:=h;exact sK h
theorem Q4.ne{rb pb:Nat}{w:F}{v:H}{l:List Zh}(h:Q4 rb pb w v l){b:Nat}{cs:Array H}{t:sC}{fz:Nat×Nat}(hb:w.heap[b]?=I (Y cs t fz))(ht:t≠179):v.ownBlock≠I b:=by
 intro e;rcases h.row with h0|⟨g,cur,fz2,h1,_,h2⟩;·rw[h0]at e;cases e
 ·rw[h1]at e;cases e;rw[hb]at h2;simp only[tB,sB]at h2;exact ht h2.2.1
theorem Q4.kept{rb pb:Nat}{w w':F}{v:H}{l:List Zh}(h:Q4 rb pb w v l){row:Option Nat}(hg:L w w' row)(hne:v.ownBlock=G∨v.ownBlock≠row)(hrow:row=G∨∃g cur t fz,row=I g∧pb<=g∧w.heap[g]?=I (Y cur t fz)∧t≠5):Q4 rb pb w' v l:=by
 obtain⟨us,h1,h2,h3⟩:=h;exact⟨us,h1,tY h2 hg hne,fun x hx=>⟨(h3 x hx).1.keptT hg hrow,(h3 x hx).2.1.keptT hg hrow,(h3 x hx).2.2.keptT hg hrow⟩⟩
theorem Q4.grownNone{rb pb:Nat}{w w':F}{v:H}{l:List Zh}(h:Q4 rb pb w v l)(hg:L w w' G):Q4 rb pb w' v l:=h.kept hg (by
 cases hv:v.ownBlock with|none=>exact .inl rfl|some k=>exact .inr (by simp)) (.inl rfl)
theorem Q4.setOther{rb pb:Nat}{w:F}{v:H}{l:List Zh}(h:Q4 rb pb w v l){b i:Nat}{cs:Array H}{t:sC}{fz:Nat×Nat}(hb:w.heap[b]?=I (Y cs t fz))(ht:t≠5)(ht2:t≠179)(hbb:pb<=b)(u:H):Q4 rb pb (tG w ⟨b,i,G⟩ u) v l:=h.kept (YN w b i u) (.inr (h.ne hb ht2)) (.inr ⟨b,cs,t,fz,rfl,hbb,hb,ht⟩)
theorem Q4.shape{rb pb:Nat}{w:F}{v:H}{l:List Zh}(h:Q4 rb pb w v l):∃a cap,v=J a l.length cap:=by
 obtain⟨us,_,h,_⟩:=h;rcases h.2with⟨rfl,h0⟩|⟨g,cap,cur,rfl,_⟩;·exact⟨G,0,by rw[h0]⟩
 ·exact⟨_,cap,rfl⟩
theorem Q4.any{rb pb:Nat}{w:F}{v:H}{l:List Zh}(h:Q4 rb pb w v l):∃a n cap,v=J a n cap:=by
 obtain⟨a,cap,e⟩:=h.shape;exact⟨a,_,cap,e⟩
theorem Q4.down{rb pb:Nat}{w:F}{v:H}{l:List Zh}(h:Q4 rb pb w v l)(rb':Nat)(hb:rb'<=rb):Q4 rb' pb w v l:=by
 obtain⟨us,h1,h2,h3⟩:=h;refine⟨us,h1,⟨h2.1,?_⟩,h3⟩;rcases h2.2with h|⟨g,cap,cur,e,hb2,rest⟩;·exact .inl h
 ·exact .inr ⟨g,cap,cur,e,tQ hb hb2,rest⟩
theorem Q4.writesB{rb pb:Nat}{w:F}{v:H}{l:List Zh}(h:Q4 rb pb w v l):Xr pb w v l:=by
 obtain⟨us,hl,hr,h3⟩:=h;rcases hr.2with⟨rfl,h0⟩|⟨g,cap,cur,rfl,hb,hg,hn,hm,hs,ht⟩;·have:l=[]:=tL h0;rw[this];exact Ci pb w
 ·(have hcell:∀j u,(Ja us)[j]?=I u->w.cell? ⟨g,j,G⟩=I u:=by intro j u hj;(have hlt:j<l.length*4:=by have:=(sN.1 hj).1;rw[hr.1]at this;exact this);(have e2:(cur.toList.take (l.length*4))[j]?=(Ja us)[j]?:=by rw[ht]);rw[sH,if_pos hlt,hj]at e2;simp[tZ,hg];simpa using e2);refine⟨_,cap,rfl,hn,.inr ⟨g,0,rfl,.inr ⟨_,_,hg⟩,fun i hi=>?_⟩⟩;obtain⟨e1,e2⟩:=Wo hl i hi;(have hlen:us.length=l.length:=by rw[<-hl];simp);obtain⟨c1,c2,c3,c4⟩:=Mf us i (by omega);have hp:=h3 _ e2;rw[e1]at c3 hp;rw[sS];exact⟨_,_,_,hcell _ _ c1,hcell _ _ c2,hcell _ _ c3,hcell _ _ c4,hp.1,hp.2.1,hp.2.2⟩
theorem Q4.list{rb pb:Nat}{w:F}{v:H}{l:List Zh}(h:Q4 rb pb w v l):QQ w v l:=h.writesB.list
theorem V8{rb pb:Nat}{w W w1:F}{v:H}{l:List Zh}(h:L w W G)(ho:Q4 rb pb W v l)(hb:w.heap.size<=rb)(hg:L W w1 v.ownBlock):L w w1 G:=⟨hg.os.trans h.os,hg.tape.trans h.tape,hg.output.trans h.output,tQ h.size hg.size,fun i hi hn=>(hg.block i (tH hi h.size) (fun e=>by
 have:=(ho.lt i e.symm).1;omega)).trans (h.block i hi hn)⟩
def Ry(w:F)(b o:Nat)(r:Rd):Prop:=∃vn vk vl,w.cell? ⟨b,o,G⟩=I vn∧w.cell? ⟨b,o+1,G⟩=I vk∧w.cell? ⟨b,o+2,G⟩=I (tP r.wide)∧w.cell? ⟨b,o+3,G⟩=I vl∧Qe w vn r.name∧Qe w vk r.key∧Qe w vl r.last
theorem Ry.grown{w w':F}{b o:Nat}{r:Rd}(h:Ry w b o r)(hg:L w w' G):Ry w' b o r:=by
 obtain⟨vn,vk,vl,c1,c2,c3,c4,h1,h2,h3⟩:=h;exact⟨vn,vk,vl,hg.cell c1 (by simp),hg.cell c2 (by simp),hg.cell c3 (by simp),hg.cell c4 (by simp),h1.grown hg,h2.grown hg,h3.grown hg⟩
def Xd(w:F)(v:H)(l:List Rd):Prop:=∃a cap,v=J a l.length cap∧l.length<=cap∧((l=[]∧(a=G->cap=0))∨∃b o,a=I ⟨b,o,G⟩∧∀i,i<l.length->Ry w b (o+i*4) (l.getD i Zg))
theorem Bk(w:F):Xd w (J G 0 0) []:=⟨G,0,rfl,tW _,.inl ⟨rfl,fun _=>rfl⟩⟩
theorem Xd.shape{w:F}{v:H}{l:List Rd}(h:Xd w v l):∃a cap,v=J a l.length cap:=by
 obtain⟨a,cap,rfl,_⟩:=h;exact⟨a,cap,rfl⟩
theorem Xd.grown{w w':F}{v:H}{l:List Rd}(h:Xd w v l)(hg:L w w' G):Xd w' v l:=by
 obtain⟨a,cap,rfl,hc,h⟩:=h;refine⟨a,cap,rfl,hc,?_⟩;rcases h with h|⟨b,o,rfl,h⟩;·exact .inl h
 ·exact .inr ⟨b,o,rfl,fun i hi=>(h i hi).grown hg⟩
theorem Xd.at{w:F}{a:Option rI}{n cap:Nat}{l:List Rd}(h:Xd w (J a n cap) l)(i:Nat)(hi:i<l.length):∃b o,a=I ⟨b,o,G⟩∧Ry w b (o+i*4) (l.getD i Zg):=by
 obtain⟨a',cap',e,hc,h⟩:=h;simp only[tI]at e;obtain⟨rfl,rfl,rfl⟩:=e;rcases h with⟨rfl,_⟩|⟨b,o,rfl,h⟩;·simp at hi
 ·exact⟨b,o,rfl,h i hi⟩
structure lS (l : List Rd) : Prop where
  many : l.length * 80 <= 140737488355328
  each : ∀ i, i < l.length -> P7 (l.getD i Zg)
structure xH (t : Tx) : Prop where
  start : -9223372036854775808 <= t.start ∧ t.start <= 9223372036854775807
  reads : lS t.reads
  writes : uH t.writes
def GZ(w:F)(v:H)(t:Tx):Prop:=∃vr vw,v=sW #[tA tD t.start,vr,vw]∧Xd w vr t.reads∧QQ w vw t.writes
theorem GZ.grown{w w':F}{v:H}{t:Tx}(h:GZ w v t)(hg:L w w' G):GZ w' v t:=by
 obtain⟨vr,vw,rfl,h1,h2⟩:=h;exact⟨vr,vw,rfl,h1.grown hg,h2.grown hg⟩
theorem GZ.agg{w:F}{v:H}{t:Tx}(h:GZ w v t):∃ra rc wa wc,v=sW #[tA tD t.start,J ra t.reads.length rc,J wa t.writes.length wc]:=by
 obtain⟨vr,vw,rfl,h1,h2⟩:=h;obtain⟨ra,rc,rfl⟩:=h1.shape;obtain⟨wa,wc,rfl⟩:=h2.shape;exact⟨ra,rc,wa,wc,rfl⟩
theorem GZ.parts{w:F}{t:Tx}{x y z:H}(h:GZ w (sW #[x,y,z]) t):x=tA tD t.start∧Xd w y t.reads∧QQ w z t.writes:=by
 obtain⟨vr,vw,e,h1,h2⟩:=h;simp only[Value.agg.injEq,Array.mk.injEq,List.cons.injEq,and_true]at e;obtain⟨rfl,rfl,rfl⟩:=e;exact⟨rfl,h1,h2⟩
theorem PA{r:Rd}(h:XG r=0):P7 r:=by
 obtain⟨h1,h2,h3⟩:=(EV r).1 h;refine⟨by omega,by omega,?_⟩;split at h3;·omega
 ·rw[h3];simp
abbrev RV:=Rd×H×H×H
def B9:RV:=(Zg,sO,sO,sO)
def Gv(us:List RV):List H:=us.flatMap fun x=>[x.2.1,x.2.2.1,tP x.1.wide,x.2.2.2]
theorem Mq(a b:List RV):Gv (a++b)=Gv a++Gv b:=by
 simp[Gv]
theorem Nw:∀(us:List RV)(i:Nat),i<us.length->(Gv us)[i*4]?=I (us.getD i B9).2.1∧(Gv us)[i*4+1]?=I (us.getD i B9).2.2.1∧(Gv us)[i*4+2]?=I (tP (us.getD i B9).1.wide)∧(Gv us)[i*4+3]?=I (us.getD i B9).2.2.2|[],i,h=>by simp at h|x::us,0,_=>⟨rfl,rfl,rfl,rfl⟩|x::us,i+1,h=>by have:=Nw us i (by simpa using h);rw[show(i+1)*4=i*4+4by omega];exact this
theorem iV:(198:Nat)≠5:=by
 decide
theorem lK:(198:Nat)≠179:=by
 decide
def ZQ(rb pb:Nat)(w:F)(v:H)(l:List Rd):Prop:=∃us:List RV,us.map (·.1)=l∧w.ownsRow rb 198 4 v l.length (Gv us)∧∀x∈us,Qi pb w x.2.1 x.1.name∧Qi pb w x.2.2.1 x.1.key∧Qi pb w x.2.2.2 x.1.last
theorem Uv(rb pb:Nat)(w:F):ZQ rb pb w (J G 0 0) []:=⟨[],rfl,sQ _ _ _ _,fun x hx=>by
 simp at hx⟩
theorem ZQ.row{rb pb:Nat}{w:F}{v:H}{l:List Rd}(h:ZQ rb pb w v l):v.ownBlock=G∨∃g cur fz,v.ownBlock=I g∧rb<=g∧w.heap[g]?=I (Y cur 198 fz):=by
 obtain⟨us,_,h,_⟩:=h;rcases h.2with⟨rfl,_⟩|⟨g,cap,cur,rfl,hb,hg,_⟩;·exact .inl rfl
 ·exact .inr ⟨g,cur,_,rfl,hb,hg⟩
theorem ZQ.lt{rb pb:Nat}{w:F}{v:H}{l:List Rd}(h:ZQ rb pb w v l):∀k,v.ownBlock=I k->rb<=k∧k<w.heap.size:=by
 obtain⟨us,_,h,_⟩:=h;exact sK h
theorem ZQ.ne{rb pb:Nat}{w:F}{v:H}{l:List Rd}(h:ZQ rb pb w v l){b:Nat}{cs:Array H}{t:sC}{fz:Nat×Nat}(hb:w.heap[b]?=I (Y cs t fz))(ht:t≠198):v.ownBlock≠I b:=by
 intro e;rcases h.row with h0|⟨g,cur,fz2,h1,_,h2⟩;·rw[h0]at e;cases e
 ·rw[h1]at e;cases e;rw[hb]at h2;simp only[tB,sB]at h2;exact ht h2.2.1
theorem ZQ.kept{rb pb:Nat}{w w':F}{v:H}{l:List Rd}(h:ZQ rb pb w v l){row:Option Nat}(hg:L w w' row)(hne:v.ownBlock=G∨v.ownBlock≠row)(hrow:row=G∨∃g cur t fz,row=I g∧pb<=g∧w.heap[g]?=I (Y cur t fz)∧t≠5):ZQ rb pb w' v l:=by
 obtain⟨us,h1,h2,h3⟩:=h;exact⟨us,h1,tY h2 hg hne,fun x hx=>⟨(h3 x hx).1.keptT hg hrow,(h3 x hx).2.1.keptT hg hrow,(h3 x hx).2.2.keptT hg hrow⟩⟩
theorem ZQ.grownNone{rb pb:Nat}{w w':F}{v:H}{l:List Rd}(h:ZQ rb pb w v l)(hg:L w w' G):ZQ rb pb w' v l:=h.kept hg (by
 cases hv:v.ownBlock with|none=>exact .inl rfl|some k=>exact .inr (by simp)) (.inl rfl)
theorem ZQ.setOther{rb pb:Nat}{w:F}{v:H}{l:List Rd}(h:ZQ rb pb w v l){b i:Nat}{cs:Array H}{t:sC}{fz:Nat×Nat}(hb:w.heap[b]?=I (Y cs t fz))(ht:t≠5)(ht2:t≠198)(hbb:pb<=b)(u:H):ZQ rb pb (tG w ⟨b,i,G⟩ u) v l:=h.kept (YN w b i u) (.inr (h.ne hb ht2)) (.inr ⟨b,cs,t,fz,rfl,hbb,hb,ht⟩)
theorem ZQ.down{rb pb:Nat}{w:F}{v:H}{l:List Rd}(h:ZQ rb pb w v l)(rb':Nat)(hb:rb'<=rb):ZQ rb' pb w v l:=by
 obtain⟨us,h1,h2,h3⟩:=h;refine⟨us,h1,⟨h2.1,?_⟩,h3⟩;rcases h2.2with h|⟨g,cap,cur,e,hb2,rest⟩;·exact .inl h
 ·exact .inr ⟨g,cap,cur,e,tQ hb hb2,rest⟩
theorem ZQ.shape{rb pb:Nat}{w:F}{v:H}{l:List Rd}(h:ZQ rb pb w v l):∃a cap,v=J a l.length cap:=by
 obtain⟨us,_,h,_⟩:=h;rcases h.2with⟨rfl,h0⟩|⟨g,cap,cur,rfl,_⟩;·exact⟨G,0,by rw[h0]⟩
 ·exact⟨_,cap,rfl⟩
theorem Iw{us:List RV}{l:List Rd}(h:us.map (·.1)=l)(i:Nat)(hi:i<l.length):(us.getD i B9).1=l.getD i Zg∧us.getD i B9∈us:=by
 subst h;have hi':i<us.length:=by simpa using hi
 refine⟨by simp[hi'],?_⟩;rw[show us.getD i B9=us[i]by simp[hi']];exact sU hi'
theorem ZQ.list{rb pb:Nat}{w:F}{v:H}{l:List Rd}(h:ZQ rb pb w v l):Xd w v l:=by
 obtain⟨us,hl,hr,h3⟩:=h;rcases hr.2with⟨rfl,h0⟩|⟨g,cap,cur,rfl,hb,hg,hn,hm,hs,ht⟩;·have:l=[]:=tL h0;rw[this];exact Bk w
 ·(have hcell:∀j u,(Gv us)[j]?=I u->w.cell? ⟨g,j,G⟩=I u:=by intro j u hj;(have hlt:j<l.length*4:=by have:=(sN.1 hj).1;rw[hr.1]at this;exact this);(have e2:(cur.toList.take (l.length*4))[j]?=(Gv us)[j]?:=by rw[ht]);rw[sH,if_pos hlt,hj]at e2;simp[tZ,hg];simpa using e2);refine⟨_,cap,rfl,hn,.inr ⟨g,0,rfl,fun i hi=>?_⟩⟩;obtain⟨e1,e2⟩:=Iw hl i hi;(have hlen:us.length=l.length:=by rw[<-hl];simp);obtain⟨c1,c2,c3,c4⟩:=Nw us i (by omega);have hp:=h3 _ e2;rw[e1]at c3 hp;rw[sS];exact⟨_,_,_,hcell _ _ c1,hcell _ _ c2,hcell _ _ c3,hcell _ _ c4,hp.1.1,hp.2.1.1,hp.2.2.1⟩
theorem TQ{rb pb:Nat}{w W w1:F}{v:H}{l:List Rd}(h:L w W G)(ho:ZQ rb pb W v l)(hb:w.heap.size<=rb)(hg:L W w1 v.ownBlock):L w w1 G:=⟨hg.os.trans h.os,hg.tape.trans h.tape,hg.output.trans h.output,tQ h.size hg.size,fun i hi hn=>(hg.block i (tH hi h.size) (fun e=>by
 have:=(ho.lt i e.symm).1;omega)).trans (h.block i hi hn)⟩
theorem iT:(O.info? 198).map (fun i=>(i.zero,i.size,i.bytes))=I (I (sW #[J G 0 0,J G 0 0,tP N,J G 0 0]),4,80):=by
 kernel_rfl
def GQ(w:F)(v:H)(t:Tx):Prop:=∃vr vw,v=sW #[tA tD t.start,vr,vw]∧ZQ 0 0 w vr t.reads∧Q4 0 0 w vw t.writes
theorem GQ.is{w:F}{v:H}{t:Tx}(h:GQ w v t):GZ w v t:=by
 obtain⟨vr,vw,rfl,h1,h2⟩:=h;exact⟨vr,vw,rfl,h1.list,h2.list⟩
theorem xE(w:F):GQ w (sW #[tA tD 0,J G 0 0,J G 0 0]) FO:=⟨_,_,rfl,Uv 0 0 w,Xz 0 0 w⟩
def Df(w:F)(b o:Nat)(s:kZ):Prop:=∃vo,w.cell? ⟨b,o,G⟩=I (tA tD s.bit)∧w.cell? ⟨b,o+1,G⟩=I (tP s.right)∧w.cell? ⟨b,o+2,G⟩=I vo∧Qe w vo s.other
theorem Df.grown{w w':F}{b o:Nat}{s:kZ}(h:Df w b o s)(hg:L w w' G):Df w' b o s:=by
 obtain⟨vo,c1,c2,c3,h1⟩:=h;exact⟨vo,hg.cell c1 (by simp),hg.cell c2 (by simp),hg.cell c3 (by simp),h1.grown hg⟩
def Gq(w:F)(v:H)(l:List kZ):Prop:=∃a cap,v=J a l.length cap∧l.length<=cap∧((l=[]∧(a=G->cap=0))∨∃b o,a=I ⟨b,o,G⟩∧∀i,i<l.length->Df w b (o+i*3) (l.getD i LG))
theorem Be(w:F):Gq w (J G 0 0) []:=⟨G,0,rfl,tW _,.inl ⟨rfl,fun _=>rfl⟩⟩
theorem Gq.grown{w w':F}{v:H}{l:List kZ}(h:Gq w v l)(hg:L w w' G):Gq w' v l:=by
 obtain⟨a,cap,rfl,hc,h⟩:=h;refine⟨a,cap,rfl,hc,?_⟩;rcases h with h|⟨b,o,rfl,h⟩;·exact .inl h
 ·exact .inr ⟨b,o,rfl,fun i hi=>(h i hi).grown hg⟩
theorem Gq.shape{w:F}{v:H}{l:List kZ}(h:Gq w v l):∃a cap,v=J a l.length cap:=by
 obtain⟨a,cap,rfl,_⟩:=h;exact⟨a,cap,rfl⟩
def UY(w:F)(v:H)(p:Ck):Prop:=∃vs vk vv,v=sW #[tP p.empty,vs,vk,vv]∧Gq w vs p.steps∧Qe w vk p.pair.1∧Qe w vv p.pair.2
theorem UY.grown{w w':F}{v:H}{p:Ck}(h:UY w v p)(hg:L w w' G):UY w' v p:=by
 obtain⟨vs,vk,vv,rfl,h0,h1,h2⟩:=h;exact⟨vs,vk,vv,rfl,h0.grown hg,h1.grown hg,h2.grown hg⟩
theorem UJ{w:F}{b:Nat}{x y:H}{t:sC}(h:w.heap[b]?=I (Y #[x,y] t)):w.cell? ⟨b,0,G⟩=I x∧w.cell? ⟨b,1,G⟩=I y∧w.frozen? ⟨b,0,G⟩=N∧w.frozen? ⟨b,1,G⟩=N:=by
 refine⟨?_,?_,?_,?_⟩<;>simp[tZ,r8,h]
theorem dM{w:F}{b:Nat}{x y:H}{t:sC}(h:w.heap[b]?=I (Y #[x,y] t))(u v:H):((tG w ⟨b,0,G⟩ u).setCell ⟨b,1,G⟩ v).heap[b]?=I (Y #[u,v] t):=by
 have h0:(tG w ⟨b,0,G⟩ u).heap[b]?=I (Y #[u,y] t):=by simp only[tG,sA,if_true,h,rS];first|rfl|simp
 rw[tG,sA,if_pos rfl,h0];first|rfl|simp
theorem Gm{w:F}{b:Nat}{x y z:H}{t:sC}(h:w.heap[b]?=I (Y #[x,y,z] t)):(w.cell? ⟨b,0,G⟩=I x∧w.cell? ⟨b,1,G⟩=I y∧w.cell? ⟨b,2,G⟩=I z)∧w.frozen? ⟨b,0,G⟩=N∧w.frozen? ⟨b,1,G⟩=N∧w.frozen? ⟨b,2,G⟩=N:=by
 refine⟨⟨?_,?_,?_⟩,?_,?_,?_⟩<;>simp[tZ,r8,h]
theorem Nm{w:F}{b:Nat}{x y z:H}{t:sC}(h:w.heap[b]?=I (Y #[x,y,z] t))(x' y' z':H):(((tG w ⟨b,0,G⟩ x').setCell ⟨b,1,G⟩ y').setCell ⟨b,2,G⟩ z').heap[b]?=I (Y #[x',y',z'] t):=by
 have h0:(tG w ⟨b,0,G⟩ x').heap[b]?=I (Y #[x',y,z] t):=by simp only[tG,sA,if_true,h,rS];first|rfl|simp
 have h1:((tG w ⟨b,0,G⟩ x').setCell ⟨b,1,G⟩ y').heap[b]?=I (Y #[x',y',z] t):=by rw[tG,sA,if_pos rfl,h0];first|rfl|simp
 rw[tG,sA,if_pos rfl,h1];first|rfl|simp
theorem Fl{w w1:F}(h:L w w1 G)(b:Nat)(hb:w.heap.size<=b)(x y z:H):L w (((tG w1 ⟨b,0,G⟩ x).setCell ⟨b,1,G⟩ y).setCell ⟨b,2,G⟩ z) G:=Qd (Qd (Qd h _ hb _ _) _ hb _ _) _ hb _ _
def iJ(w:F)(b:Nat):Prop:=∃cur t fz,w.heap[b]?=I (Y cur t fz)∧(t=5∨∃q,cur[0]?=I (tA pE q))
def jE(w:F)(b:Nat):Prop:=∃cur t fz,w.heap[b]?=I (Y cur t fz)∧t≠5∧∀q,cur[0]?≠I (tA pE q)
theorem iJ.ne{w:F}{a b:Nat}(h:iJ w a)(h':jE w b):a≠b:=by
 rintro rfl;obtain⟨cur,t,fz,h1,h2⟩:=h;obtain⟨cur',t',fz',h3,h4,h5⟩:=h';rw[h1]at h3;simp only[tB,sB]at h3;obtain⟨rfl,rfl,_⟩:=h3;rcases h2 with h2|⟨q,h2⟩;·exact h4 h2
 ·exact h5 q h2
theorem jE.grown{w w':F}{b:Nat}(h:jE w b)(hg:L w w' G):jE w' b:=by
 obtain⟨cur,t,fz,h1,h2⟩:=h;exact⟨cur,t,fz,by rw[hg.block b (tJ.1 h1).1 (by simp)];exact h1,h2⟩
theorem jE.set{w:F}{c:Nat}(h:jE w c)(i:Nat)(u:H)(hu:∀q,u≠tA pE q):jE (tG w ⟨c,i,G⟩ u) c:=by
 obtain⟨cur,t,fz,h1,h2,h3⟩:=h;refine⟨cur.setIfInBounds i u,t,fz,?_,h2,fun q hq=>?_⟩;·simp only[tG,sA,if_true,h1,rS];first|rfl|simp
 ·rw[Array.getElem?_setIfInBounds]at hq;split at hq;(·split at hq;(·simp at hq;exact hu q hq);·cases hq);·exact h3 q hq
theorem Dk{w:F}{c:Nat}{x:H}{xs:List H}{t:sC}{fz:Nat×Nat}(h:w.heap[c]?=I (Y ⟨x::xs⟩ t fz))(ht:t≠5)(hx:∀q,x≠tA pE q):jE w c:=⟨_,t,fz,h,ht,fun q hq=>by
 simp at hq;exact hx q hq⟩
def X5(w:F)(v:H)(bs:List UInt8):Prop:=Qe w v bs∧(bs=[]∨∃b,v.ownBlock=I b∧b<w.heap.size∧iJ w b)
theorem lD:(128:Nat)≠5:=by
 decide
theorem UH(w:F):X5 w (J G 0 0) []:=⟨QC _,.inl rfl⟩
theorem Q9.partS{base':Nat}{w:F}{v:H}{bs:List UInt8}(h:Q9 base' w v bs):X5 w v bs:=by
 refine⟨h.slice,?_⟩;rcases h.2with⟨rfl,h0⟩|⟨g,cap,cur,rfl,hb,hg,_⟩;·exact .inl (tL h0)
 ·exact .inr ⟨g,rfl,(tJ.1 hg).1,cur,_,_,hg,.inl rfl⟩
theorem ZL.partS{w:F}{nb:Nat}{bs:List UInt8}(h:ZL w nb bs)(hl:bs.length=32):X5 w (J (I ⟨nb,0,G⟩) 32 32) bs:=by
 refine⟨h.slice32 hl,.inr ⟨nb,rfl,VG (h.cell 0 (by omega)),?_⟩⟩;have hc:=h.cell 0 (by omega);obtain⟨t,hb⟩:=h;refine⟨_,t,_,hb,.inr ⟨((bs.getD 0 0).toNat:Int),?_⟩⟩;·simpa[tZ,hb]using hc
theorem EO{w:F}{v:H}{bs:List UInt8}(h:X5 w v bs):v.oneCell'=M:=by
 obtain⟨⟨a,cap,rfl,_⟩,_⟩:=h;rfl
def lN(w:F)(row:Option Nat):Prop:=row=G∨∃g,row=I g∧jE w g
theorem X5.kept{w w':F}{v:H}{bs:List UInt8}(h:X5 w v bs){row:Option Nat}(hg:L w w' row)(hrow:lN w row):X5 w' v bs:=by
 obtain⟨hs,ho⟩:=h;rcases ho with rfl|⟨b,hb,hlt,hc⟩;·obtain⟨a,cap,rfl,hc,h⟩:=hs;refine⟨⟨a,cap,rfl,hc,?_⟩,.inl rfl⟩;rcases h with h|⟨b,o,rfl,h⟩;(·exact .inl h);·exact .inr ⟨b,o,rfl,fun i hi=>by simp at hi⟩
 ·(have hne:I b≠row:=by intro e;rcases hrow with rfl|⟨g,rfl,hg'⟩;(·cases e);·cases e;exact hc.ne hg' rfl);have hblk:=hg.block b hlt hne;refine⟨?_,.inr ⟨b,hb,tH hlt hg.size,?_⟩⟩;(·obtain⟨a,cap,rfl,hcp,h⟩:=hs;refine⟨a,cap,rfl,hcp,?_⟩;rcases h with h|⟨b',o,rfl,h⟩;(·exact .inl h);·refine .inr ⟨b',o,rfl,fun i hi=>?_⟩;simp[pO]at hb;subst hb;exact hg.cell (h i hi) (by simpa using hne));·obtain⟨cur,t,fz,hc,hc2⟩:=hc;exact⟨cur,t,fz,by rw[hblk];exact hc,hc2⟩
theorem X5.grown{w w':F}{v:H}{bs:List UInt8}(h:X5 w v bs)(hg:L w w' G):X5 w' v bs:=h.kept hg (.inl rfl)
theorem X5.set{w:F}{v:H}{bs:List UInt8}(h:X5 w v bs){c:Nat}(hc:jE w c)(i:Nat)(u:H):X5 (tG w ⟨c,i,G⟩ u) v bs:=h.kept (Qh (Qb _ (I c)) i u) (.inr ⟨c,rfl,hc⟩)
abbrev SV:=kZ×H
def Wk:SV:=(LG,sO)
def Us(us:List SV):List H:=us.flatMap fun x=>[tA tD x.1.bit,tP x.1.right,x.2]
theorem Dn(a b:List SV):Us (a++b)=Us a++Us b:=by
 simp[Us]
theorem Mn:∀(us:List SV)(i:Nat),i<us.length->(Us us)[i*3]?=I (tA tD (us.getD i Wk).1.bit)∧(Us us)[i*3+1]?=I (tP (us.getD i Wk).1.right)∧(Us us)[i*3+2]?=I (us.getD i Wk).2|[],i,h=>by simp at h|x::r,0,_=>by simp[Us]|x::r,i+1,h=>by have:=Mn r i (by simpa using h);rw[show(i+1)*3=i*3+3by omega,show i*3+3+1=(i*3+1)+3by omega,show i*3+3+2=(i*3+2)+3by omega];simpa[Us]using this
theorem Ww(us:List SV):∀u∈Us us,(∀x∈us,x.2.oneCell'=M)->u.oneCell'=M:=by
 intro u hu h;obtain⟨x,hx,hu⟩:=List.mem_flatMap.1 hu;simp only[tK,tM,or_false]at hu;rcases hu with rfl|rfl|rfl;·rfl
 ·rfl
 ·exact h x hx
def JX(base:Nat)(w:F)(v:H)(l:List kZ):Prop:=∃us:List SV,us.map (·.1)=l∧w.ownsRow base 128 3 v l.length (Us us)∧(∀x∈us,X5 w x.2 x.1.other)∧(l=[]->v=J G 0 0)
theorem uV(base:Nat)(w:F):JX base w (J G 0 0) []:=⟨[],rfl,sQ _ _ _ _,fun x hx=>by
 simp at hx,fun _=>rfl⟩
theorem JX.row{base:Nat}{w:F}{v:H}{l:List kZ}(h:JX base w v l):lN w v.ownBlock:=by
 obtain⟨us,hm,h,_,h0⟩:=h;cases l with|nil=>rw[h0 rfl];exact .inl rfl|cons x r=>rcases h.2with⟨rfl,_⟩|⟨g,cap,cur,rfl,hb,hg,hn,_,_,ht⟩;(·exact .inl rfl);·refine .inr ⟨g,rfl,cur,_,_,hg,lD,fun q=>?_⟩;cases us with|nil=>simp at hm|cons u us=>simp only[pI,List.cons.injEq]at hm;(have e:(cur.toList.take ((x::r).length*3))[0]?=(Us (u::us))[0]?:=by rw[ht]);rw[sH,if_pos (by simp)]at e;rw[<-pB,e];simp[Us]
theorem JX.lt{base:Nat}{w:F}{v:H}{l:List kZ}(h:JX base w v l):∀k,v.ownBlock=I k->base<=k∧k<w.heap.size:=by
 obtain⟨us,_,h,_⟩:=h;exact sK h
theorem JX.grownNone{base:Nat}{w w':F}{v:H}{l:List kZ}(h:JX base w v l)(hg:L w w' G):JX base w' v l:=by
 obtain⟨us,h1,h2,h3,h4⟩:=h;refine⟨us,h1,tY h2 hg ?_,fun x hx=>(h3 x hx).grown hg,h4⟩;cases hv:v.ownBlock with|none=>exact .inl rfl|some k=>exact .inr (by simp)
theorem JX.alloc{base:Nat}{w:F}{v:H}{l:List kZ}(h:JX base w v l)(o:Obj):JX base (w.alloc o) v l:=h.grownNone (sR _ _ _)
theorem JX.shape{base:Nat}{w:F}{v:H}{l:List kZ}(h:JX base w v l):∃a cap,v=J a l.length cap:=by
 obtain⟨us,_,h,_⟩:=h;rcases h.2with⟨rfl,h0⟩|⟨g,cap,cur,rfl,_⟩;·exact⟨G,0,by rw[h0]⟩
 ·exact⟨_,cap,rfl⟩
theorem JX.cells{base:Nat}{w:F}{g n cap:Nat}{us:List SV}{k:Nat}(hr:w.ownsRow base 128 3 (J (I ⟨g,0,G⟩) n cap) k (Us us)):∀j u,(Us us)[j]?=I u->w.cell? ⟨g,j,G⟩=I u:=by
 intro j u hj;rcases hr.2with⟨e,_⟩|⟨g',cap',cur,e,hb,hg,hn,hm,hs,ht⟩;·cases e
 ·simp only[tI,tB,rO]at e;obtain⟨⟨rfl,_⟩,_,_⟩:=e;(have hlt:j<k*3:=by have:=(sN.1 hj).1;rw[hr.1]at this;exact this);(have e2:(cur.toList.take (k*3))[j]?=(Us us)[j]?:=by rw[ht]);rw[sH,if_pos hlt,hj]at e2;simp[tZ,hg];simpa using e2
theorem bF{us:List SV}{l:List kZ}(h:us.map (·.1)=l)(i:Nat)(hi:i<l.length):(us.getD i Wk).1=l.getD i LG∧us.getD i Wk∈us:=by
 subst h;have hi':i<us.length:=by simpa using hi
 constructor;·simp[hi']
 ·rw[show us.getD i Wk=us[i]by simp[hi']];exact sU _
theorem JX.list{base:Nat}{w:F}{v:H}{l:List kZ}(h:JX base w v l):Gq w v l:=by
 obtain⟨us,hl,hr,h3,_⟩:=h;have hul:us.length=l.length:=by rw[<-hl];simp
 rcases hr.2with⟨rfl,h0⟩|⟨g,cap,cur,rfl,hb,hg,hn,hm,hs,ht⟩;·have:l=[]:=tL h0;subst this;exact Be w
 ·refine⟨_,cap,rfl,hn,.inr ⟨g,0,rfl,fun i hi=>?_⟩⟩;obtain⟨e1,e2⟩:=bF hl i hi;obtain⟨c1,c2,c3⟩:=Mn us i (by omega);have hp:=h3 _ e2;rw[e1]at c1 c2 hp;rw[sS];exact⟨_,JX.cells hr _ _ c1,JX.cells hr _ _ c2,JX.cells hr _ _ c3,hp.1⟩
theorem JX.set{base:Nat}{w:F}{v:H}{l:List kZ}(h:JX base w v l){c:Nat}(hc:jE w c)(hne:c<base)(i:Nat)(u:H):JX base (tG w ⟨c,i,G⟩ u) v l:=by
 have hlt:=h.lt;obtain⟨us,h1,h2,h3,h4⟩:=h;refine⟨us,h1,tY h2 (Qh (Qb _ (I c)) i u) ?_,fun x hx=>(h3 x hx).set hc i u,h4⟩;cases hv:v.ownBlock with|none=>exact .inl rfl|some k=>exact .inr (by have:=(hlt k hv).1;simp;omega)
theorem g8:(44:Nat)≠5:=by
 decide
theorem lR:(42:Nat)≠5:=by
 decide
theorem VA{W:F}{pb:Nat}{x y:H}(h:W.heap[pb]?=I (Y #[x,y] 42))(hx:∀q,x≠tA pE q)(ua va:Option rI)(un uc vn vc:Nat){z:H}{bs:List UInt8}(hz:X5 W z bs):X5 ((tG W ⟨pb,0,G⟩ (J ua un uc)).setCell ⟨pb,1,G⟩ (J va vn vc)) z bs:=have h0:jE W pb:=Dk (xs:=[y]) h lR hx;have h1:=h0.set 0 (J ua un uc) (fun q=>by
 simp);(hz.set h0 0 _).set h1 1 _
theorem X5.quad{w:F}{v:H}{bs:List UInt8}(h:X5 w v bs){c:Nat}(hc:jE w c){e:Bool}{sa:Option rI}{sn sc:Nat}{ka va:Option rI}{kn kc vn vc:Nat}:X5 ((((tG w ⟨c,0,G⟩ (tP e)).setCell ⟨c,1,G⟩ (J sa sn sc)).setCell ⟨c,2,G⟩ (J ka kn kc)).setCell ⟨c,3,G⟩ (J va vn vc)) v bs:=have h1:=hc.set 0 (tP e) (fun q=>by
 simp);have h2:=h1.set 1 (J sa sn sc) (fun q=>by
 simp);have h3:=h2.set 2 (J ka kn kc) (fun q=>by
 simp);(((h.set hc 0 _).set h1 1 _).set h2 2 _).set h3 3 _
theorem JX.quad{base:Nat}{w:F}{v:H}{l:List kZ}(h:JX base w v l){c:Nat}(hc:jE w c)(hne:c<base){e:Bool}{sa:Option rI}{sn sc:Nat}{ka va:Option rI}{kn kc vn vc:Nat}:JX base ((((tG w ⟨c,0,G⟩ (tP e)).setCell ⟨c,1,G⟩ (J sa sn sc)).setCell ⟨c,2,G⟩ (J ka kn kc)).setCell ⟨c,3,G⟩ (J va vn vc)) v l:=have h1:=hc.set 0 (tP e) (fun q=>by
 simp);have h2:=h1.set 1 (J sa sn sc) (fun q=>by
 simp);have h3:=h2.set 2 (J ka kn kc) (fun q=>by
 simp);(((h.set hc hne 0 _).set h1 hne 1 _).set h2 hne 2 _).set h3 hne 3 _
def Zy(n:Nat)(w:F)(v:H)(p:Ck):Prop:=∃base vs vk vv,v=sW #[tP p.empty,vs,vk,vv]∧n<=base∧base<=w.heap.size∧JX base w vs p.steps∧X5 w vk p.pair.1∧X5 w vv p.pair.2
theorem Zy.is{n:Nat}{w:F}{v:H}{p:Ck}(h:Zy n w v p):UY w v p:=by
 obtain⟨base,vs,vk,vv,rfl,_,_,h1,h2,h3⟩:=h;exact⟨vs,vk,vv,rfl,h1.list,h2.1,h3.1⟩
theorem Su{base:Nat}{w W w1:F}{v:H}{l:List kZ}(h:L w W G)(ho:JX base W v l)(hb:w.heap.size<=base)(hg:L W w1 v.ownBlock):L w w1 G:=⟨hg.os.trans h.os,hg.tape.trans h.tape,hg.output.trans h.output,tQ h.size hg.size,fun i hi hn=>(hg.block i (tH hi h.size) (fun e=>by
 have:=(ho.lt i e.symm).1;omega)).trans (h.block i hi hn)⟩
theorem OY:(O.info? 128).map (fun i=>(i.zero,i.size,i.bytes))=I (I (sW #[tA tD 0,tP N,J G 0 0]),3,40):=by
 kernel_rfl
theorem Rx{w:F}{o:rM}{a:Act}{K:Act->F->Prop}{Q:Exit->Act->F->Prop}(s x:rJ)(ho:o.op=.call {callee:=.builtin .append,args:=#[s,x],argTypes:=#[40,40]})(base:Nat)(v:H)(l:List kZ)(hs:a.eval s=v)(hown:JX base w v l)(vo:H)(p:kZ)(hk:X5 w vo p.other)(nb:Nat)(hb:∀j u,[tA tD p.bit,tP p.right,vo][j]?=I u->w.cell? ⟨nb,j,G⟩=I u)(hx:a.eval x=J (I ⟨nb,0,G⟩) 1 1)(hl:(l.length+1)*40<=140737488355328)(hbase:base<=w.heap.size)(h:∀v' w',JX base w' v' (l++[p])->L w w' v.ownBlock->K (a.put o.dst v') w'):o.wp O a w K Q:=by
 obtain⟨i0,hi,hz0,hz1,hz2⟩:=r7 OY;have hrow:=hown.row;obtain⟨us,hul,hr,hp,_⟩:=hown;refine wp_append_own w s x 40 ho base 128 i0 (sW #[tA tD 0,tP N,J G 0 0]) 3 40 Tryz.underlying40 hi hz0 hz1 hz2 rfl (by decide) v l.length (Us us) hs hr ⟨nb,0,G⟩ 1 1 (Us [(p,vo)]) hx rfl ?_ ?_ (by unfold pL;omega) hl hbase ?_;·intro j u hj;rw[Z4,sS];exact hb j u (by simpa[Us]using hj)
 ·intro u hu;exact Ww _ u hu fun y hy=>by simp at hy;subst hy;exact EO hk
 ·intro v' w' h1 h2 _;refine h _ w' ⟨us++[(p,vo)],by simp[hul],?_,?_,fun e=>by simp at e⟩ h2;(·rw[Dn,tC];exact h1);·intro y hy;rcases tX.1 hy with hy|hy;(·exact(hp y hy).kept h2 hrow);·simp at hy;subst hy;exact hk.kept h2 hrow
theorem kP{w:F}{ops:Array rM}{rest:List rM}{o:rM}{a:Act}{Q:Exit->Act->F->Prop}(hgd:o.guard=G)(s x:rJ)(ho:o.op=.call {callee:=.builtin .append,args:=#[s,x],argTypes:=#[40,40]})(base:Nat)(v:H)(l:List kZ)(hs:a.eval s=v)(hown:JX base w v l)(vo:H)(p:kZ)(hk:X5 w vo p.other)(nb:Nat)(hb:∀j u,[tA tD p.bit,tP p.right,vo][j]?=I u->w.cell? ⟨nb,j,G⟩=I u)(hx:a.eval x=J (I ⟨nb,0,G⟩) 1 1)(hl:(l.length+1)*40<=140737488355328)(hbase:base<=w.heap.size)(h:∀v' w',JX base w' v' (l++[p])->L w w' v.ownBlock->wpList O ops Q rest (a.put o.dst v') w'):wpList O ops Q (o::rest) a w:=wpList_plain hgd fun _ hK=>Rx s x ho base v l hs hown vo p hk nb hb hx hl hbase fun v' w' h1 h2=>hK _ _ (h v' w' h1 h2)
theorem Wy{w:F}{nb:Nat}{p:kZ}{vo:H}{t:sC}(h:w.heap[nb]?=I (Y #[tA tD p.bit,tP p.right,vo] t)):∀j u,[tA tD p.bit,tP p.right,vo][j]?=I u->w.cell? ⟨nb,j,G⟩=I u:=by
 intro j u hj;simp[tZ,h];simpa using hj
def gK:H->Nat|J _ n _=>n|_=>0
def Pp(t:sC):Prop:=t=105∨t=46∨t=188∨t=33∨t=3
def LH(B:Nat)(w:F)(i:Nat):Prop:=i<B∨∀cs t fz,w.heap[i]?=I (Y cs t fz)->(¬Pp t∨∃q,cs[0]?=I (tA pE q))
structure Kp (B : Nat) (w w' : F) : Prop where
  os : w'.os = w.os
  tape : w'.tape = w.tape
  output : w'.output = w.output
  size : w.heap.size <= w'.heap.size
  keep : ∀ i, i < w.heap.size -> LH B w i -> w'.heap[i]? = w.heap[i]?
theorem Kp.refl(B:Nat)(w:F):Kp B w w:=⟨rfl,rfl,rfl,tW _,fun _ _ _=>rfl⟩
theorem LH.same{B:Nat}{w w':F}{i:Nat}(h:LH B w i)(e:w'.heap[i]?=w.heap[i]?):LH B w' i:=by
 rcases h with h|h;·exact .inl h
 ·exact .inr fun cs t fz hc=>h cs t fz (by rw[<-e];exact hc)
theorem Kp.trans{B:Nat}{w w1 w2:F}(h:Kp B w w1)(k:Kp B w1 w2):Kp B w w2:=⟨k.os.trans h.os,k.tape.trans h.tape,k.output.trans h.output,tQ h.size k.size,fun i hi hs=>by
 have e:=h.keep i hi hs;exact(k.keep i (tH hi h.size) (hs.same e)).trans e⟩
theorem Kp.grown{B:Nat}{w w':F}(h:L w w' G):Kp B w w':=⟨h.os,h.tape,h.output,h.size,fun i hi _=>h.block i hi (by
 simp)⟩
theorem Kp.turn{B:Nat}{w w':F}{g:Nat}{cs:Array H}{t:sC}{fz:Nat×Nat}(h:L w w' (I g))(hB:B<=g)(hb:w.heap[g]?=I (Y cs t fz))(ht:Pp t)(h0:∀q,cs[0]?≠I (tA pE q)):Kp B w w':=⟨h.os,h.tape,h.output,h.size,fun i hi hs=>by
 refine h.block i hi fun e=>?_;cases e;rcases hs with hs|hs;·omega
 ·rcases hs cs t fz hb with h1|⟨q,h1⟩;(·exact h1 ht);·exact h0 q h1⟩
theorem Kp.low{B:Nat}{w w':F}(h:Kp B w w')(w0:F)(hg:L w0 w G)(hB:w0.heap.size<=B):L w0 w' G:=⟨h.os.trans hg.os,h.tape.trans hg.tape,h.output.trans hg.output,tQ hg.size h.size,fun i hi hn=>(h.keep i (tH hi hg.size) (.inl (by
 omega))).trans (hg.block i hi hn)⟩
def Vi(t:sC):Prop:=t=5∨t=42∨t=84∨t=179∨t=198∨t=128
def zR(t:sC):Prop:=¬Vi t
theorem Pp.two{t:sC}(h:Pp t):zR t:=by
 rcases h with rfl|rfl|rfl|rfl|rfl<;>simp[zR,Vi]
def M8(B:Nat)(w:F)(i:Nat):Prop:=i<B∨∀cs t fz,w.heap[i]?=I (Y cs t fz)->(¬zR t∨∃q,cs[0]?=I (tA pE q))
structure BZ (B : Nat) (w w' : F) : Prop where
  os : w'.os = w.os
  tape : w'.tape = w.tape
  output : w'.output = w.output
  size : w.heap.size <= w'.heap.size
  keep : ∀ i, i < w.heap.size -> M8 B w i -> w'.heap[i]? = w.heap[i]?
theorem Kp.two{B C:Nat}{w w':F}(h:Kp B w w')(hC:C<=B):BZ C w w':=⟨h.os,h.tape,h.output,h.size,fun i hi hs=>h.keep i hi (by
 rcases hs with hs|hs;·exact .inl (tH hs hC)
 ·exact .inr fun cs t fz hc=>(hs cs t fz hc).imp (fun h1 h2=>h1 h2.two) id)⟩
theorem BZ.refl(B:Nat)(w:F):BZ B w w:=⟨rfl,rfl,rfl,tW _,fun _ _ _=>rfl⟩
theorem M8.same{B:Nat}{w w':F}{i:Nat}(h:M8 B w i)(e:w'.heap[i]?=w.heap[i]?):M8 B w' i:=by
 rcases h with h|h;·exact .inl h
 ·exact .inr fun cs t fz hc=>h cs t fz (by rw[<-e];exact hc)
theorem BZ.trans{B:Nat}{w w1 w2:F}(h:BZ B w w1)(k:BZ B w1 w2):BZ B w w2:=⟨k.os.trans h.os,k.tape.trans h.tape,k.output.trans h.output,tQ h.size k.size,fun i hi hs=>by
 have e:=h.keep i hi hs;exact(k.keep i (tH hi h.size) (hs.same e)).trans e⟩
theorem BZ.grown{B:Nat}{w w':F}(h:L w w' G):BZ B w w':=⟨h.os,h.tape,h.output,h.size,fun i hi _=>h.block i hi (by
 simp)⟩
def L0(w:F)(i:Nat):Prop:=∀cs t fz,w.heap[i]?=I (Y cs t fz)->(Vi t∨t=46∨∃q,cs[0]?=I (tA pE q))
structure KL (w w' : F) : Prop where
  os : w'.os = w.os
  tape : w'.tape = w.tape
  output : w'.output = w.output
  size : w.heap.size <= w'.heap.size
  keep : ∀ i, i < w.heap.size -> L0 w i -> w'.heap[i]? = w.heap[i]?
theorem KL.two{w w':F}(h:KL w w'):BZ 0 w w':=⟨h.os,h.tape,h.output,h.size,fun i hi hs=>h.keep i hi fun cs t fz hc=>by
 rcases hs with hs|hs;·omega
 ·rcases hs cs t fz hc with h1|h1;(·exact .inl (sX h1));·exact .inr (.inr h1)⟩
theorem KL.refl(w:F):KL w w:=⟨rfl,rfl,rfl,tW _,fun _ _ _=>rfl⟩
theorem L0.same{w w':F}{i:Nat}(h:L0 w i)(e:w'.heap[i]?=w.heap[i]?):L0 w' i:=fun cs t fz hc=>h cs t fz (by
 rw[<-e];exact hc)
theorem KL.trans{w w1 w2:F}(h:KL w w1)(k:KL w1 w2):KL w w2:=⟨k.os.trans h.os,k.tape.trans h.tape,k.output.trans h.output,tQ h.size k.size,fun i hi hs=>by
 have e:=h.keep i hi hs;exact(k.keep i (tH hi h.size) (hs.same e)).trans e⟩
theorem KL.grown{w w':F}(h:L w w' G):KL w w':=⟨h.os,h.tape,h.output,h.size,fun i hi _=>h.block i hi (by
 simp)⟩
theorem KL.turn{w w':F}{row:Option Nat}(h:L w w' row)(hr:∀g,row=I g->∃cs t fz,w.heap[g]?=I (Y cs t fz)∧¬Vi t∧t≠46∧∀q,cs[0]?≠I (tA pE q)):KL w w':=⟨h.os,h.tape,h.output,h.size,fun i hi hs=>by
 refine h.block i hi fun e=>?_;obtain⟨cs,t,fz,hb,h1,h2,h3⟩:=hr i e.symm;rcases hs cs t fz hb with h4|h4|⟨q,h4⟩;·exact h1 h4
 ·exact h2 h4
 ·exact h3 q h4⟩
def Y6(w:F)(P:F->Prop):Prop:=∀w',KL w w'->P w'
theorem Y6.now{w:F}{P:F->Prop}(h:Y6 w P):P w:=h w (KL.refl w)
theorem Y6.later{w w':F}{P:F->Prop}(h:Y6 w P)(k:KL w w'):Y6 w' P:=fun w2 k2=>h w2 (k.trans k2)
theorem Y6.grown{w w':F}{P:F->Prop}(h:Y6 w P)(k:L w w' G):Y6 w' P:=h.later (KL.grown k)
def Jf(w:F)(P:F->Prop):Prop:=∀w',L w w' G->P w'
theorem Jf.now{w:F}{P:F->Prop}(h:Jf w P):P w:=h w (Qb w G)
theorem Jf.grown{w w':F}{P:F->Prop}(h:Jf w P)(k:L w w' G):Jf w' P:=fun w2 k2=>h w2 (Qa k k2)
def Ze(B:Nat)(w:F)(P:F->Prop):Prop:=∀w',BZ B w w'->P w'
theorem Ze.now{B:Nat}{w:F}{P:F->Prop}(h:Ze B w P):P w:=h w (BZ.refl B w)
theorem Ze.later{B C:Nat}{w w':F}{P:F->Prop}(h:Ze C w P)(k:Kp B w w')(hC:C<=B:=by
 first|exact Nat.zero_le _|exact Nat.le_refl _):Ze C w' P:=fun w2 k2=>h w2 ((k.two hC).trans k2)
theorem Ze.later2{C:Nat}{w w':F}{P:F->Prop}(h:Ze C w P)(k:BZ C w w'):Ze C w' P:=fun w2 k2=>h w2 (k.trans k2)
theorem Ze.grown{C:Nat}{w w':F}{P:F->Prop}(h:Ze C w P)(k:L w w' G):Ze C w' P:=h.later2 (BZ.grown k)
theorem Ze.mono{B:Nat}{w:F}{P Q:F->Prop}(h:Ze B w P)(k:∀w',P w'->Q w'):Ze B w Q:=fun w' h'=>k w' (h w' h')
theorem Vy{w w':F}{v:H}{bs:List UInt8}(h:Qe w v bs)(hb:bs=[]∨∃b,v.ownBlock=I b∧w'.heap[b]?=w.heap[b]?):Qe w' v bs:=by
 obtain⟨a,cap,rfl,hc,h⟩:=h;refine⟨a,cap,rfl,hc,?_⟩;rcases h with h|⟨b,o,rfl,h⟩;·exact .inl h
 ·refine .inr ⟨b,o,rfl,fun i hi=>?_⟩;rcases hb with rfl|⟨b',e,hb⟩;(·simp at hi);·simp[pO]at e;subst e;rw[sP hb];exact h i hi
theorem lO:¬zR 5:=by
 simp[zR,Vi]
theorem Z5{B:Nat}{w:F}{v:H}{bs:List UInt8}(h:Qi 0 w v bs):Ze B w (fun w=>Qi 0 w v bs):=fun w' k=>by
 obtain⟨h1,h2⟩:=h;rcases h2 with h2|⟨b,e,hl,h2⟩;·exact⟨Vy h1 (.inl h2),.inl h2⟩
 ·(obtain⟨cur,fz,h2⟩:∃cur fz,w.heap[b]?=I (Y cur 5 fz):=by rcases h2 with h2|h2;(·omega);·exact h2);have hs:w'.heap[b]?=w.heap[b]?:=k.keep b hl (.inr fun cs t f hc=>.inl (by rw[h2]at hc;simp only[tB,sB]at hc;rw[<-hc.2.1];exact lO));exact⟨Vy h1 (.inr ⟨b,e,hs⟩),.inr ⟨b,e,tH hl k.size,.inr ⟨cur,fz,by rw[hs];exact h2⟩⟩⟩
theorem Gw{B:Nat}{w:F}{v:H}{bs:List UInt8}(h:X5 w v bs):Ze B w (fun w=>X5 w v bs):=fun w' k=>by
 obtain⟨h1,h2⟩:=h;rcases h2 with h2|⟨b,e,hl,cur,t,fz,h2,h3⟩;·exact⟨Vy h1 (.inl h2),.inl h2⟩
 ·have hs:w'.heap[b]?=w.heap[b]?:=k.keep b hl (.inr fun cs t' f hc=>by rw[h2]at hc;simp only[tB,sB]at hc;obtain⟨rfl,rfl,_⟩:=hc;rcases h3 with rfl|h3;(·exact .inl lO);·exact .inr h3);exact⟨Vy h1 (.inr ⟨b,e,hs⟩),.inr ⟨b,e,tH hl k.size,cur,t,fz,by rw[hs];exact h2,h3⟩⟩
theorem UW{B base:Nat}{w:F}{t:sC}{n m:Nat}{v:H}{xs:List H}(h:w.ownsRow base t n v m xs)(ht:¬zR t):Ze B w (fun w=>w.ownsRow base t n v m xs):=fun w' k=>by
 refine⟨h.1,?_⟩;rcases h.2with h|⟨g,cap,cur,e,hb,hg,rest⟩;·exact .inl h
 ·refine .inr ⟨g,cap,cur,e,hb,?_,rest⟩;rw[k.keep g (tJ.1 hg).1 (.inr fun cs t' f hc=>.inl (by rw[hg]at hc;simp only[tB,sB]at hc;rw[<-hc.2.1];exact ht))];exact hg
theorem Sh{B rb:Nat}{w:F}{v:H}{l:List Rd}(h:ZQ rb 0 w v l):Ze B w (fun w=>ZQ rb 0 w v l):=fun w' k=>by
 obtain⟨us,h1,h2,h3⟩:=h;exact⟨us,h1,UW h2 (by simp[zR,Vi]) w' k,fun x hx=>⟨Z5 (h3 x hx).1 w' k,Z5 (h3 x hx).2.1 w' k,Z5 (h3 x hx).2.2 w' k⟩⟩
theorem Au{B rb:Nat}{w:F}{v:H}{l:List Zh}(h:Q4 rb 0 w v l):Ze B w (fun w=>Q4 rb 0 w v l):=fun w' k=>by
 obtain⟨us,h1,h2,h3⟩:=h;exact⟨us,h1,UW h2 (by simp[zR,Vi]) w' k,fun x hx=>⟨Z5 (h3 x hx).1 w' k,Z5 (h3 x hx).2.1 w' k,Z5 (h3 x hx).2.2 w' k⟩⟩
theorem VB{B:Nat}{w:F}{v:H}{l:PL}(h:QN 0 w v l):Ze B w (fun w=>QN 0 w v l):=fun w' k=>by
 obtain⟨a,cap,rfl,hc,h⟩:=h;refine⟨a,cap,rfl,hc,?_⟩;rcases h with h|⟨b,o,rfl,hb,h⟩;·exact .inl h
 ·(obtain⟨cur,fz,hb⟩:∃cur fz,w.heap[b]?=I (Y cur 42 fz):=by rcases hb with hb|hb;(·omega);·exact hb);have hs:w'.heap[b]?=w.heap[b]?:=k.keep b (tJ.1 hb).1 (.inr fun cs t f hc=>.inl (by rw[hb]at hc;simp only[tB,sB]at hc;rw[<-hc.2.1];simp[zR,Vi]));refine .inr ⟨b,o,rfl,.inr ⟨cur,fz,by rw[hs];exact hb⟩,fun i hi=>?_⟩;obtain⟨vk,vv,c1,c2,h1,h2⟩:=h i hi;exact⟨vk,vv,by rw[sP hs];exact c1,by rw[sP hs];exact c2,Z5 h1 w' k,Z5 h2 w' k⟩
theorem AJ{B rb:Nat}{w:F}{v:H}{l:FL}(h:ZC rb w v l):Ze B w (fun w=>ZC rb w v l):=fun w' k=>by
 obtain⟨vs,h1,h2,h3⟩:=h;exact⟨vs,h1,UW h2 (by simp[zR,Vi]) w' k,fun i hi=>⟨Z5 (h3 i hi).1 w' k,VB (h3 i hi).2 w' k⟩⟩
theorem Er{B:Nat}{w:F}{v:H}{l:List Zh}(h:Xr 0 w v l):Ze B w (fun w=>Xr 0 w v l):=fun w' k=>by
 obtain⟨a,cap,rfl,hc,h⟩:=h;refine⟨a,cap,rfl,hc,?_⟩;rcases h with h|⟨b,o,rfl,hb,h⟩;·exact .inl h
 ·(obtain⟨cur,fz,hb⟩:∃cur fz,w.heap[b]?=I (Y cur 179 fz):=by rcases hb with hb|hb;(·omega);·exact hb);have hs:w'.heap[b]?=w.heap[b]?:=k.keep b (tJ.1 hb).1 (.inr fun cs t f hc=>.inl (by rw[hb]at hc;simp only[tB,sB]at hc;rw[<-hc.2.1];simp[zR,Vi]));refine .inr ⟨b,o,rfl,.inr ⟨cur,fz,by rw[hs];exact hb⟩,fun i hi=>?_⟩;obtain⟨vn,vk,vv,c1,c2,c3,c4,h1,h2,h3⟩:=h i hi;exact⟨vn,vk,vv,by rw[sP hs];exact c1,by rw[sP hs];exact c2,by rw[sP hs];exact c3,by rw[sP hs];exact c4,Z5 h1 w' k,Z5 h2 w' k,Z5 h3 w' k⟩
theorem yP{B:Nat}{w:F}{v:H}{t:Tx}(h:GQ w v t):Ze B w (fun w=>GQ w v t):=fun w' k=>by
 obtain⟨vr,vw,rfl,h1,h2⟩:=h;exact⟨vr,vw,rfl,Sh h1 w' k,Au h2 w' k⟩
theorem SU{B base:Nat}{w:F}{v:H}{l:List kZ}(h:JX base w v l):Ze B w (fun w=>JX base w v l):=fun w' k=>by
 obtain⟨us,h1,h2,h3,h4⟩:=h;exact⟨us,h1,UW h2 (by simp[zR,Vi]) w' k,fun x hx=>Gw (h3 x hx) w' k,h4⟩
theorem yB{B n:Nat}{w:F}{v:H}{p:Ck}(h:Zy n w v p):Ze B w (fun w=>UY w v p):=fun w' k=>by
 obtain⟨base,vs,vk,vv,rfl,_,_,h1,h2,h3⟩:=h;exact⟨vs,vk,vv,rfl,(SU h1 w' k).list,(Gw h2 w' k).1,(Gw h3 w' k).1⟩
section
section
variable{α:Type}{T:sC}{k:Nat}{P:F->List H->α->Prop}{B:Nat}{w w':F}{v:H}{l:List α}
def JL(T:sC)(k:Nat)(P:F->List H->α->Prop)(B:Nat)(w:F)(v:H)(l:List α):Prop:=∃us:List (List H×α),us.map (·.2)=l∧w.ownsRow B T k v l.length (us.flatMap (·.1))∧(l=[]->v=J G 0 0)∧∀x∈us,x.1.length=k∧(∀u∈x.1,u.oneCell'=M)∧(∀q,x.1[0]?≠I (tA pE q))∧Ze 0 w (fun w=>P w x.1 x.2)
theorem vN(T:sC)(k:Nat)(P:F->List H->α->Prop)(B:Nat)(w:F):JL T k P B w (J G 0 0) []:=⟨[],rfl,sQ _ _ _ _,fun _=>rfl,fun x hx=>by
 simp at hx⟩
theorem JL.kept(h:JL T k P B w v l)(hk:Kp B w w')(hs:∀g,v.ownBlock=I g->w'.heap[g]?=w.heap[g]?):JL T k P B w' v l:=by
 obtain⟨us,h1,h2,h3,h4⟩:=h;refine⟨us,h1,⟨h2.1,?_⟩,h3,fun x hx=>⟨(h4 x hx).1,(h4 x hx).2.1,(h4 x hx).2.2.1,(h4 x hx).2.2.2.later hk⟩⟩;rcases h2.2with h|⟨g,cap,cur,rfl,hb,hg,rest⟩;·exact .inl h
 ·exact .inr ⟨g,cap,cur,rfl,hb,by rw[hs g rfl];exact hg,rest⟩
theorem JL.kept2(h:JL T k P B w v l)(hk:BZ 0 w w')(hs:∀g,v.ownBlock=I g->w'.heap[g]?=w.heap[g]?):JL T k P B w' v l:=by
 obtain⟨us,h1,h2,h3,h4⟩:=h;refine⟨us,h1,⟨h2.1,?_⟩,h3,fun x hx=>⟨(h4 x hx).1,(h4 x hx).2.1,(h4 x hx).2.2.1,(h4 x hx).2.2.2.later2 hk⟩⟩;rcases h2.2with h|⟨g,cap,cur,rfl,hb,hg,rest⟩;·exact .inl h
 ·exact .inr ⟨g,cap,cur,rfl,hb,by rw[hs g rfl];exact hg,rest⟩
theorem JL.lt(h:JL T k P B w v l):∀g,v.ownBlock=I g->B<=g∧g<w.heap.size:=by
 obtain⟨us,h1,h2,h3,h4⟩:=h;exact sK h2
theorem JL.grown(h:JL T k P B w v l)(hg:L w w' G):JL T k P B w' v l:=h.kept (Kp.grown hg) fun g e=>hg.block g (h.lt g e).2 (by
 simp)
theorem JL.shape(h:JL T k P B w v l):∃a cap,v=J a l.length cap:=by
 obtain⟨us,_,h,_⟩:=h;rcases h.2with⟨rfl,h0⟩|⟨g,cap,cur,rfl,_⟩;·exact⟨G,0,by rw[h0]⟩
 ·exact⟨_,cap,rfl⟩
theorem LX{k:Nat}:∀(us:List (List H×α))(_:∀x∈us,x.1.length=k)(i:Nat)(hi:i<us.length)(j:Nat),j<k->(us.flatMap (·.1))[i*k+j]?=us[i].1[j]?|[],_,i,hi,_,_=>by simp at hi|x::us,hk,0,_,j,hj=>by have:=hk x (by simp);simp[pS (show j<x.1.length by omega)]|x::us,hk,i+1,hi,j,hj=>by have hx:=hk x (by simp);have:=LX us (fun y hy=>hk y (by simp[hy])) i (by simpa using hi) j hj;rw[tN,List.getElem?_append_right (by rw[hx,pA];omega),hx,show(i+1)*k+j-k=i*k+j by rw[pA];omega,this];simp
theorem JL.blk(hk0:0<k)(h:JL T k P B w v l):v.ownBlock=G∨∃g cs,v.ownBlock=I g∧B<=g∧w.heap[g]?=I (Y cs T (0,0))∧∀q,cs[0]?≠I (tA pE q):=by
 obtain⟨us,h1,h2,h3,h4⟩:=h;rcases h2.2with⟨rfl,_⟩|⟨g,cap,cur,rfl,hb,hg,hn,_,hcs,ht⟩;·exact .inl rfl
 ·refine .inr ⟨g,cur,rfl,hb,hg,fun q hq=>?_⟩;cases us with|nil=>subst h1;have:=h3 rfl;cases this|cons x us=>(have hl:l.length=us.length+1:=by rw[<-h1];simp);(have e:(cur.toList.take (l.length*k))[0]?=((x::us).flatMap (·.1))[0]?:=by rw[ht]);have hx:=(h4 x (by simp)).1;rw[sH,if_pos (by rw[hl,pA];omega),tN,pS (by omega),pB,hq]at e;exact(h4 x (by simp)).2.2.1 q e.symm
theorem JL.turn(hk0:0<k)(hT:Pp T)(h:JL T k P B w v l)(hg:L w w' v.ownBlock):Kp B w w':=by
 rcases h.blk hk0 with e|⟨g,cs,e,hb,hc,h0⟩;·rw[e]at hg;exact Kp.grown hg
 ·rw[e]at hg;exact Kp.turn hg hb hc hT h0
theorem JL.other(hk0:0<k)(h:JL T k P B w v l){row:Option Nat}(hk:Kp B w w')(hg:L w w' row)(hr:row=G∨∃g cs t fz,row=I g∧w.heap[g]?=I (Y cs t fz)∧t≠T):JL T k P B w' v l:=by
 refine h.kept hk fun g e=>?_;refine hg.block g (h.lt g e).2 fun e2=>?_;rcases hr with rfl|⟨g',cs,t,fz,rfl,hc,ht⟩;·cases e2
 ·cases e2;rcases h.blk hk0 with e3|⟨g2,cs2,e3,_,hc2,_⟩;(·rw[e3]at e;cases e);·rw[e3]at e;cases e;rw[hc]at hc2;simp only[tB,sB]at hc2;exact ht hc2.2.1
theorem JL.at(h:JL T k P B w v l)(d:α)(i:Nat)(hi:i<l.length):∃g cap cs,v=J (I ⟨g,0,G⟩) l.length cap∧cs.length=k∧l.length<=cap∧(∀j,j<k->w.cell? ⟨g,i*k+j,G⟩=cs[j]?)∧Ze 0 w (fun w=>P w cs (l.getD i d)):=by
 obtain⟨us,h1,h2,h3,h4⟩:=h;have hul:us.length=l.length:=by rw[<-h1];simp
 rcases h2.2with⟨rfl,h0⟩|⟨g,cap,cur,rfl,hb,hg,hn,_,hcs,ht⟩;·omega
 ·have hx:=h4 us[i] (sU (by omega));refine⟨g,cap,us[i].1,rfl,hx.1,hn,fun j hj=>?_,?_⟩;(·(have e:(cur.toList.take (l.length*k))[i*k+j]?=(us.flatMap (·.1))[i*k+j]?:=by rw[ht]);(have hlt:i*k+j<l.length*k:=by have:(i+1)*k<=l.length*k:=pG k hi;rw[pA]at this;omega);rw[LX us (fun x hx=>(h4 x hx).1) i (by omega) j hj,sH,if_pos hlt,pB]at e;simp[tZ,hg,e]);·(have e:l.getD i d=us[i].2:=by subst h1;simp[List.getD,show i<us.length by omega]);rw[e];exact hx.2.2.2
theorem yA{o:rM}{a:Act}{K:Act->F->Prop}{Q:Exit->Act->F->Prop}(s x:rJ)(t:sC)(ho:o.op=.call {callee:=.builtin .append,args:=#[s,x],argTypes:=#[t,t]})(i:TypeInfo)(z:H)(bytes:Nat)(ht:O.underlying t=I (.slice T))(hi:O.info? T=I i)(hz:i.zero=I z)(hsize:i.size=k)(hby:i.bytes=bytes)(hzs:z.cells.size=k)(hsz:0<k)(hT:Pp T)(hs:a.eval s=v)(hown:JL T k P B w v l)(nb:Nat)(cs:List H)(y:α)(hx:a.eval x=J (I ⟨nb,0,G⟩) 1 1)(hcl:cs.length=k)(hc:∀j u,cs[j]?=I u->w.cell? ⟨nb,j,G⟩=I u)(h1:∀u∈cs,u.oneCell'=M)(h0:∀q,cs[0]?≠I (tA pE q))(hP:Ze 0 w (fun w=>P w cs y))(h63:l.length+1<=pL)(hbytes:(l.length+1)*bytes<=140737488355328)(hbase:B<=w.heap.size)(h:∀v' w',JL T k P B w' v' (l++[y])->Kp B w w'->L w w' v.ownBlock->K (a.put o.dst v') w'):o.wp O a w K Q:=by
 have hown0:=hown;obtain⟨us,e1,h2,h3,h4⟩:=hown;refine wp_append_lies w s x t ho B T i z k bytes ht hi hz hsize hby hzs hsz v l.length (us.flatMap (·.1)) hs h2 ⟨nb,0,G⟩ 1 1 cs hx (by omega) (fun j u hj=>by rw[Z4,sS];exact hc j u hj) h1 (by omega) h63 hbytes hbase _ rfl ?_;intro g cap w' hr hg hgg hlt;have hk:=hown0.turn hsz hT hg;refine h _ w' ⟨us++[(cs,y)],by simp[e1],?_,fun e=>by simp at e,fun x hx=>?_⟩ hk hg;·simpa[List.flatMap_append]using hr
 ·rcases tX.1 hx with hx|hx;(·exact⟨(h4 x hx).1,(h4 x hx).2.1,(h4 x hx).2.2.1,(h4 x hx).2.2.2.later hk⟩);·(obtain rfl:x=(cs,y):=by simpa using hx);exact⟨hcl,h1,h0,hP.later hk⟩
theorem JL.take(h:JL T k P B w v l){a:Option rI}{n cap:Nat}(hv:v=J a n cap)(m:Nat)(hm:m<=l.length)(h0:0<m):JL T k P B w (J a m cap) (l.take m):=by
 subst hv;obtain⟨us,h1,h2,h3,h4⟩:=h;have hul:us.length=l.length:=by rw[<-h1];simp
 have hlm:(l.take m).length=m:=by simp;omega
 rcases h2.2with⟨e,h0'⟩|⟨g,cp,cur,e,hb,hg,hn,hmx,hcs,ht⟩;·omega
 ·simp only[tI]at e;obtain⟨rfl,rfl,rfl⟩:=e;(have hfl:(us.take m).flatMap (·.1)=(us.flatMap (·.1)).take (m*k):=by(have hk:∀(vs:List (List H×α)),(∀x∈vs,x.1.length=k)->∀m,(vs.take m).flatMap (·.1)=(vs.flatMap (·.1)).take (m*k):=by intro vs;induction vs with|nil=>intro _ m;simp|cons x vs ih=>intro hx m;cases m with|zero=>simp|succ m=>have:=hx x (by simp);rw[rK,tN,tN,ih (fun y hy=>hx y (by simp[hy])) m,List.take_append,this,pA,show m*k+k-k=m*k by omega,pT (l:=x.1) (by omega)]);exact hk us (fun x hx=>(h4 x hx).1) m);refine⟨us.take m,by rw[<-h1,List.map_take],⟨?_,.inr ⟨g,cap,cur,by rw[hlm],hb,hg,by omega,hmx,hcs,?_⟩⟩,fun e=>?_,fun x hx=>h4 x (List.mem_of_mem_take hx)⟩;(·rw[hfl,rG,h2.1,hlm];have:m*k<=l.length*k:=pG k hm;omega);(·rw[hlm,hfl,<-ht,pD];have:m*k<=l.length*k:=pG k hm;rw[rV this]);·rw[e]at hlm;simp at hlm;omega
end
end
theorem Fr:(188:Nat)≠5:=by
 decide
theorem jL:(188:Nat)≠179:=by
 decide
def Cn(w:F)(b o:Nat)(c:XF):Prop:=∃vs,w.cell? ⟨b,o,G⟩=I (tA tD c.turn)∧w.cell? ⟨b,o+1,G⟩=I vs∧QQ w vs c.writes
theorem Cn.grown{w w':F}{b o:Nat}{c:XF}(h:Cn w b o c)(hg:L w w' G):Cn w' b o c:=by
 obtain⟨vs,c1,c2,h⟩:=h;exact⟨vs,hg.cell c1 (by simp),hg.cell c2 (by simp),h.grown hg⟩
def Jd(w:F)(v:H)(l:List XF):Prop:=∃a cap,v=J a l.length cap∧l.length<=cap∧((l=[]∧(a=G->cap=0))∨∃b o,a=I ⟨b,o,G⟩∧∀i,i<l.length->Cn w b (o+i*2) (l.getD i Zm))
theorem EG(w:F):Jd w (J G 0 0) []:=⟨G,0,rfl,tW _,.inl ⟨rfl,fun _=>rfl⟩⟩
theorem Jd.shape{w:F}{v:H}{l:List XF}(h:Jd w v l):∃a cap,v=J a l.length cap:=by
 obtain⟨a,cap,rfl,_⟩:=h;exact⟨a,cap,rfl⟩
theorem Jd.grown{w w':F}{v:H}{l:List XF}(h:Jd w v l)(hg:L w w' G):Jd w' v l:=by
 obtain⟨a,cap,rfl,hc,h⟩:=h;refine⟨a,cap,rfl,hc,?_⟩;rcases h with h|⟨b,o,rfl,h⟩;·exact .inl h
 ·exact .inr ⟨b,o,rfl,fun i hi=>(h i hi).grown hg⟩
theorem Jd.at{w:F}{a:Option rI}{n cap:Nat}{l:List XF}(h:Jd w (J a n cap) l)(i:Nat)(hi:i<l.length):∃b o,a=I ⟨b,o,G⟩∧Cn w b (o+i*2) (l.getD i Zm):=by
 obtain⟨a',cap',e,hc,h⟩:=h;simp only[tI]at e;obtain⟨rfl,rfl,rfl⟩:=e;rcases h with⟨rfl,_⟩|⟨b,o,rfl,h⟩;·simp at hi
 ·exact⟨b,o,rfl,h i hi⟩
structure Av (l : List XF) : Prop where
  many : l.length * 32 <= 140737488355328
  each : ∀ i, i < l.length -> NW (l.getD i Zm)
abbrev CV:=XF×H
def jV(us:List CV):List H:=us.flatMap fun x=>[tA tD x.1.turn,x.2]
theorem Mv(a b:List CV):jV (a++b)=jV a++jV b:=by
 simp[jV]
theorem fM:(O.info? 188).map (fun i=>(i.zero,i.size,i.bytes))=I (I (sW #[tA tD 0,J G 0 0]),2,32):=by
 kernel_rfl
def Jb(base:Nat)(w:F)(v:H)(l:List XF):Prop:=∃us:List CV,us.map (·.1)=l∧w.ownsRow base 188 2 v l.length (jV us)∧(l=[]->v=J G 0 0)∧∀x∈us,Xr 0 w x.2 x.1.writes
theorem Cr(base:Nat)(w:F):Jb base w (J G 0 0) []:=⟨[],rfl,sQ _ _ _ _,fun _=>rfl,fun x hx=>by
 simp at hx⟩
theorem Jb.row{base:Nat}{w:F}{v:H}{l:List XF}(h:Jb base w v l):v.ownBlock=G∨∃g cur t fz,v.ownBlock=I g∧base<=g∧w.heap[g]?=I (Y cur t fz)∧t≠5∧t≠179:=by
 obtain⟨us,_,h,_⟩:=h;rcases h.2with⟨rfl,_⟩|⟨g,cap,cur,rfl,hb,hg,_⟩;·exact .inl rfl
 ·exact .inr ⟨g,cur,_,_,rfl,hb,hg,Fr,jL⟩
theorem Jb.row0{base:Nat}{w:F}{v:H}{l:List XF}(h:Jb base w v l):v.ownBlock=G∨∃g cur t fz,v.ownBlock=I g∧0<=g∧w.heap[g]?=I (Y cur t fz)∧t≠5∧t≠179:=by
 rcases h.row with h|⟨g,cur,t,fz,h1,_,h2⟩;·exact .inl h
 ·exact .inr ⟨g,cur,t,fz,h1,tV _,h2⟩
theorem Jb.lt{base:Nat}{w:F}{v:H}{l:List XF}(h:Jb base w v l):∀k,v.ownBlock=I k->base<=k∧k<w.heap.size:=by
 obtain⟨us,_,h,_⟩:=h;exact sK h
theorem Jb.grownNone{base:Nat}{w w':F}{v:H}{l:List XF}(h:Jb base w v l)(hg:L w w' G):Jb base w' v l:=by
 obtain⟨us,h1,h2,h0,h3⟩:=h;refine⟨us,h1,tY h2 hg ?_,h0,fun x hx=>(h3 x hx).kept hg (.inl rfl)⟩;cases hv:v.ownBlock with|none=>exact .inl rfl|some k=>exact .inr (by simp)
theorem Jb.shape{base:Nat}{w:F}{v:H}{l:List XF}(h:Jb base w v l):∃a cap,v=J a l.length cap:=by
 obtain⟨us,_,h,_⟩:=h;rcases h.2with⟨rfl,h0⟩|⟨g,cap,cur,rfl,_⟩;·exact⟨G,0,by rw[h0]⟩
 ·exact⟨_,cap,rfl⟩
theorem A6{base:Nat}{w W w1:F}{v:H}{l:List XF}(h:L w W G)(ho:Jb base W v l)(hb:w.heap.size<=base)(hg:L W w1 v.ownBlock):L w w1 G:=⟨hg.os.trans h.os,hg.tape.trans h.tape,hg.output.trans h.output,tQ h.size hg.size,fun i hi hn=>(hg.block i (tH hi h.size) (fun e=>by
 have:=(ho.lt i e.symm).1;omega)).trans (h.block i hi hn)⟩
theorem Ec{w:F}{o:rM}{a:Act}{K:Act->F->Prop}{Q:Exit->Act->F->Prop}(s x:rJ)(ho:o.op=.call {callee:=.builtin .append,args:=#[s,x],argTypes:=#[95,95]})(base:Nat)(v:H)(l:List XF)(hs:a.eval s=v)(hown:Jb base w v l)(vw:H)(c:XF)(hw:Xr 0 w vw c.writes)(nb:Nat)(hb:w.heap[nb]?=I (Y #[tA tD c.turn,vw] 188))(hx:a.eval x=J (I ⟨nb,0,G⟩) 1 1)(hl:(l.length+1)*32<=140737488355328)(hbase:base<=w.heap.size)(h:∀v' w',Jb base w' v' (l++[c])->L w w' v.ownBlock->K (a.put o.dst v') w'):o.wp O a w K Q:=by
 obtain⟨i0,hi,hz0,hz1,hz2⟩:=r7 fM;have hrow:=hown.row0;obtain⟨us,hul,hr,_,hp⟩:=hown;refine wp_append_lies w s x 95 ho base 188 i0 (sW #[tA tD 0,J G 0 0]) 2 32 Tryz.underlying95 hi hz0 hz1 hz2 rfl (by decide) v l.length (jV us) hs hr ⟨nb,0,G⟩ 1 1 (jV [(c,vw)]) hx rfl (rC (cs:=#[tA tD c.turn,vw]) hb) ?_ (by omega) (by unfold pL;omega) hl hbase _ rfl ?_;·intro u hu;simp only[jV,tN,rH,sF,tK,tM,or_false]at hu;rcases hu with rfl|rfl;(·rfl);·exact hw.oneCell
 ·intro g cap w' q1 q2 _ _;refine h _ w' ⟨us++[(c,vw)],by simp[hul],?_,fun e=>by simp at e,?_⟩ q2;(·rw[Mv,tC];exact q1);·intro y hy;rcases tX.1 hy with hy|hy;(·exact(hp y hy).kept q2 hrow);·simp only[tK,tM,or_false]at hy;subst hy;exact hw.kept q2 hrow
theorem kK{w:F}{ops:Array rM}{rest:List rM}{o:rM}{a:Act}{Q:Exit->Act->F->Prop}(hgd:o.guard=G)(s x:rJ)(ho:o.op=.call {callee:=.builtin .append,args:=#[s,x],argTypes:=#[95,95]})(base:Nat)(v:H)(l:List XF)(hs:a.eval s=v)(hown:Jb base w v l)(vw:H)(c:XF)(hw:Xr 0 w vw c.writes)(nb:Nat)(hb:w.heap[nb]?=I (Y #[tA tD c.turn,vw] 188))(hx:a.eval x=J (I ⟨nb,0,G⟩) 1 1)(hl:(l.length+1)*32<=140737488355328)(hbase:base<=w.heap.size)(h:∀v' w',Jb base w' v' (l++[c])->L w w' v.ownBlock->wpList O ops Q rest (a.put o.dst v') w'):wpList O ops Q (o::rest) a w:=wpList_plain hgd fun _ hK=>Ec s x ho base v l hs hown vw c hw nb hb hx hl hbase fun v' w' h1 h2=>hK _ _ (h v' w' h1 h2)
theorem Jb.ne{base:Nat}{w:F}{v:H}{l:List XF}(h:Jb base w v l){b:Nat}{cs:Array H}{t:sC}{fz:Nat×Nat}(hb:w.heap[b]?=I (Y cs t fz))(ht:t≠188):v.ownBlock≠I b:=by
 intro e;obtain⟨us,_,h,_⟩:=h;rcases h.2with⟨rfl,_⟩|⟨g,cap,cur,rfl,_,hg,_⟩;·cases e
 ·cases e;rw[hb]at hg;simp only[tB,sB]at hg;exact ht hg.2.1
theorem Jb.setOther{base:Nat}{w:F}{v:H}{l:List XF}(h:Jb base w v l){b i:Nat}{cs:Array H}{t:sC}{fz:Nat×Nat}(hb:w.heap[b]?=I (Y cs t fz))(ht:t≠5)(ht2:t≠179)(ht3:t≠188)(u:H):Jb base (tG w ⟨b,i,G⟩ u) v l:=by
 have hne:=h.ne hb ht3;obtain⟨us,h1,h2,h0,h3⟩:=h;exact⟨us,h1,tY h2 (YN w b i u) (.inr hne),h0,fun x hx=>(h3 x hx).kept (YN w b i u) (.inr ⟨b,cs,t,fz,rfl,tV _,hb,ht,ht2⟩)⟩
theorem Jb.other{base:Nat}{w w':F}{v:H}{l:List XF}(h:Jb base w v l)(hg:L w w' v.ownBlock){b:Nat}{cs:Array H}{t:sC}{fz:Nat×Nat}(hb:w.heap[b]?=I (Y cs t fz))(ht:t≠188):w'.heap[b]?=I (Y cs t fz):=by
 rw[hg.block b (tJ.1 hb).1 (fun e=>h.ne hb ht e.symm)];exact hb
def Iz:Prop:=∀(w:F)(v u:H)(t:Tx)(r:Rd),GZ w v t->xH t->Yy w u r->P7 r->rA O 112 #[v,u] w fun e w'=>∃x,e=tE (sM #[x,tA tD (Xj t r)])∧GQ w' x (XW t r)∧L w w' G
theorem Qg(w:F)(o:Obj):∃W:F,Hid (W=w.alloc o)∧L w W G∧Hid (W.heap[w.heap.size]?=I o):=⟨w.alloc o,rfl,sR _ _ _,oL w o⟩
theorem Z6{x y:Int}(h:x=y):tE (tA tD y)=tE (tA tD x):=by
 rw[h]
theorem YP{x y:Bool}(h:x=y):tE (tP y)=tE (tP x):=by
 rw[h]
theorem XD{W w:F}{b:Nat}{x y z:H}{t:sC}(hg:L W w G)(h:W.heap[b]?=I (Y #[x,y,z] t)):w.cell? ⟨b,0,G⟩=I x∧w.cell? ⟨b,1,G⟩=I y∧w.cell? ⟨b,2,G⟩=I z:=by
 have hb:w.heap[b]?=I (Y #[x,y,z] t):=by rw[hg.block b (tJ.1 h).1 (by simp)];exact h
 refine⟨?_,?_,?_⟩<;>simp[tZ,hb]
def MF(p:List Rd)(r:Rd):Int:=if XG r=0then(if p.any (fun q=>XJ q r)=M then 3 else 0)else XG r
def Do(p:List Zh)(w:Zh):Int:=if QD w=0then(if p.any (fun q=>ZU q w)=M then 3 else 0)else QD w
theorem cI(l:List Rd)(m:Nat)(h:m<l.length):GY (l.take m) (l.drop m)=if MF (l.take m) (l.getD m Zg)=0then GY (l.take (m+1)) (l.drop (m+1))else MF (l.take m) (l.getD m Zg):=by
 rw[sZ h,GY,rB h,show l[m]=l.getD m Zg by simp[h]];unfold MF;by_cases h1:XG (l.getD m Zg)=0;·rw[if_pos h1,if_pos h1];by_cases h2:(l.take m).any (fun q=>XJ q (l.getD m Zg))=M;(·rw[if_pos h2,if_pos h2,if_neg (by omega)]);·rw[if_neg h2,if_neg h2,if_pos rfl]
 ·rw[if_neg h1,if_neg h1,if_neg h1]
theorem cU(l:List Zh)(m:Nat)(h:m<l.length):xR (l.take m) (l.drop m)=if Do (l.take m) (l.getD m Qr)=0then xR (l.take (m+1)) (l.drop (m+1))else Do (l.take m) (l.getD m Qr):=by
 rw[sZ h,xR,rB h,show l[m]=l.getD m Qr by simp[h]];unfold Do;by_cases h1:QD (l.getD m Qr)=0;·rw[if_pos h1,if_pos h1];by_cases h2:(l.take m).any (fun q=>ZU q (l.getD m Qr))=M;(·rw[if_pos h2,if_pos h2,if_neg (by omega)]);·rw[if_neg h2,if_neg h2,if_pos rfl]
 ·rw[if_neg h1,if_neg h1,if_neg h1]
theorem P6{α:Type}(d:α)(f:α->Bool)(l:List α)(k:Nat)(h:k<l.length):(l.take (k+1)).any f=((l.take k).any f||f (l.getD k d)):=by
 rw[rB h,List.any_append,show l[k]=l.getD k d by simp[h]];simp
theorem E6{α:Type}(d:α)(f:α->Bool)(l:List α)(k m:Nat)(hk:k<m)(hm:m<=l.length)(h:f (l.getD k d)=M):(l.take m).any f=M:=by
 rw[rF];refine⟨l.getD k d,?_,h⟩;rw[show l.getD k d=(l.take m)[k]'(by rw[rG];omega)by rw[List.getElem_take];simp[show k<l.length by omega]];exact sU _
theorem zW{w:F}{a:Option rI}{n cap:Nat}{l:List Rd}(h:Xd w (J a n cap) l)(i:Nat)(hi:i<l.length):∃b o,a=I ⟨b,o,G⟩∧∃u1 u2 u3 u4 u5 u6,(w.cell? ⟨b,o+i*4,G⟩=I (J u1 (l.getD i Zg).name.length u2)∧w.cell? ⟨b,o+i*4+1,G⟩=I (J u3 (l.getD i Zg).key.length u4)∧w.cell? ⟨b,o+i*4+2,G⟩=I (tP (l.getD i Zg).wide)∧w.cell? ⟨b,o+i*4+3,G⟩=I (J u5 (l.getD i Zg).last.length u6))∧Yy w (sW #[J u1 (l.getD i Zg).name.length u2,J u3 (l.getD i Zg).key.length u4,tP (l.getD i Zg).wide,J u5 (l.getD i Zg).last.length u6]) (l.getD i Zg):=by
 obtain⟨b,o,rfl,hat⟩:=h.at i hi;obtain⟨vn,vk,vl,c1,c2,c3,c4,s1,s2,s3⟩:=hat;obtain⟨u1,u2,rfl⟩:=s1.shape;obtain⟨u3,u4,rfl⟩:=s2.shape;obtain⟨u5,u6,rfl⟩:=s3.shape;exact⟨b,o,rfl,u1,u2,u3,u4,u5,u6,⟨c1,c2,c3,c4⟩,⟨_,_,_,rfl,s1,s2,s3⟩⟩
theorem Yh{w:F}{a:Option rI}{n cap:Nat}{l:List Zh}(h:QQ w (J a n cap) l)(i:Nat)(hi:i<l.length):∃b o,a=I ⟨b,o,G⟩∧∃u1 u2 u3 u4 u5 u6,(w.cell? ⟨b,o+i*4,G⟩=I (J u1 (l.getD i Qr).name.length u2)∧w.cell? ⟨b,o+i*4+1,G⟩=I (J u3 (l.getD i Qr).key.length u4)∧w.cell? ⟨b,o+i*4+2,G⟩=I (tP (l.getD i Qr).gone)∧w.cell? ⟨b,o+i*4+3,G⟩=I (J u5 (l.getD i Qr).value.length u6))∧Xe w (sW #[J u1 (l.getD i Qr).name.length u2,J u3 (l.getD i Qr).key.length u4,tP (l.getD i Qr).gone,J u5 (l.getD i Qr).value.length u6]) (l.getD i Qr):=by
 obtain⟨b,o,rfl,hat⟩:=h.at i hi;obtain⟨vn,vk,vl,c1,c2,c3,c4,s1,s2,s3⟩:=hat;obtain⟨u1,u2,rfl⟩:=s1.shape;obtain⟨u3,u4,rfl⟩:=s2.shape;obtain⟨u5,u6,rfl⟩:=s3.shape;exact⟨b,o,rfl,u1,u2,u3,u4,u5,u6,⟨c1,c2,c3,c4⟩,⟨_,_,_,rfl,s1,s2,s3⟩⟩
theorem Ek{x y:Bool}{a b:Int}(h:x=y)(k:a=b):tE (sM #[tP y,tA tD b])=tE (sM #[tP x,tA tD a]):=by
 rw[h,k]
theorem OR{α:Type}(f:α->Bool)(l:List α)(d:α)(i:Nat)(hi:i<l.length)(h:f (l.getD i d)=M):l.any f=M:=by
 have:=E6 d f l i l.length hi (tW _) h;rw[sI]at this;exact this
theorem zI:(100:Nat)≠5:=by
 decide
theorem jY:(100:Nat)≠198:=by
 decide
theorem G3:(100:Nat)≠179:=by
 decide
theorem ZQ.block{rb pb:Nat}{W w':F}{v:H}{l:List Rd}(ho:ZQ rb pb W v l)(hg:L W w' v.ownBlock){b:Nat}{cs:Array H}{t:sC}{fz:Nat×Nat}(h:W.heap[b]?=I (Y cs t fz))(ht:t≠198):w'.heap[b]?=I (Y cs t fz):=by
 rw[hg.block b (tJ.1 h).1 (fun e=>ho.ne h ht e.symm)];exact h
theorem Q4.block{rb pb:Nat}{W w':F}{v:H}{l:List Zh}(ho:Q4 rb pb W v l)(hg:L W w' v.ownBlock){b:Nat}{cs:Array H}{t:sC}{fz:Nat×Nat}(h:W.heap[b]?=I (Y cs t fz))(ht:t≠179):w'.heap[b]?=I (Y cs t fz):=by
 rw[hg.block b (tJ.1 h).1 (fun e=>ho.ne h ht e.symm)];exact h
theorem ZQ.keptV{rb rb':Nat}{W w':F}{v u:H}{l:List Rd}{k:List Zh}(hR:ZQ rb 0 W v l)(hV:Q4 rb' 0 W u k)(hg:L W w' u.ownBlock):ZQ rb 0 w' v l:=by
 refine hR.kept hg ?_ ?_;·rcases hR.row with h|⟨g,cur,fz,e,_,h⟩;(·exact .inl h);·refine .inr ?_;rw[e];exact fun e2=>hV.ne h (fun e=>lK e) e2.symm
 ·rcases hV.row with h|⟨g,cur,fz,e,_,h⟩;(·exact .inl h);·exact .inr ⟨g,cur,_,fz,e,tV _,h,uC⟩
theorem QK{w:F}{b:Nat}{x y z:H}{t:sC}(h:w.heap[b]?=I (Y #[x,y,z] t)):(w.cell? ⟨b,0,G⟩=I x∧w.cell? ⟨b,1,G⟩=I y∧w.cell? ⟨b,2,G⟩=I z)∧w.frozen? ⟨b,0,G⟩=N∧w.frozen? ⟨b,1,G⟩=N∧w.frozen? ⟨b,2,G⟩=N:=by
 refine⟨⟨?_,?_,?_⟩,?_,?_,?_⟩<;>simp[tZ,r8,h]
theorem U2{rb:Nat}{w wr:F}{RB:Nat}{x y z:H}{st:Int}{va ua:Option rI}{n m vc uc:Nat}{R:List Rd}{V:List Zh}(h:wr.heap[RB]?=I (Y #[x,y,z] 100))(hR:ZQ rb 0 wr (J va n vc) R)(hV:Q4 rb 0 wr (J ua m uc) V)(hg:L w wr G)(hw:w.heap.size<=RB):((((tG wr ⟨RB,0,G⟩ (tA tD st)).setCell ⟨RB,1,G⟩ (J va n vc)).setCell ⟨RB,2,G⟩ (J ua m uc)).cell? ⟨RB,0,G⟩=I (tA tD st)∧(((tG wr ⟨RB,0,G⟩ (tA tD st)).setCell ⟨RB,1,G⟩ (J va n vc)).setCell ⟨RB,2,G⟩ (J ua m uc)).cell? ⟨RB,1,G⟩=I (J va n vc)∧(((tG wr ⟨RB,0,G⟩ (tA tD st)).setCell ⟨RB,1,G⟩ (J va n vc)).setCell ⟨RB,2,G⟩ (J ua m uc)).cell? ⟨RB,2,G⟩=I (J ua m uc))∧ZQ rb 0 (((tG wr ⟨RB,0,G⟩ (tA tD st)).setCell ⟨RB,1,G⟩ (J va n vc)).setCell ⟨RB,2,G⟩ (J ua m uc)) (J va n vc) R∧Q4 rb 0 (((tG wr ⟨RB,0,G⟩ (tA tD st)).setCell ⟨RB,1,G⟩ (J va n vc)).setCell ⟨RB,2,G⟩ (J ua m uc)) (J ua m uc) V∧L w (((tG wr ⟨RB,0,G⟩ (tA tD st)).setCell ⟨RB,1,G⟩ (J va n vc)).setCell ⟨RB,2,G⟩ (J ua m uc)) G:=by
 have b1:=Qk (i:=0) (u:=tA tD st) h;have b2:=Qk (i:=1) (u:=J va n vc) b1;have b3:=Qk (i:=2) (u:=J ua m uc) b2;exact⟨(QK (x:=tA tD st) (y:=J va n vc) (z:=J ua m uc) b3).1,((hR.setOther h zI jY (tV _) _).setOther b1 zI jY (tV _) _).setOther b2 zI jY (tV _) _,((hV.setOther h zI G3 (tV _) _).setOther b1 zI G3 (tV _) _).setOther b2 zI G3 (tV _) _,Qd (Qd (Qd hg _ hw _ _) _ hw _ _) _ hw _ _⟩
theorem Q4.keptR{rb rb':Nat}{W w':F}{v u:H}{l:List Zh}{k:List Rd}(hV:Q4 rb 0 W v l)(hR:ZQ rb' 0 W u k)(hg:L W w' u.ownBlock):Q4 rb 0 w' v l:=by
 refine hV.kept hg ?_ ?_;·rcases hV.row with h|⟨g,cur,fz,e,_,h⟩;(·exact .inl h);·refine .inr ?_;rw[e];exact fun e2=>hR.ne h (fun e=>lK e.symm) e2.symm
 ·rcases hR.row with h|⟨g,cur,fz,e,_,h⟩;(·exact .inl h);·exact .inr ⟨g,cur,_,fz,e,tV _,h,iV⟩
theorem GH{w:F}{v1 v2:H}{st:Int}{R:List Rd}{V:List Zh}{rb:Nat}{t:Tx}(e:t=⟨st,R,V⟩)(h1:ZQ rb 0 w v1 R)(h2:Q4 rb 0 w v2 V):GQ w (sW #[tA tD st,v1,v2]) t:=by
 subst e;exact⟨_,_,rfl,h1.down 0 (tV _),h2.down 0 (tV _)⟩
theorem UX{v:H}{a b:Int}(h:a=b):tE (sM #[v,tA tD b])=tE (sM #[v,tA tD a]):=by
 rw[h]
theorem L2:∀(l:List Zh)(w:Zh)(m:Nat),m<l.length->(l.take m).any (fun q=>ZU q w)=N->ZU (l.getD m Qr) w=M->zZ l w=l.set m w|[],_,_,h,_,_=>by simp at h|a::l,w,0,_,_,h=>by have h':ZU a w=M:=h;rw[zZ,if_pos h'];rfl|a::l,w,m+1,h0,h1,h2=>by rw[rK,pH,rT]at h1;rw[zZ,if_neg (by rw[h1.1];decide),pW,L2 l w m (by simpa using h0) h1.2 (by simpa using h2)]
theorem DG:∀(l:List Zh)(w:Zh),l.any (fun q=>ZU q w)=N->zZ l w=l++[w]|[],_,_=>rfl|a::l,w,h=>by rw[pH,rT]at h;rw[zZ,if_neg (by rw[h.1];decide),DG l w h.2];rfl
theorem Q4.zero{rb:Nat}{w:F}{b o n cap:Nat}{l:List Zh}(h:Q4 rb 0 w (J (I ⟨b,o,G⟩) n cap) l):o=0:=by
 obtain⟨us,hl,hr,h3⟩:=h;rcases hr.2with⟨e,_⟩|⟨g',cap',cur,e,_⟩;·cases e
 ·simp only[tI,tB,rO]at e;exact e.1.2.1
theorem Q4.frozenT{rb:Nat}{w:F}{g n cap:Nat}{l:List Zh}(h:Q4 rb 0 w (J (I ⟨g,0,G⟩) n cap) l)(j:Nat):w.frozen? ⟨g,j,G⟩=N:=by
 obtain⟨us,hl,hr,h3⟩:=h;rcases hr.2with⟨e,_⟩|⟨g',cap',cur,e,hb,hg,_⟩;·cases e
 ·simp only[tI,tB,rO]at e;obtain⟨⟨rfl,_⟩,_⟩:=e;simp[r8,hg]
theorem En:∀(us:List WV)(i:Nat)(x:WV),Ja (us.set i x)=((((Ja us).set (i*4) x.2.1).set (i*4+1) x.2.2.1).set (i*4+2) (tP x.1.gone)).set (i*4+3) x.2.2.2|[],i,x=>by simp[Ja]|y::us,0,x=>by simp[Ja]|y::us,i+1,x=>by have ih:=En us i x;(have e:∀us:List WV,Ja (y::us)=y.2.1::y.2.2.1::tP y.1.gone::y.2.2.2::Ja us:=fun us=>by simp[Ja]);rw[pW,e,e,ih,show(i+1)*4=i*4+4by omega];rfl
theorem Q4.setT{rb:Nat}{w:F}{g n cap:Nat}{l:List Zh}(h:Q4 rb 0 w (J (I ⟨g,0,G⟩) n cap) l)(i:Nat)(vn vk vv:H)(p:Zh)(h1:Qi 0 w vn p.name)(h2:Qi 0 w vk p.key)(h3:Qi 0 w vv p.value):Q4 rb 0 ((((tG w ⟨g,i*4,G⟩ vn).setCell ⟨g,i*4+1,G⟩ vk).setCell ⟨g,i*4+2,G⟩ (tP p.gone)).setCell ⟨g,i*4+3,G⟩ vv) (J (I ⟨g,0,G⟩) n cap) (l.set i p):=by
 obtain⟨us,hul,hr,hp⟩:=h;have hgr:L w ((((tG w ⟨g,i*4,G⟩ vn).setCell ⟨g,i*4+1,G⟩ vk).setCell ⟨g,i*4+2,G⟩ (tP p.gone)).setCell ⟨g,i*4+3,G⟩ vv) (I g):=Qh (Qh (Qh (Qh (Qb _ _) _ _) _ _) _ _) _ _;rcases hr.2with⟨e,_⟩|⟨g',cap',cur,e,hb,hg,hn,hm,hs,ht⟩;·cases e
 ·simp only[tI,tB,rO]at e;obtain⟨⟨rfl,_⟩,rfl,rfl⟩:=e;have hrow:(I g:Option Nat)=G∨∃g' cur t fz,(I g:Option Nat)=I g'∧0<=g'∧w.heap[g']?=I (Y cur t fz)∧t≠5:=.inr ⟨g,cur,_,_,rfl,tV _,hg,uC⟩;(have hus:us.length=l.length:=by rw[<-hul];simp);refine⟨us.set i (p,vn,vk,vv),by rw[List.map_set,hul],⟨by rw[Wp,rU,rU,hus],.inr ⟨g,cap,_,by rw[rU],hb,Qk (Qk (Qk (Qk hg))),by rw[rU];exact hn,hm,by simpa using hs,?_⟩⟩,?_⟩;(·rw[En,rU];simp only[Array.toList_setIfInBounds];rw[pJ,pJ,pJ,pJ,ht]);·intro x hx;rcases List.mem_or_eq_of_mem_set hx with hx|rfl;(·exact⟨(hp x hx).1.keptT hgr hrow,(hp x hx).2.1.keptT hgr hrow,(hp x hx).2.2.keptT hgr hrow⟩);·exact⟨h1.keptT hgr hrow,h2.keptT hgr hrow,h3.keptT hgr hrow⟩
def Uj(n k:List UInt8)(q:Zh):Bool:=tU (q.name=n)&&tU (q.key=k)
theorem By{α:Type}(p:α->Bool)(d:α):∀(l:List α)(m:Nat),m<l.length->(l.take m).any p=N->p (l.getD m d)=M->l.find? p=I (l.getD m d)|[],_,h,_,_=>by simp at h|a::l,0,_,_,h=>by have h':p a=M:=h;rw[List.find?_cons_of_pos h'];rfl|a::l,m+1,h0,h1,h2=>by rw[rK,pH,rT]at h1;rw[List.find?_cons_of_neg (by rw[h1.1];decide),By p d l m (by simpa using h0) h1.2 (by simpa using h2)];simp
theorem Hd{α:Type}(p:α->Bool)(l:List α)(h:l.any p=N):l.find? p=G:=by
 rw[List.find?_eq_none];intro x hx hp;rw[List.any_eq_false]at h;exact h x hx hp
theorem iD{l:List Zh}{n k:List UInt8}{m:Nat}(h:m<l.length)(h1:(l.take m).any (Uj n k)=N)(h2:Uj n k (l.getD m Qr)=M):iZ l n k=I (l.getD m Qr):=By (Uj n k) Qr l m h h1 h2
theorem dY{l:List Zh}{n k:List UInt8}(h:l.any (Uj n k)=N):iZ l n k=G:=Hd (Uj n k) l h
theorem Ox{l:FL}{t:Tx}{n k:List UInt8}(h:KD l t n k≠0):VR l t n k=N∧Vk l t n k=N∧U6 l t n k=[]:=by
 rw[VR,Vk,U6,if_neg h,if_neg h,if_neg h];exact⟨rfl,rfl,rfl⟩
theorem eX{l:FL}{t:Tx}{n k:List UInt8}(h:zV l t≠0):KD l t n k=zV l t:=by
 rw[KD,if_neg h]
theorem DO{l:FL}{t:Tx}(h:zV l t=0):Xs l∧qJ t:=by
 unfold zV at h;by_cases hf:Q8 l=0;·rw[if_pos hf]at h;exact⟨(Ya l).1 hf,(kX t).1 h⟩
 ·rw[if_neg hf]at h;exact absurd h hf
theorem bY{l:FL}{t:Tx}{n k:List UInt8}(h:zV l t=0){m:Nat}(hm:m<t.writes.length)(h1:(t.writes.take m).any (Uj n k)=N)(h2:Uj n k (t.writes.getD m Qr)=M):KD l t n k=0∧VR l t n k=M∧Vk l t n k=!(t.writes.getD m Qr).gone∧U6 l t n k=(t.writes.getD m Qr).value:=by
 obtain⟨hf,ht⟩:=DO h;have ha:=iD hm h1 h2;have hs:=OP ha;have hw:=(XQ _).1 (ht.wrs _ hs.1);rw[hs.2.1,hs.2.2]at hw;have h0:=Lo hf ht hw.1 hw.2.1;refine⟨h0,?_,?_,?_⟩;·rw[VR,if_pos h0,ha];rfl
 ·rw[Vk,if_pos h0,ha]
 ·rw[U6,if_pos h0,ha]
theorem bV{l:FL}{t:Tx}{n k:List UInt8}(h:zV l t=0)(h1:t.writes.any (Uj n k)=N):KD l t n k=VM l n k∧VR l t n k=N∧Vk l t n k=Vg l n k∧U6 l t n k=Vj l n k:=by
 obtain⟨hf,ht⟩:=DO h;have ha:=dY h1;have hfo:=(Ya l).2 hf;have hE:KD l t n k=VM l n k:=by rw[KD,if_pos h,VM,qG,if_pos hfo];by_cases hn:Qt n.length=0;(·rw[if_pos hn,if_pos hn,Xf,if_pos ((YU _).2 (Um hf n))]);·rw[if_neg hn,if_neg hn]
 refine⟨hE,?_,?_,?_⟩;·rw[VR,ha];by_cases h0:KD l t n k=0;(·rw[if_pos h0];rfl);·rw[if_neg h0]
 ·rw[Vk,ha];by_cases h0:KD l t n k=0;(·rw[if_pos h0]);·rw[if_neg h0];rw[hE]at h0;rw[Vg];by_cases hn:qG l n=0;(·rw[VM,if_pos hn]at h0;rw[if_pos hn,Es];simp[h0]);·rw[if_neg hn]
 ·rw[U6,ha];by_cases h0:KD l t n k=0;(·rw[if_pos h0]);·rw[if_neg h0];rw[hE]at h0;rw[Vj];by_cases hn:qG l n=0;(·rw[VM,if_pos hn]at h0;rw[if_pos hn,Ew,if_neg h0]);·rw[if_neg hn]
theorem I0{X:PL}(h:ZD X)(k:List UInt8):ZD (kE X k):=⟨tQ (Lt X k) h.room,fun p hp=>h.pairs p (oH.1 hp).1,NQ X k h.rises⟩
theorem DH{X:PL}(h:ZD X)(f u:List UInt8):ZD (Vm X f u):=⟨tQ (Ih X f u) h.room,fun p hp=>h.pairs p (oH.1 hp).1,Bp X f u h.rises⟩
theorem Hn{X:PL}(h:ZD X){p:Pr}(hp:(1<=p.1.length∧p.1.length<=16)∧p.2.length<=32)(hl:(Kj X p).length<=60):ZD (Kj X p):=⟨hl,Ng X p h.pairs hp,Pn X p h.rises⟩
theorem jZ(n a b:List UInt8)(w:Zh):XX ⟨n,a,M,b⟩ w=M↔w.name=n∧lM a b w.key=M:=by
 show(tU (n=w.name)&&lM a b w.key)=M↔_;rw[rP,decide_eq_true_iff];exact⟨fun h=>⟨h.1.symm,h.2⟩,fun h=>⟨h.1.symm,h.2⟩⟩
theorem Oj{n a b:List UInt8}{w:Zh}(h:XX ⟨n,a,M,b⟩ w=N)(X:PL):K6 n a b X w=X:=by
 rw[K6,if_neg];intro e;rw[(jZ n a b w).2 e]at h;cases h
theorem aZ{n a b:List UInt8}{w:Zh}(h:XX ⟨n,a,M,b⟩ w=M)(hg:w.gone=M){X:PL}(hX:ZD X)(hw:QD w=0):Xf X w.key=0∧zU X w.key=K6 n a b X w∧ZD (K6 n a b X w):=by
 have hk:=((XQ w).1 hw).2.1;have h0:=Pa hX hk;have e:K6 n a b X w=kE X w.key:=by rw[K6,if_pos ((jZ n a b w).1 h),if_pos hg]
 refine⟨h0,by rw[e,zU,if_pos h0],by rw[e];exact I0 hX _⟩
theorem bT{n a b:List UInt8}{w:Zh}(h:XX ⟨n,a,M,b⟩ w=M)(hg:w.gone=N){X:PL}(hX:ZD X)(hw:QD w=0):K6 n a b X w=Kj X (w.key,w.value)∧(60<(K6 n a b X w).length->Ko X (w.key,w.value)=11)∧(¬60<(K6 n a b X w).length->Ko X (w.key,w.value)=0∧Vv X (w.key,w.value)=K6 n a b X w∧ZD (K6 n a b X w)):=by
 have hk:=(XQ w).1 hw;have hv:w.value.length<=32:=by have:=hk.2.2;rw[hg,if_neg (by decide)]at this;exact this
 have e:K6 n a b X w=Kj X (w.key,w.value):=by rw[K6,if_pos ((jZ n a b w).1 h),hg,if_neg (by decide)]
 have h0:V4 X (w.key,w.value)=0:=by rw[V4,if_pos ((YU X).2 hX)];exact(JI _).2 ⟨hk.2.1,hv⟩
 refine⟨e,fun hl=>?_,fun hl=>?_⟩;·rw[e]at hl;rw[Ko,if_pos h0,if_pos hl]
 ·rw[e]at hl;(have h1:Ko X (w.key,w.value)=0:=by rw[Ko,if_pos h0,if_neg hl]);refine⟨h1,by rw[e,Vv,if_pos h1],?_⟩;rw[e];exact Hn hX ⟨hk.2.1,hv⟩ (by omega)
def JN(n a b:List UInt8)(X:PL)(ws:List Zh):Int×PL:=(kV n a b X ws,if kV n a b X ws=0then SS n a b X ws else[])
theorem Lf(n a b:List UInt8)(X:PL):JN n a b X []=(0,X):=rfl
theorem Pv{n a b:List UInt8}{X:PL}{ws:List Zh}{m:Nat}(hm:m<ws.length)(h:¬60<(K6 n a b X (ws.getD m Qr)).length):JN n a b X (ws.drop m)=JN n a b (K6 n a b X (ws.getD m Qr)) (ws.drop (m+1)):=by
 rw[sZ hm,show ws[m]=ws.getD m Qr by simp[hm]];rw[JN,JN,kV,if_neg h];rfl
theorem Cs{n a b:List UInt8}{X:PL}{ws:List Zh}{m:Nat}(hm:m<ws.length)(h:60<(K6 n a b X (ws.getD m Qr)).length):JN n a b X (ws.drop m)=(11,[]):=by
 rw[sZ hm,show ws[m]=ws.getD m Qr by simp[hm]];rw[JN,kV,if_pos h,if_neg (by decide)]
theorem dS{l:FL}{t:Tx}{n a b:List UInt8}(h:zV l t≠0):KH l t n a b=zV l t∧V3 l t n a b=[]:=by
 have e:KH l t n a b=zV l t:=by rw[KH,if_neg h]
 exact⟨e,by rw[V3,e,if_neg h]⟩
theorem Sz{l:FL}{t:Tx}{n a b:List UInt8}(h:zV l t=0)(h1:YK l n a b≠0):KH l t n a b=YK l n a b∧V3 l t n a b=[]:=by
 obtain⟨hf,ht⟩:=DO h;have hfo:=(Ya l).2 hf;have e:KH l t n a b=YK l n a b:=by(have hE:YK l n a b=if Qt n.length=0then(if Qq a.length=0then Qq b.length else Qq a.length)else Qt n.length:=by rw[YK,qG,if_pos hfo];by_cases hn:Qt n.length=0;(·rw[if_pos hn,if_pos hn,YI,Xf,if_pos ((YU _).2 (Um hf n))]);·rw[if_neg hn,if_neg hn]);rw[KH,if_pos h,hE];by_cases hn:Qt n.length=0;(·rw[if_pos hn,if_pos hn];by_cases ha:Qq a.length=0;(·rw[if_pos ha,if_pos ha];by_cases hb:Qq b.length=0;(·rw[hE,if_pos hn,if_pos ha]at h1;exact absurd hb h1);·rw[if_neg hb]);·rw[if_neg ha,if_neg ha]);·rw[if_neg hn,if_neg hn]
 exact⟨e,by rw[V3,e,if_neg h1]⟩
theorem AH{l:FL}{t:Tx}{n a b:List UInt8}(h:zV l t=0)(h1:YK l n a b=0):JN n a b (Ks l n a b) t.writes=(KH l t n a b,V3 l t n a b)∧ZD (Ks l n a b):=by
 obtain⟨hf,ht⟩:=DO h;have hfo:=(Ya l).2 hf;have hn:qG l n=0:=by by_cases hn:qG l n=0;(·exact hn);·rw[YK,if_neg hn]at h1;exact absurd h1 hn
 have hr:YI (Jm l n) a b=0:=by rw[YK,if_pos hn]at h1;exact h1
 have hg:=Af hr;have hb:Qq b.length=0:=by rw[YI,if_pos hg]at hr;exact hr
 have ha:Qq a.length=0:=(Zw _).2 (aA hg);have hnn:Qt n.length=0:=(ZA _).2 (qW hn).2;have e:Ks l n a b=Vm (Jm l n) a b:=by rw[Ks,if_pos hn,KV,if_pos hr]
 have eE:KH l t n a b=kV n a b (Vm (Jm l n) a b) t.writes:=by rw[KH,if_pos h,if_pos hnn,if_pos ha,if_pos hb]
 refine⟨?_,by rw[e];exact DH (Um hf n) a b⟩;rw[e,JN,V3,eE]
def Ig:Prop:=∀(w:F)(v:H)(t:Tx),GZ w v t->xH t->rA O 116 #[v] w fun e w'=>e=tE (tA tD (Gn t))∧L w w' G
def Of:Prop:=∀(w:F)(v:H)(l:PL),Qs w v l->uD l->rA O 47 #[v] w fun e w'=>e=tE (tA tD (QA l))∧L w w' G
theorem FY{w:F}{o:rM}{a:Act}{K:Act->F->Prop}{Q:Exit->Act->F->Prop}(s x:rJ)(ho:o.op=.call {callee:=.builtin .append,args:=#[s,x],argTypes:=#[39,39]})(rb base:Nat)(hrb:base<=rb)(v:H)(l:PL)(hs:a.eval s=v)(hown:Kx rb base w v l)(vk vv:H)(p:Pr)(hk:Qi base w vk p.1)(hv:Qi base w vv p.2)(nb:Nat)(hb:w.heap[nb]?=I (Y #[vk,vv] 42))(hx:a.eval x=J (I ⟨nb,0,G⟩) 1 1)(hl:(l.length+1)*48<=140737488355328)(hbase:rb<=w.heap.size)(h:∀v' w',Kx rb base w' v' (l++[p])->L w w' v.ownBlock->K (a.put o.dst v') w'):o.wp O a w K Q:=by
 obtain⟨i0,hi,hz0,hz1,hz2⟩:=r7 CI;have hrow:=hown.row hrb;obtain⟨vs,hvl,hr,hp⟩:=hown;refine wp_append_lies w s x 39 ho rb 42 i0 (sW #[J G 0 0,J G 0 0]) 2 48 Tryz.underlying39 hi hz0 hz1 hz2 rfl (by decide) v l.length (flat vs) hs hr ⟨nb,0,G⟩ 1 1 (flat [(vk,vv)]) hx rfl (rC (cs:=#[vk,vv]) hb) ?_ (by omega) (by unfold pL;omega) hl hbase _ rfl ?_;·intro u hu;simp only[flat,tN,rH,sF,tK,tM,or_false]at hu;rcases hu with rfl|rfl;(·exact Zx hk);·exact Zx hv
 ·intro g cap w' h1 h2 _ _;refine h _ w' ⟨vs++[(vk,vv)],by simp[hvl],?_,?_⟩ h2;(·rw[J6,tC];exact h1);·intro i hi;rw[Jp,Jp,hvl];by_cases hil:i<l.length;(·rw[if_pos hil,if_pos hil];exact⟨(hp i hil).1.kept h2 hrow,(hp i hil).2.kept h2 hrow⟩);·rw[if_neg hil,if_neg hil];(obtain rfl:i=l.length:=by simp at hi;omega);rw[oK];exact⟨hk.kept h2 hrow,hv.kept h2 hrow⟩
theorem Gk{w:F}{ops:Array rM}{o:rM}{a:Act}{K:Act->F->Prop}{Q:Exit->Act->F->Prop}{E:Prop}(hgd:o.guard=G)(s x:rJ)(ho:o.op=.call {callee:=.builtin .append,args:=#[s,x],argTypes:=#[39,39]})(rb base:Nat)(hrb:base<=rb)(v:H)(l:PL)(hs:a.eval s=v)(hown:Kx rb base w v l)(vk vv:H)(p:Pr)(hk:Qi base w vk p.1)(hv:Qi base w vv p.2)(nb:Nat)(hb:w.heap[nb]?=I (Y #[vk,vv] 42))(hx:a.eval x=J (I ⟨nb,0,G⟩) 1 1)(hl:(l.length+1)*48<=140737488355328)(hbase:rb<=w.heap.size)(h:∀v' w',Kx rb base w' v' (l++[p])->L w w' v.ownBlock->K (a.put o.dst v') w'):if sJ o (pF ops a.tmps)=M then Oper.wp O o a w K Q else E:=by
 have hw:sJ o (pF ops a.tmps)=M:=by simp[sJ,hgd]
 rw[if_pos hw];exact FY s x ho rb base hrb v l hs hown vk vv p hk hv nb hb hx hl hbase h
theorem RS(w:F):(sizeOf (O.elem 39)).run O w=.ok 2 w:=by
 kernel_rfl
theorem Qs.sliced{w:F}{a:Option rI}{cap:Nat}{l:PL}(h:Qs w (J a l.length cap) l)(i j:Nat)(hij:i<=j)(hj:j<=l.length):Qs w (sV a i j cap 2) ((l.take j).drop i):=by
 obtain⟨a',cap',e,hc,h⟩:=h;simp only[tI,true_and]at e;obtain⟨rfl,rfl⟩:=e;have hlen:((l.take j).drop i).length=j-i:=by simp;omega
 refine⟨if cap=i then a else a.map (·.add (i*2)),cap-i,by rw[hlen];rfl,by rw[hlen];omega,?_⟩;by_cases hci:cap=i;·left;exact⟨tL (by rw[hlen];omega),fun _=>by omega⟩
 ·rw[if_neg hci];rcases h with⟨rfl,h⟩|⟨b,o,rfl,h⟩;(·left;refine⟨by simp,fun e=>?_⟩;cases a with|none=>have:=h rfl;simp at hj;omega|some x=>cases e);·right;refine⟨b,o+i*2,by simp[Z4],fun k hk=>?_⟩;rw[hlen]at hk;have:=h (i+k) (by omega);(have e:((l.take j).drop i).getD k ([],[])=l.getD (i+k) ([],[]):=by simp[show i+k<j by omega]);rw[e,show o+i*2+k*2=o+(i+k)*2by omega];exact this
theorem vO(a:Option rI)(cap:Nat)(l:PL)(n:Nat)(hn:n<=l.length)(hc:l.length<=cap):∃a1 c1,(∀W,(rX 39 (J a l.length cap) G (I (tA tD (n:Int))) G).run O W=.ok (J a1 n c1) W)∧∀W,Qs W (J a l.length cap) l->Qs W (J a1 n c1) (l.take n):=by
 refine⟨if cap=0then a else a.map (·.add (0*2)),cap-0,fun W=>?_,fun W h=>?_⟩;·rw[run_slice_h _ _ _ _ _ (by kernel_rfl) _ _ (by omega) (by omega),RS];simp only[rN,sV,sL,pK]
 ·have:=h.sliced 0 n (by omega) hn;simpa only[sV,oJ,pK]using this
theorem Pb(a:Option rI)(cap:Nat)(l:PL)(n:Nat)(hn:n<=l.length):∃a1 c1,(∀W,(rX 39 (J a l.length cap) (I (tA tD (n:Int))) G G).run O W=.ok (J a1 (l.length-n) c1) W)∧∀W,Qs W (J a l.length cap) l->Qs W (J a1 (l.length-n) c1) (l.drop n):=by
 refine⟨if cap=n then a else a.map (·.add (n*2)),cap-n,fun W=>?_,fun W h=>?_⟩;·rw[run_slice_l _ _ _ _ _ (by kernel_rfl) _ _ (by omega) (by omega),RS];simp only[rN,sV,sL]
 ·have:=h.sliced n l.length hn (tW _);simpa only[sV,sI]using this
theorem Mg(a:Option rI)(cap:Nat)(l:PL)(i j:Nat)(hij:i<=j)(hj:j<=l.length)(hc:l.length<=cap):∃a1 c1,(∀W,(rX 39 (J a l.length cap) (I (tA tD (i:Int))) (I (tA tD (j:Int))) G).run O W=.ok (J a1 (j-i) c1) W)∧∀W,Qs W (J a l.length cap) l->Qs W (J a1 (j-i) c1) ((l.take j).drop i):=by
 refine⟨if cap=i then a else a.map (·.add (i*2)),cap-i,fun W=>?_,fun W h=>?_⟩;·rw[run_slice_lh _ _ _ _ _ (by kernel_rfl) _ _ _ _ (by omega) (by omega) (by omega),RS];simp only[rN,sV,sL]
 ·have:=h.sliced i j hij hj;simpa only[sV]using this
theorem Qs.cap{w:F}{a:Option rI}{n cap:Nat}{l:PL}(h:Qs w (J a n cap) l):l.length<=cap:=by
 obtain⟨a',cap',e,hc,_⟩:=h;simp only[tI]at e;obtain⟨_,_,rfl⟩:=e;exact hc
def bQ:Prop:=∀(w:F)(v:H)(l:FL),Zz w v l->UG l->rA O 21 #[v] w fun e w'=>e=tE (tA tD (Q8 l))∧L w w' G
def DQ:Prop:=∀(w:F)(v u:H)(l:FL)(ws:List Zh),Zz w v l->QQ w u ws->UG l->uH ws->rA O 121 #[v,u] w fun e w'=>∃x,e=tE (sM #[x,tA tD (QZ l ws)])∧Zz w' x (Xx l ws)∧L w w' G
theorem ZC.down{base:Nat}{w:F}{v:H}{l:FL}(h:ZC base w v l)(b2:Nat)(hb:b2<=base):ZC b2 w v l:=by
 obtain⟨vs,h1,h2,h3⟩:=h;refine⟨vs,h1,⟨h2.1,?_⟩,h3⟩;rcases h2.2with h|⟨g,cap,cur,e,hb2,rest⟩;·exact .inl h
 ·exact .inr ⟨g,cap,cur,e,tQ hb hb2,rest⟩
def yC:Prop:=∀(w:F)(v u:H)(l:FL)(ws:List Zh),Zz w v l->QQ w u ws->UG l->uH ws->rA O 121 #[v,u] w fun e w'=>∃x,e=tE (sM #[x,tA tD (QZ l ws)])∧ZC w.heap.size w' x (Xx l ws)∧L w w' G
theorem yC.ok(h:yC):DQ:=fun w v u l ws h1 h2 h3 h4=>(h w v u l ws h1 h2 h3 h4).mono (by
 rintro e w'⟨x,rfl,hx,hg⟩;exact⟨x,rfl,hx.list,hg⟩)
theorem zC(w:F)(b i:Nat)(u:H):∃W:F,Hid (W=tG w ⟨b,i,G⟩ u)∧L w W (I b):=⟨_,rfl,YN w b i u⟩
theorem zL{w:F}{ops:Array rM}{o:rM}{a:Act}{K:Act->F->Prop}{Q:Exit->Act->F->Prop}{E:Prop}(hgd:o.guard=G)(s x:rJ)(ho:o.op=.call {callee:=.builtin .append,args:=#[s,x],argTypes:=#[98,98]})(rb:Nat)(v:H)(l:List Zh)(hs:a.eval s=v)(hown:Q4 rb 0 w v l)(vn vk vv:H)(p:Zh)(h1:Qi 0 w vn p.name)(h2:Qi 0 w vk p.key)(h3:Qi 0 w vv p.value)(nb:Nat)(hb:w.heap[nb]?=I (Y #[vn,vk,tP p.gone,vv] 179))(hx:a.eval x=J (I ⟨nb,0,G⟩) 1 1)(hl:(l.length+1)*80<=140737488355328)(hbase:rb<=w.heap.size)(h:∀v' w',Q4 rb 0 w' v' (l++[p])->L w w' v.ownBlock->K (a.put o.dst v') w'):if sJ o (pF ops a.tmps)=M then Oper.wp O o a w K Q else E:=by
 have hw:sJ o (pF ops a.tmps)=M:=by simp[sJ,hgd]
 rw[if_pos hw];obtain⟨i0,hi,hz0,hz1,hz2⟩:=r7 cQ;have hrow:v.ownBlock=G∨∃g cur t fz,v.ownBlock=I g∧0<=g∧w.heap[g]?=I (Y cur t fz)∧t≠5:=by rcases hown.row with h|⟨g,cur,fz,e,_,h⟩;(·exact .inl h);·exact .inr ⟨g,cur,_,fz,e,tV _,h,uC⟩
 obtain⟨us,hul,hr,hp⟩:=hown;refine wp_append_lies w s x 98 ho rb 179 i0 (sW #[J G 0 0,J G 0 0,tP N,J G 0 0]) 4 80 Tryz.underlying98 hi hz0 hz1 hz2 rfl (by decide) v l.length (Ja us) hs hr ⟨nb,0,G⟩ 1 1 (Ja [(p,vn,vk,vv)]) hx rfl (rC (cs:=#[vn,vk,tP p.gone,vv]) hb) ?_ (by omega) (by unfold pL;omega) hl hbase _ rfl ?_;·intro u hu;simp only[Ja,tN,rH,sF,tK,tM,or_false]at hu;rcases hu with rfl|rfl|rfl|rfl;(·exact Zx h1);(·exact Zx h2);(·rfl);·exact Zx h3
 ·intro g cap w' q1 q2 _ _;refine h _ w' ⟨us++[(p,vn,vk,vv)],by simp[hul],?_,?_⟩ q2;(·rw[uP,tC];exact q1);·intro y hy;rcases tX.1 hy with hy|hy;(·exact⟨(hp y hy).1.keptT q2 hrow,(hp y hy).2.1.keptT q2 hrow,(hp y hy).2.2.keptT q2 hrow⟩);·simp only[tK,tM,or_false]at hy;subst hy;exact⟨h1.keptT q2 hrow,h2.keptT q2 hrow,h3.keptT q2 hrow⟩
theorem xS{w:F}{ops:Array rM}{o:rM}{a:Act}{K:Act->F->Prop}{Q:Exit->Act->F->Prop}{E:Prop}(hgd:o.guard=G)(s x:rJ)(ho:o.op=.call {callee:=.builtin .append,args:=#[s,x],argTypes:=#[97,97]})(rb:Nat)(v:H)(l:List Rd)(hs:a.eval s=v)(hown:ZQ rb 0 w v l)(vn vk vv:H)(p:Rd)(h1:Qi 0 w vn p.name)(h2:Qi 0 w vk p.key)(h3:Qi 0 w vv p.last)(nb:Nat)(hb:w.heap[nb]?=I (Y #[vn,vk,tP p.wide,vv] 198))(hx:a.eval x=J (I ⟨nb,0,G⟩) 1 1)(hl:(l.length+1)*80<=140737488355328)(hbase:rb<=w.heap.size)(h:∀v' w',ZQ rb 0 w' v' (l++[p])->L w w' v.ownBlock->K (a.put o.dst v') w'):if sJ o (pF ops a.tmps)=M then Oper.wp O o a w K Q else E:=by
 have hw:sJ o (pF ops a.tmps)=M:=by simp[sJ,hgd]
 rw[if_pos hw];obtain⟨i0,hi,hz0,hz1,hz2⟩:=r7 iT;have hrow:v.ownBlock=G∨∃g cur t fz,v.ownBlock=I g∧0<=g∧w.heap[g]?=I (Y cur t fz)∧t≠5:=by rcases hown.row with h|⟨g,cur,fz,e,_,h⟩;(·exact .inl h);·exact .inr ⟨g,cur,_,fz,e,tV _,h,iV⟩
 obtain⟨us,hul,hr,hp⟩:=hown;refine wp_append_lies w s x 97 ho rb 198 i0 (sW #[J G 0 0,J G 0 0,tP N,J G 0 0]) 4 80 Tryz.underlying97 hi hz0 hz1 hz2 rfl (by decide) v l.length (Gv us) hs hr ⟨nb,0,G⟩ 1 1 (Gv [(p,vn,vk,vv)]) hx rfl (rC (cs:=#[vn,vk,tP p.wide,vv]) hb) ?_ (by omega) (by unfold pL;omega) hl hbase _ rfl ?_;·intro u hu;simp only[Gv,tN,rH,sF,tK,tM,or_false]at hu;rcases hu with rfl|rfl|rfl|rfl;(·exact Zx h1);(·exact Zx h2);(·rfl);·exact Zx h3
 ·intro g cap w' q1 q2 _ _;refine h _ w' ⟨us++[(p,vn,vk,vv)],by simp[hul],?_,?_⟩ q2;(·rw[Mq,tC];exact q1);·intro y hy;rcases tX.1 hy with hy|hy;(·exact⟨(hp y hy).1.keptT q2 hrow,(hp y hy).2.1.keptT q2 hrow,(hp y hy).2.2.keptT q2 hrow⟩);·simp only[tK,tM,or_false]at hy;subst hy;exact⟨h1.keptT q2 hrow,h2.keptT q2 hrow,h3.keptT q2 hrow⟩
def cJ:Prop:=∀(w:F)(v:H)(r:Rq),UD w->XI w v r->yG r->rA O 111 #[v] w fun e w'=>∃x,e=tE (sM #[x,tA tD (Up r)])∧Yy w' x (Zu r)∧L w w' G
def ZZ(K:Int)(n q l v:Nat):Nat->Bool|0=>N|1=>!QS K 0&&tU (0<n)|2=>(!QS K 0&&tU (0<n))||(!QS K 1&&tU (0<q))|3=>((!QS K 0&&tU (0<n))||(!QS K 1&&tU (0<q)))||(!QS K 2&&tU (0<l))|_=>(((!QS K 0&&tU (0<n))||(!QS K 1&&tU (0<q)))||(!QS K 2&&tU (0<l)))||(!QS K 3&&tU (0<v))
def mD(K:Int)(n q l v:Nat):Int:=if(tU (Qt n≠0)&&QS K 0)=M then Qt n else if(tU (Qq q≠0)&&QS K 1)=M then Qq q else if(tU (Qq l≠0)&&QS K 2)=M then Qq l else if 32<v then 1 else if ZZ K n q l v 4=M then 4 else 0
theorem iS(r:Rq)(hk:1<=r.kind∧r.kind<=8):Yl r=mD r.kind r.name.length r.key.length r.last.length r.value.length:=by
 rw[Yl,if_pos hk];have hf:El r=if ZZ r.kind r.name.length r.key.length r.last.length r.value.length 4=M then 4 else 0:=by unfold El;by_cases h1:QV r.kind=N∧0<r.name.length+r.key.length;(·rw[if_pos h1,if_pos];by_cases h2:0<r.name.length;(·simp[ZZ,QS,h1.1,h2]);·(have h3:0<r.key.length:=by omega);simp[ZZ,QS,h1.1,h3]);·rw[if_neg h1];by_cases h2:(r.kind≠3∧0<r.last.length)∨(r.kind≠4∧0<r.value.length);(·rw[if_pos h2,if_pos];rcases h2 with⟨h2,h3⟩|⟨h2,h3⟩;(·simp[ZZ,QS,h2,h3]);·simp[ZZ,QS,h2,h3]);·rw[if_neg h2,if_neg];intro hb;simp only[ZZ,QS,Bool.or_eq_true,rP,Bool.not_eq_true',decide_eq_true_iff,decide_eq_false_iff_not]at hb;rcases hb with((hb|hb)|hb)|hb;(·exact h1 ⟨hb.1,by omega⟩);(·exact h1 ⟨hb.1,by omega⟩);(·exact h2 (.inl hb));·exact h2 (.inr hb)
 rw[hf];unfold jA mD;generalize ZZ r.kind r.name.length r.key.length r.last.length r.value.length 4=B;show _=if(tU (Qt r.name.length≠0)&&QV r.kind)=M then _ else if(tU (Qq r.key.length≠0)&&QV r.kind)=M then _ else if(tU (Qq r.last.length≠0)&&tU (r.kind=3))=M then _ else _;have h3:r.kind=3->QV r.kind=M:=fun h=>by rw[h];decide
 generalize Qt r.name.length=A at*;generalize Qq r.key.length=C at*;generalize Qq r.last.length=D at*;cases hN:QV r.kind with|false=>(have h3':¬r.kind=3:=fun h=>by rw[h3 h]at hN;cases hN);simp[h3']|true=>by_cases hA:A=0;(·by_cases hC:C=0;(·by_cases h4:r.kind=3;(·by_cases hD:D=0;(·simp[hA,hC,h4,hD]);·simp[hA,hC,h4,hD]);·simp[hA,hC,h4]);·simp[hA,hC]);·simp[hA]
theorem iH(r:Rq)(hk:¬(1<=r.kind∧r.kind<=8)):Yl r=5:=by
 rw[Yl,if_neg hk]
def Hm:Prop:=∀(w:F)(v u a b:H)(l:FL)(t:Tx)(n k:List UInt8),Zz w v l->UG l->GZ w u t->xH t->Qe w a n->Qe w b k->n.length<=140737488355328->k.length<=140737488355328->rA O 99 #[v,u,a,b] w fun e w'=>∃x,e=tE (sM #[sW #[tP (Vk l t n k),x],tP (VR l t n k),tA tD (KD l t n k)])∧Qi 0 w' x (U6 l t n k)∧L w w' G
theorem XT{w:F}{b:Nat}{x y:H}{t:sC}(h:w.heap[b]?=I (Y #[x,y] t)):w.cell? ⟨b,0,G⟩=I x∧w.cell? ⟨b,1,G⟩=I y∧w.frozen? ⟨b,0,G⟩=N∧w.frozen? ⟨b,1,G⟩=N:=by
 refine⟨?_,?_,?_,?_⟩<;>simp[tZ,r8,h]
section
variable{D:List UInt8->List UInt8}{v u:Sv}
theorem Cf(hD:∀x,(D x).length=4)(h:Zc D v)(hs:v.synced=v.commits.length){k:Int}(hk:0<=k):K3 D v k=Ge N v.tape v.commits v.out:=by
 obtain⟨j,h1,h2,h3,_⟩:=Ut hD h hk;obtain rfl:j=v.commits.length:=by omega
 rw[h3,sI];have hm:=h.mark;rw[hs,sI]at hm;have:(⟨Q5 D v.commits,((Q5 D v.commits).length:Int)⟩:Gc)=v.tape:=by rw[<-hm,<-h.data]
 rw[this]
end
section
variable{D:List UInt8->List UInt8}{v:Sv}
def Uq(s:Nat)(r:Rq):Ac:=⟨1,(s:Int),0,Kw r⟩
def Pf:Ac:=⟨2,0,0,[]⟩
def ZJ(k:Int):Ac:=⟨3,0,k,[]⟩
def Zb:Ac:=⟨4,0,0,[]⟩
def To(k:Int):Rq:=⟨k,[],[],[],[]⟩
theorem mF{s:Nat}(hs:s<=7){r:Rq}(hr:Yc r):Xn (Uq s r):=⟨⟨(by
 decide:(1:Int)<=1),(by
 decide:(1:Int)<=4)⟩,fun _=>⟨Int.natCast_nonneg _,by
 show(s:Int)<=7;omega⟩,(fun h=>by
 cases h),(by
 have:=(uF hr).1;show(Kw r).length<=4000;omega),(fun h=>absurd rfl h),(fun _=>rfl),(fun h=>absurd rfl h)⟩
theorem i8:Xn Pf:=⟨⟨by
 decide,by
 decide⟩,(fun h=>by
 cases h),(fun h=>by
 cases h),(by
 decide),(fun _=>rfl),(fun _=>rfl),(fun _=>rfl)⟩
theorem kM:Xn Zb:=⟨⟨by
 decide,by
 decide⟩,(fun h=>by
 cases h),(fun h=>by
 cases h),(by
 decide),(fun _=>rfl),(fun _=>rfl),(fun _=>rfl)⟩
theorem SR{k:Int}(h0:0<=k)(h1:k<=200000):Xn (ZJ k):=⟨⟨(by
 decide:(1:Int)<=3),(by
 decide:(3:Int)<=4)⟩,(fun h=>by
 cases h),(fun _=>⟨h0,h1⟩),(by
 decide:(0:Nat)<=4000),(fun _=>rfl),(fun h=>absurd rfl h),(fun _=>rfl)⟩
theorem uA(v:Sv)(s:Nat){r:Rq}(hr:Yc r):Q7 D v (Uq s r)=if v.up=N then ZN v (Ga s 13)else Jg D v s r:=by
 show(if(1:Int)=1then Xa D v (s:Int).toNat (Kw r)else _)=_;rw[if_pos rfl,sL,Xa,(RG hr).1,(RG hr).2,if_pos rfl]
theorem aQ(v:Sv):Q7 D v Pf=if v.up=M then Vp v else v:=by
 show(if(2:Int)=1then _ else if(2:Int)=2then _ else _)=_;rw[if_neg (by decide),if_pos rfl]
theorem Pi(v:Sv)(k:Int):Q7 D v (ZJ k)=if v.up=M then K3 D v k else v:=by
 show(if(3:Int)=1then _ else if(3:Int)=2then _ else if(3:Int)=3then _ else _)=_;rw[if_neg (by decide),if_neg (by decide),if_pos rfl];rfl
theorem Fc(v:Sv):Q7 D v Zb={v with up:=M}:=by
 show(if(4:Int)=1then _ else if(4:Int)=2then _ else if(4:Int)=3then _ else _)=_;rw[if_neg (by decide),if_neg (by decide),if_neg (by decide)]
theorem iA(v:Sv)(k:Int):(Q7 D v (ZJ k)).up=N:=by
 rw[Pi];split;·rfl
 ·simpa using(by assumption:¬v.up=M)
def LR(l:List Ac):List Rp:=(l.filter (fun a=>tU (a.kind=1))).map (fun a=>Ga a.sess.toNat 13)
theorem E7:∀(l:List Ac)(v:Sv),v.up=N->(∀a∈l,a.kind=1∨a.kind=2)->l.foldl (Q7 D) v={v with out:=v.out++LR l}|[],v,_,_=>by simp[LR]|a::l,v,hu,ha=>by rw[sG];rcases ha a tS with h|h;(·(have e:Q7 D v a=ZN v (Ga a.sess.toNat 13):=by rw[Q7,if_pos h,Xa,if_pos hu]);rw[e,E7 l (ZN v _) hu (fun x hx=>ha x (tR _ hx))];simp[ZN,LR,h]);·(have e:Q7 D v a=v:=by rw[Q7,if_neg (by omega),if_pos h,if_neg (by simp[hu])]);rw[e,E7 l v hu (fun x hx=>ha x (tR _ hx))];simp[LR,h]
theorem mM(v:Sv)(s:Nat){d:List UInt8}(hd:QJ d≠0):Q7 D v ⟨1,(s:Int),0,d⟩=ZN v (Ga s (if v.up=N then 13 else QJ d)):=by
 show(if(1:Int)=1then Xa D v (s:Int).toNat d else _)=_;rw[if_pos rfl,sL,Xa,if_neg hd];split<;>rfl
theorem IP(v:Sv)(s:Nat){r:Rq}(hr:Yc r)(hk:r.kind=8):Q7 D v (Uq s r)=if v.up=N then ZN v (Ga s 13)else Nz v s r:=by
 rw[uA v s hr,Jg,if_pos hk]
theorem gZ(v:Sv)(s:Nat){r:Rq}(hr:Yc r)(hk:r.kind=8):Same v (Q7 D v (Uq s r))∧∃p,(Q7 D v (Uq s r)).out=v.out++[p]:=by
 rw[IP v s hr hk];split;·exact⟨⟨rfl,rfl,rfl,rfl,rfl,rfl⟩,_,rfl⟩
 ·exact⟨⟨rfl,rfl,rfl,rfl,rfl,rfl⟩,_,rfl⟩
theorem lW{v u:Sv}(h:Same v u):(K2 u).up=(K2 v).up∧(K2 u).turn=(K2 v).turn∧(K2 u).pending=(K2 v).pending∧(K2 u).forest=(K2 v).forest:=by
 unfold K2 QE;rw[h.up,h.synced,h.queue,h.commits];exact⟨rfl,rfl,rfl,rfl⟩
theorem dF(v:Sv)(s:Nat){r:Rq}(hr:Yc r)(hk:r.kind≠6):dD s v (Q7 D v (Uq s r)):=by
 have e:Q7 D v (Uq s r)=Xa D v s (Kw r):=by show(if(1:Int)=1then Xa D v (s:Int).toNat (Kw r)else _)=_;rw[if_pos rfl,sL]
 rw[e];rcases Tw D v s (Kw r)with h|⟨_,_,h,_⟩;·exact h
 ·rw[(RG hr).2]at h;exact absurd h hk
theorem If(s:Nat):∀(l:List Rq)(v:Sv),(∀r∈l,Yc r∧r.kind≠6)->Same v ((l.map (Uq s)).foldl (Q7 D) v)∧((l.map (Uq s)).foldl (Q7 D) v).out.length=v.out.length+l.length|[],v,_=>⟨Same.rfl,rfl⟩|r::l,v,h=>by rw[pI,sG];have h1:=dF (D:=D) v s (h r tS).1 (h r tS).2;obtain⟨h2,h3⟩:=If s l (Q7 D v (Uq s r)) (fun x hx=>h x (tR _ hx));obtain⟨p,h4,_⟩:=h1.out;refine⟨h1.toSame.trans h2,?_⟩;rw[h3,h4,tC,sD,sD,pM];omega
structure jH (s n : Nat) (v : Sv) : Prop where
  up : v.up = M
  begun : v.begun s = M
  waits : v.waits s = N
  txn : (v.txns s).start = (n : Int) ∧ (v.txns s).writes = []
  synced : v.synced = n
theorem Cg(n:Nat):ZK (n:Int) (n:Int)=M:=by
 rw[ZK,decide_eq_true_iff];omega
theorem dA{k:Int}(h:k=1∨k=6∨k=7):Yc (To k):=by
 have hn:QV k=N:=by rcases h with h|h|h<;>subst h<;>decide
 exact⟨by rcases h with h|h|h<;>subst h<;>decide,(fun e=>by rw[show(To k).kind=k from rfl,hn]at e;cases e),(fun e=>by rw[show(To k).kind=k from rfl,hn]at e;cases e),(fun e=>by have:k=3:=e;omega),(by decide:(0:Nat)<=32),fun _=>rfl,fun _=>rfl,fun _=>rfl,fun _=>rfl⟩
theorem iW{s:Nat}(hu:v.up=M)(hw:v.waits s=N):jH s v.synced ([Uq s (To 7),Uq s (To 1)].foldl (Q7 D) v)∧Same v ([Uq s (To 7),Uq s (To 1)].foldl (Q7 D) v):=by
 have e1:∃u,Q7 D v (Uq s (To 7))=u∧Same v u∧u.begun s=N:=by refine⟨_,rfl,?_⟩;rw[uA v s (dA (.inr (.inr rfl))),if_neg (by simp[hu]),Jg,if_neg (by decide:¬(To 7).kind=8)];unfold QI;rw[hw,pR,if_neg (by decide:¬(To 7).kind=1)];by_cases hb:v.begun s=M;(·rw[if_neg (by simp[hb]),if_neg (by decide:¬(To 7).kind=1),if_pos (show(To 7).kind=7from rfl)];exact⟨⟨rfl,rfl,rfl,rfl,rfl,rfl⟩,ZM _ _ _⟩);·rw[if_pos (by simp[hb])];exact⟨⟨rfl,rfl,rfl,rfl,rfl,rfl⟩,(by simpa using hb:v.begun s=N)⟩
 obtain⟨u,e1,h1,h2⟩:=e1;rw[sG,sG,pP,e1,uA u s (dA (.inl rfl)),if_neg (by simp[h1.up,hu]),Jg,if_neg (by decide:¬(To 1).kind=8)];unfold QI;rw[h1.waits,hw,pR,if_pos (show(To 1).kind=1from rfl),h2,if_neg (by decide),if_pos (show(To 1).kind=1from rfl)];refine⟨⟨h1.up.trans hu,ZM _ _ _,?_,?_,h1.synced⟩,⟨h1.up,h1.tape,h1.commits,h1.synced,rfl,h1.queue⟩⟩;·exact hw
 ·show(UC u.txns s _ s).start=_∧(UC u.txns s _ s).writes=[];rw[ZM,h1.synced];exact⟨rfl,rfl⟩
theorem Cw{t:Tx}{x:Rd}(h:Xj t x=0):(XW t x).start=t.start∧(XW t x).writes=t.writes:=by
 refine⟨zB h,?_⟩;unfold XW;rw[if_pos h];split<;>rfl
theorem TZ{s n:Nat}(h:jH s n v)(x:Rd)(o:Rp):jH s n (UF v s x o):=by
 unfold UF;split;·have k:=Cw (by assumption:Xj (v.txns s) x=0);refine⟨h.up,h.begun,h.waits,?_,h.synced⟩;show(UC v.txns s _ s).start=_∧(UC v.txns s _ s).writes=[];rw[ZM,k.1,k.2];exact h.txn
 ·exact⟨h.up,h.begun,h.waits,h.txn,h.synced⟩
theorem kI{s n:Nat}(h:jH s n v)(r:Rp):jH s n (ZN v r):=⟨h.up,h.begun,h.waits,h.txn,h.synced⟩
theorem AL{s n:Nat}(h:jH s n v){r:Rq}(hr:Yc r)(hk:r.kind=2∨r.kind=3∨r.kind=8):jH s n (Q7 D v (Uq s r)):=by
 rw[uA v s hr,if_neg (by simp[h.up]),Jg];by_cases h8:r.kind=8;·rw[if_pos h8];exact kI h _
 ·(have hb:QI v s r=N:=by unfold QI;rw[h.waits,if_neg (by omega),h.begun];rfl);rw[if_neg h8,hb,if_neg (by decide),if_neg (by omega),if_neg (by omega),h.txn.1,h.synced,Cg,if_neg (by decide),if_neg (by omega),jQ,if_neg (by omega)];split;(·unfold Mr;split;(·exact kI h _);·exact TZ h _ _);·unfold vP;split;(·exact TZ h _ _);·exact kI h _
theorem DV{s n:Nat}:∀(l:List Rq)(v:Sv),jH s n v->(∀r∈l,Yc r∧(r.kind=2∨r.kind=3∨r.kind=8))->jH s n ((l.map (Uq s)).foldl (Q7 D) v)|[],_,h,_=>h|r::l,v,h,hl=>by rw[pI,sG];exact DV l _ (AL h (hl r tS).1 (hl r tS).2) (fun x hx=>hl x (tR _ hx))
theorem dI{s n:Nat}(h:jH s n v):Same v (Q7 D v (Uq s (To 6)))∧(Q7 D v (Uq s (To 6))).out=v.out++[aS s (n:Int)]:=by
 have hb:QI v s (To 6)=N:=by unfold QI;rw[h.waits,if_neg (by decide:¬(To 6).kind=1),h.begun];rfl
 rw[uA v s (dA (.inr (.inl rfl))),if_neg (by simp[h.up]),Jg,if_neg (by decide:¬(To 6).kind=8),hb,if_neg (by decide),if_neg (by decide:¬(To 6).kind=1),if_neg (by decide:¬(To 6).kind=7),h.txn.1,h.synced,Cg,if_neg (by decide),if_pos (show(To 6).kind=6from rfl),JR,if_pos (by rw[h.txn.2];rfl),h.txn.1];exact⟨⟨rfl,rfl,rfl,h.synced.symm▸rfl,rfl,rfl⟩,rfl⟩
theorem iB(h:Zc D v):([Pf,Zb].foldl (Q7 D) v).up=M∧([Pf,Zb].foldl (Q7 D) v).queue=[]:=by
 rw[sG,sG,pP,aQ,Fc];refine⟨rfl,?_⟩;split;·rfl
 ·exact(h.down (by simpa using(by assumption:¬v.up=M))).1
theorem Zc.nowait(h:Zc D v)(hq:v.queue=[])(s:Nat):v.waits s=N:=by
 cases e:v.waits s with|false=>rfl|true=>have:=(h.wait s).mp e;rw[hq]at this;cases this
theorem lA{cs:List XF}{j n:Nat}(h:n<=j):(cs.take j).take n=cs.take n:=by
 rw[pD,rV h]
theorem CQ(hD:∀x,(D x).length=4)(h:Zc D v){k:Int}(hk:0<=k):∃j,v.synced<=j∧j<=v.synced+v.queue.length∧(k=0->j=v.synced)∧Q7 D (Q7 D v (ZJ k)) Zb={(Q7 D v (ZJ k))with up:=M}∧(Q7 D v (ZJ k)).up=N∧(Q7 D v (ZJ k)).synced=j∧(Q7 D v (ZJ k)).queue=[]∧(Q7 D v (ZJ k)).out=v.out∧(Q7 D v (ZJ k)).commits=v.commits.take j:=by
 rw[Fc];by_cases hu:v.up=M;·obtain⟨j,h1,h2,h3,h4⟩:=Ut hD h hk;rw[Pi,if_pos hu,h3];refine⟨j,h1,by have:=h.turn;omega,h4,rfl,rfl,?_,rfl,rfl,rfl⟩;show(v.commits.take j).length=j;rw[rG,rV h2]
 ·(have hf:v.up=N:=by simpa using hu);(have e:Q7 D v (ZJ k)=v:=by rw[Pi,if_neg hu]);rw[e];have hq:=(h.down hf).1;refine⟨v.synced,tW _,by omega,fun _=>rfl,rfl,hf,rfl,hq,rfl,?_⟩;rw[pT (by have:=h.turn;rw[hq]at this;simp at this;omega)]
end
section
structure Se where
  begun : Bool
  start : Int
  writes : List Zh
structure Md where
  ses : Nat -> Se
  states : List FL
variable{D:List UInt8->List UInt8}{v:Sv}{m:Md}
theorem Gy(v:Sv)(n:Nat):Xs (QE v n):=qT _ _ VQ
end
section
variable{D:List UInt8->List UInt8}{v:Sv}{m:Md}
theorem Co{r:Rq}(hr:Yc r)(hk:r.kind=2∨r.kind=3):(1<=r.name.length∧r.name.length<=8)∧(1<=r.key.length∧r.key.length<=16):=by
 have:QV r.kind=M:=by rcases hk with e|e<;>rw[e]<;>decide
 exact⟨hr.name this,hr.key this⟩
end
def Ii:Prop:=∀(w:F)(v u:H)(t:Tx)(l:List XF),GZ w v t->xH t->Jd w u l->Av l->rA O 120 #[v,u] w fun e w'=>e=tE (sM #[tP (UO t l),tA tD (TH t)])∧L w w' G
def fP:Prop:=∀(w:F)(v:H)(c:XF),Kb w v c->NW c->rA O 146 #[v] w fun e w'=>∃x,e=tE (sM #[x,tA tD (Za c)])∧Qe w' x (TO c)∧L w w' G
def Hl:Prop:=∀(w:F)(v:H)(c:XF),Kb w v c->NW c->rA O 150 #[v] w fun e w'=>e=tE (tA tD (Za c))∧L w w' G
theorem Tu(w:F):(sizeOf (O.elem 25)).run O w=.ok 1 w:=by
 kernel_rfl
theorem Qe.cap{w:F}{a:Option rI}{n cap:Nat}{bs:List UInt8}(h:Qe w (J a n cap) bs):bs.length<=cap∧n=bs.length:=by
 obtain⟨a',cap',e,hc,_⟩:=h;simp only[tI]at e;obtain⟨_,rfl,rfl⟩:=e;exact⟨hc,rfl⟩
theorem Qe.byte{w:F}{a:Option rI}{n cap:Nat}{bs:List UInt8}(h:Qe w (J a n cap) bs)(i:Nat)(hi:i<bs.length):∃b o,a=I ⟨b,o,G⟩∧KQ w b o bs:=by
 obtain⟨a',cap',e,hc,h⟩:=h;simp only[tI]at e;obtain⟨rfl,rfl,rfl⟩:=e;rcases h with⟨rfl,_⟩|⟨b,o,rfl,h⟩;·simp at hi
 ·exact⟨b,o,rfl,h⟩
theorem Qe.sliced{w:F}{a:Option rI}{cap:Nat}{l:List UInt8}(h:Qe w (J a l.length cap) l)(i j:Nat)(hij:i<=j)(hj:j<=l.length):Qe w (sV a i j cap 1) ((l.take j).drop i):=by
 obtain⟨a',cap',e,hc,h⟩:=h;simp only[tI,true_and]at e;obtain⟨rfl,rfl⟩:=e;have hlen:((l.take j).drop i).length=j-i:=by simp;omega
 refine⟨if cap=i then a else a.map (·.add (i*1)),cap-i,by rw[hlen];rfl,by rw[hlen];omega,?_⟩;by_cases hci:cap=i;·left;exact⟨tL (by rw[hlen];omega),fun _=>by omega⟩
 ·rw[if_neg hci];rcases h with⟨rfl,h⟩|⟨b,o,rfl,h⟩;(·left;refine⟨by simp,fun e=>?_⟩;cases a with|none=>have:=h rfl;simp at hj;omega|some x=>cases e);·right;refine⟨b,o+i,by simp[Z4],fun k hk=>?_⟩;rw[hlen]at hk;have:=h (i+k) (by omega);(have e:((l.take j).drop i).getD k 0=l.getD (i+k) 0:=by simp[show i+k<j by omega]);rw[e,show o+i+k=o+(i+k)by omega];exact this
theorem xA(a:Option rI)(cap:Nat)(l:List UInt8)(n:Nat)(hn:n<=l.length)(hc:l.length<=cap):∃a1 c1,(∀W,(rX 25 (J a l.length cap) G (I (tA tD (n:Int))) G).run O W=.ok (J a1 n c1) W)∧∀W,Qe W (J a l.length cap) l->Qe W (J a1 n c1) (l.take n):=by
 refine⟨if cap=0then a else a.map (·.add (0*1)),cap-0,fun W=>?_,fun W h=>?_⟩;·rw[run_slice_h _ _ _ _ _ (by kernel_rfl) _ _ (by omega) (by omega),Tu];simp only[rN,sV,sL,pK]
 ·have:=h.sliced 0 n (by omega) hn;simpa only[sV,oJ,pK]using this
theorem GP(a:Option rI)(cap:Nat)(l:List UInt8)(i j:Nat)(hij:i<=j)(hj:j<=l.length)(hc:l.length<=cap):∃a1 c1,(∀W,(rX 25 (J a l.length cap) (I (tA tD (i:Int))) (I (tA tD (j:Int))) G).run O W=.ok (J a1 (j-i) c1) W)∧∀W,Qe W (J a l.length cap) l->Qe W (J a1 (j-i) c1) ((l.take j).drop i):=by
 refine⟨if cap=i then a else a.map (·.add (i*1)),cap-i,fun W=>?_,fun W h=>?_⟩;·rw[run_slice_lh _ _ _ _ _ (by kernel_rfl) _ _ _ _ (by omega) (by omega) (by omega),Tu];simp only[rN,sV,sL]
 ·have:=h.sliced i j hij hj;simpa only[sV]using this
theorem VY(a:Option rI)(cap:Nat)(l:List UInt8)(n:Nat)(hn:n<=l.length):∃a1 c1,(∀W,(rX 25 (J a l.length cap) (I (tA tD (n:Int))) G G).run O W=.ok (J a1 (l.length-n) c1) W)∧∀W,Qe W (J a l.length cap) l->Qe W (J a1 (l.length-n) c1) (l.drop n):=by
 refine⟨if cap=n then a else a.map (·.add (n*1)),cap-n,fun W=>?_,fun W h=>?_⟩;·rw[run_slice_l _ _ _ _ _ (by kernel_rfl) _ _ (by omega) (by omega),Tu];simp only[rN,sV,sL]
 ·have:=h.sliced n l.length hn (tW _);simpa only[sV,sI]using this
theorem Cp{ws:List Zh}(hn:ws.length<=1000)(h:∀w∈ws,QD w=0):uH ws:=⟨by
 omega,fun j hj=>by
 have h0:=h ws[j] (sU hj);rw[show ws[j]=ws.getD j Qr by simp[hj]]at h0;have h2:=(XQ _).1 h0;have h3:(ws.getD j Qr).value.length<=32:=by have:=h2.2.2;split at this;(·rw[this];simp);·exact this
 exact⟨by omega,by omega,by omega⟩⟩
theorem Dy{c:XF}(h:Za c=0):NW c:=by
 obtain⟨h1,h2,h3⟩:=(KW c).1 h;exact⟨by omega,Cp (by omega) h3⟩
def IC:Prop:=∀(w:F)(v u a b c:H)(l:FL)(t:Tx)(n k m:List UInt8),Zz w v l->UG l->GZ w u t->xH t->Qe w a n->Qe w b k->Qe w c m->n.length<=140737488355328->k.length<=140737488355328->m.length<=140737488355328->rA O 101 #[v,u,a,b,c] w fun e w'=>∃x,e=tE (sM #[x,tA tD (KH l t n k m)])∧QN 0 w' x (V3 l t n k m)∧L w w' G
def I9:Prop:=∀(w:F)(v u x:H)(l:PL)(f t:List UInt8),Qs w v l->Qe w u f->Qe w x t->uD l->f.length<=140737488355328->t.length<=140737488355328->rA O 135 #[v,u,x] w fun e w'=>∃y,e=tE (sM #[y,tA tD (YI l f t)])∧QN 0 w' y (KV l f t)∧L w w' G
def ID:Prop:=∀(w:F)(v r u t:H)(l:FL)(n k m:List UInt8),Zz w v l->Qe w r n->Qe w u k->Qe w t m->UG l->n.length<=140737488355328->k.length<=140737488355328->m.length<=140737488355328->rA O 113 #[v,r,u,t] w fun e w'=>∃x,e=tE (sM #[x,tA tD (YK l n k m)])∧QN 0 w' x (Ks l n k m)∧L w w' G
def Mj:Prop:=∀(w:F)(v:H)(bs:List UInt8)(i:Int),Qe w v bs->rA O 80 #[v,tA tD i] w fun e w'=>e=tE (sM #[tP (AQ bs i).1,tA tD (AQ bs i).2])∧L w w' G
theorem Mj.of(hB:Mj)(w:F)(v:H)(k:List UInt8)(i:Nat)(hv:Qe w v k)(hk:1<=k.length∧k.length<=16)(hi:i<145):rA O 80 #[v,tA tD (i:Int)] w fun e w'=>e=tE (sM #[tP (ZW k i),tA tD 0])∧L w w' G:=by
 have:=hB w v k i hv;rw[eJ k i hk hi]at this;exact this
def Eb:Prop:=∀(w:F)(v u:H)(a b:List UInt8),Qe w v a->Qe w u b->rA O 78 #[v,u] w fun e w'=>e=tE (sM #[tA tD (Tg a b).1,tA tD (Tg a b).2])∧L w w' G
theorem Eb.of(hP:Eb)(w:F)(v u:H)(a b:List UInt8)(hv:Qe w v a)(hu:Qe w u b)(ha:1<=a.length∧a.length<=16)(hb:1<=b.length∧b.length<=16):rA O 78 #[v,u] w fun e w'=>e=tE (sM #[tA tD (JT a b),tA tD 0])∧L w w' G:=by
 have:=hP w v u a b hv hu;rw[aU a b ha hb]at this;exact this
def S8:Prop:=∀(w:F)(v u:H)(t:Tx)(r:Zh),GZ w v t->xH t->Xe w u r->YV r->rA O 103 #[v,u] w fun e w'=>∃x,e=tE (sM #[x,tA tD (Xl t r)])∧GQ w' x (Yj t r)∧L w w' G
def Ht:Prop:=∀(w:F)(v:H)(r:Rq),UD w->XI w v r->yG r->rA O 102 #[v] w fun e w'=>∃x,e=tE (sM #[x,tA tD (Jc r)])∧Xe w' x (Xm r)∧L w w' G
def aV:Prop:=∀(w:F)(n t:Int),-9223372036854775808<=n->n<=9223372036854775807->-9223372036854775808<=t->t<=9223372036854775807->rA O 98 #[tA tD n,tA tD t] w fun e w'=>e=tE (tP (ZK n t))∧L w w' G
def dR:Prop:=∀(w:F)(v:H)(b:List UInt8),UD w->Qe w v b->b.length<=140737488355328->rA O 13 #[v] w fun e w'=>∃x,e=tE (sM #[x,tA tD (QJ b)])∧XI w' x (Qu b)∧L w w' G
theorem IM(b:List UInt8)(n:Nat)(h:n<b.length):Zv (b.drop n)=if n+1+(b.getD n 0).toNat<=b.length then I ((b.take (n+1+(b.getD n 0).toNat)).drop (n+1),b.drop (n+1+(b.getD n 0).toNat))else G:=by
 rw[sZ h,Zv,show b[n]=b.getD n 0 by simp[h],oD];by_cases hc:n+1+(b.getD n 0).toNat<=b.length;·rw[if_pos (by omega),if_pos hc,List.drop_take,List.drop_drop,Nat.add_sub_cancel_left]
 ·rw[if_neg (by omega),if_neg hc]
def RI(ws:List Zh):Prop:=∀p∈ws,p.name.length<=255∧p.key.length<=255∧p.value.length<=255
theorem Bn{ws:List Zh}{p:Zh}(h:RI ws)(hp:p.name.length<=255∧p.key.length<=255∧p.value.length<=255):RI (ws++[p]):=fun q hq=>by
 rcases tX.1 hq with hq|hq;·exact h q hq
 ·simp only[tK,tM,or_false]at hq;rw[hq];exact hp
theorem Ib{b:List UInt8}(h:4000<b.length):YL b=1∧JM b=Zm:=by
 have:YL b=1:=by rw[YL,if_pos h]
 exact⟨this,by rw[JM,this,if_neg (by decide)]⟩
theorem S4{b:List UInt8}(h:b.length<4):YL b=14∧JM b=Zm:=by
 have:YL b=14:=by rw[YL,if_neg (by omega),if_pos h]
 exact⟨this,by rw[JM,this,if_neg (by decide)]⟩
theorem Hv{b:List UInt8}(h1:¬4000<b.length)(h2:¬b.length<4)(h:G4 b=G):YL b=14∧JM b=Zm:=by
 have:YL b=14:=by rw[YL,if_neg h1,if_neg h2,h]
 exact⟨this,by rw[JM,this,if_neg (by decide)]⟩
theorem Hi{b r:List UInt8}{ws:List Zh}(h1:¬4000<b.length)(h2:¬b.length<4)(h:G4 b=I (ws,r))(hr:r.length≠0):YL b=4∧JM b=Zm:=by
 have:YL b=4:=by rw[YL,if_neg h1,if_neg h2,h];show(if r.length=0then _ else(4:Int))=4;rw[if_neg hr]
 exact⟨this,by rw[JM,this,if_neg (by decide)]⟩
theorem Ir{b r:List UInt8}{ws:List Zh}(h1:¬4000<b.length)(h2:¬b.length<4)(h:G4 b=I (ws,r))(hr:r.length=0):YL b=Za ⟨(Gg b:Int),ws⟩∧(YL b=0->JM b=⟨(Gg b:Int),ws⟩)∧(YL b≠0->JM b=Zm):=by
 have:YL b=Za ⟨(Gg b:Int),ws⟩:=by rw[YL,if_neg h1,if_neg h2,h];show(if r.length=0then _ else(4:Int))=_;rw[if_pos hr]
 refine⟨this,fun h0=>?_,fun h0=>?_⟩;·rw[JM,if_pos h0,h]
 ·rw[JM,if_neg h0]
def Xk(k:Int)(m:Nat)(p0 p1 p2 p3 r:List UInt8):Option (Rq×List UInt8):=match m with|0=>Yg k r|1=>Vq k p0 r|2=>Vs k p0 p1 r|3=>Vr k p0 p1 p2 r|_=>I (⟨k,p0,p1,p2,p3⟩,r)
theorem Ka(r:List UInt8):Jo M r=Zv r:=rfl
theorem yQ(r:List UInt8)(h:r.length=0):Zv r=G:=by
 rw[tL h];rfl
theorem uK(r:List UInt8)(h:0<r.length):Zv r=if 1+(r.getD 0 0).toNat<=r.length then I ((r.take (1+(r.getD 0 0).toNat)).drop 1,r.drop (1+(r.getD 0 0).toNat))else G:=by
 have:=IM r 0 h;rw[sS]at this;exact this
theorem qH(k:Int)(p0 p1 p2 p3 r:List UInt8):(QS k 0=N->Xk k 0 p0 p1 p2 p3 r=Xk k 1 [] p1 p2 p3 r)∧(QS k 1=N->Xk k 1 p0 p1 p2 p3 r=Xk k 2 p0 [] p2 p3 r)∧(QS k 2=N->Xk k 2 p0 p1 p2 p3 r=Xk k 3 p0 p1 [] p3 r)∧(QS k 3=N->Xk k 3 p0 p1 p2 p3 r=Xk k 4 p0 p1 p2 [] r):=by
 refine⟨fun h=>?_,fun h=>?_,fun h=>?_,fun h=>?_⟩;·show Yg k r=Vq k [] r;rw[Yg,show QV k=N from h];rfl
 ·show Vq k p0 r=Vs k p0 [] r;rw[Vq,show QV k=N from h];rfl
 ·show Vs k p0 p1 r=Vr k p0 p1 [] r;rw[Vs,show tU (k=3)=N from h];rfl
 ·show Vr k p0 p1 p2 r=I (⟨k,p0,p1,p2,[]⟩,r);rw[Vr,show tU (k=4)=N from h];rfl
theorem Gi(k:Int)(p0 p1 p2 p3 r:List UInt8)(h0:Zv r=G)(m:Nat)(hm:m<4)(h:QS k m=M):Xk k m p0 p1 p2 p3 r=G:=by
 match m,hm with|0,_=>show Yg k r=G;rw[Yg,show QV k=M from h,Ka,h0]|1,_=>show Vq k p0 r=G;rw[Vq,show QV k=M from h,Ka,h0]|2,_=>show Vs k p0 p1 r=G;rw[Vs,show tU (k=3)=M from h,Ka,h0]|3,_=>show Vr k p0 p1 p2 r=G;rw[Vr,show tU (k=4)=M from h,Ka,h0]
theorem Gj(k:Int)(p0 p1 p2 p3 r p r2:List UInt8)(h0:Zv r=I (p,r2)):(QS k 0=M->Xk k 0 p0 p1 p2 p3 r=Xk k 1 p p1 p2 p3 r2)∧(QS k 1=M->Xk k 1 p0 p1 p2 p3 r=Xk k 2 p0 p p2 p3 r2)∧(QS k 2=M->Xk k 2 p0 p1 p2 p3 r=Xk k 3 p0 p1 p p3 r2)∧(QS k 3=M->Xk k 3 p0 p1 p2 p3 r=Xk k 4 p0 p1 p2 p r2):=by
 refine⟨fun h=>?_,fun h=>?_,fun h=>?_,fun h=>?_⟩;·show Yg k r=Vq k p r2;rw[Yg,show QV k=M from h,Ka,h0]
 ·show Vq k p0 r=Vs k p0 p r2;rw[Vq,show QV k=M from h,Ka,h0]
 ·show Vs k p0 p1 r=Vr k p0 p1 p r2;rw[Vs,show tU (k=3)=M from h,Ka,h0]
 ·show Vr k p0 p1 p2 r=I (⟨k,p0,p1,p2,p⟩,r2);rw[Vr,show tU (k=4)=M from h,Ka,h0]
def Ie(k:Int)(b:List UInt8):Int:=match Yg k b with|none=>14|I (_,x)=>if x.length=0then 0 else 4
def TP(k:Int)(b:List UInt8):Rq:=match Yg k b with|none=>Gd|I (r,x)=>if x.length=0then r else Gd
theorem F2{k:Int}{b:List UInt8}(h:Yg k b=G):Ie k b=14∧TP k b=Gd:=by
 unfold Ie TP;rw[h];exact⟨rfl,rfl⟩
theorem F7{k:Int}{b x:List UInt8}{r:Rq}(h:Yg k b=I (r,x))(hx:0<x.length):Ie k b=4∧TP k b=Gd:=by
 unfold Ie TP;rw[h];exact⟨if_neg (by omega),if_neg (by omega)⟩
theorem F1{k:Int}{b x:List UInt8}{r:Rq}(h:Yg k b=I (r,x))(hx:x.length=0):Ie k b=0∧TP k b=r:=by
 unfold Ie TP;rw[h];exact⟨if_pos hx,if_pos hx⟩
theorem eV{k:Int}{b:List UInt8}(h:Ie k b=0):(TP k b).kind=k:=by
 match hD:Yg k b with|none=>rw[(F2 hD).1]at h;cases h|I (r,x)=>by_cases hx:x.length=0;(·rw[(F1 hD hx).2];exact(TN hD).2);·rw[(F7 hD (by omega)).1]at h;cases h
theorem eO{b:List UInt8}(h1:¬4000<b.length)(h2:¬b.length=0)(hk:1<=Uz b∧Uz b<=8):QJ b=(if Ie (Uz b) (b.drop 1)=0then Yl (TP (Uz b) (b.drop 1))else Ie (Uz b) (b.drop 1))∧(QJ b=0->Qu b=TP (Uz b) (b.drop 1)):=by
 match hD:Yg (Uz b) (b.drop 1)with|none=>obtain⟨e1,e2⟩:=F2 hD;(have:QJ b=14:=by rw[QJ,if_neg h1,if_neg h2,if_pos hk,hD]);rw[e1,this];exact⟨rfl,fun h=>by cases h⟩|I (r,x)=>(have hw:QJ b=if x.length=0then Yl r else 4:=by rw[QJ,if_neg h1,if_neg h2,if_pos hk,hD]);by_cases hx:x.length=0;(·obtain⟨e1,e2⟩:=F1 hD hx;rw[if_pos hx]at hw;rw[e1,e2,if_pos rfl];exact⟨hw,fun h=>by rw[Qu,if_pos h,hD]⟩);·obtain⟨e1,e2⟩:=F7 hD (by omega);rw[if_neg hx]at hw;rw[e1,hw];exact⟨rfl,fun h=>by cases h⟩
theorem dQ{k:Int}{b:List UInt8}(hb:b.length<=4000):(TP k b).name.length<=4000∧(TP k b).key.length<=4000∧(TP k b).last.length<=4000∧(TP k b).value.length<=4000:=by
 match hD:Yg k b with|none=>rw[(F2 hD).2];simp[Gd]|I (r,x)=>by_cases hx:x.length=0;(·rw[(F1 hD hx).2];obtain⟨_,r1,r2,r3,h1,h2,h3,h4⟩:=kW hD;(have key:∀{c:Bool}{r p r2:List UInt8},Jo c r=I (p,r2)->p.length<=r.length∧r2.length<=r.length:=by intro c r p r2 h;have hf:=VW h;cases c with|false=>have:=Io h rfl;subst this;rw[hf];exact⟨tV _,by simp[Xq]⟩|true=>rw[hf];simp[Xq,XS];omega);have a1:=key h1;have a2:=key h2;have a3:=key h3;have a4:=key h4;omega);·rw[(F7 hD (by omega)).2];simp[Gd]
section
variable{D:List UInt8->List UInt8}{v:Sv}
theorem CE:∀(l:List Ac)(v:Sv),∃rs,(l.foldl (Q7 D) v).out=v.out++rs|[],_=>⟨[],by simp⟩|a::l,v=>by obtain⟨r1,e1⟩:=LN D v a;obtain⟨r2,e2⟩:=CE l (Q7 D v a);exact⟨r1++r2,by rw[sG,e2,e1,pZ]⟩
theorem lB(l:List Ac)(k:Nat):∃rs,(Z7 D l).out=(Z7 D (l.take k)).out++rs:=by
 obtain⟨rs,e⟩:=CE (D:=D) (l.drop k) (Z7 D (l.take k));refine⟨rs,?_⟩;rw[<-e,<-Fj,pC]
theorem N4(hD:∀x,(D x).length=4):∀(l:List Ac)(v:Sv),Zc D v->(∀a∈l,Xn a)->v.synced<=(l.foldl (Q7 D) v).synced|[],_,_,_=>tW _|a::l,v,h,ha=>by have h1:=(Eh hD h (ha a tS)).1;exact tQ h1 (N4 hD l _ (h.act hD (ha a tS)) (fun x hx=>ha x (tR _ hx)))
def PX(D:List UInt8->List UInt8):Sv->List Ac->List Int|_,[]=>[]|v,a::l=>(if a.kind=2then((Q7 D v a).out.drop v.out.length).map (fun r=>r.turn)else[])++PX D (Q7 D v a) l
theorem Fu:∀(q:List Nat)(n:Nat),(∀t∈(JU n q).map (fun r=>r.turn),(n:Int)<t∧t<=((n+q.length:Nat):Int))∧((JU n q).map (fun r=>r.turn)).Pairwise (·<·)|[],n=>⟨fun t ht=>by simp[JU]at ht,by simp[JU]⟩|s::q,n=>by obtain⟨h1,h2⟩:=Fu q (n+1);rw[JU,pI];refine⟨fun t ht=>?_,rD.2 ⟨fun t ht=>?_,h2⟩⟩;(·rcases tK.1 ht with e|e;(·rw[e];show(n:Int)<((n+1:Nat):Int)∧((n+1:Nat):Int)<=((n+(q.length+1):Nat):Int);omega);·have:=h1 t e;rw[sD];omega);·show((n+1:Nat):Int)<t;exact(h1 t ht).1
theorem S5(v:Sv){a:Ac}(ha:a.kind=2):(∀t∈((Q7 D v a).out.drop v.out.length).map (fun r=>r.turn),(v.synced:Int)<t∧t<=((Q7 D v a).synced:Int))∧(((Q7 D v a).out.drop v.out.length).map (fun r=>r.turn)).Pairwise (·<·):=by
 rw[Q7,if_neg (by omega),if_pos ha];split;·show(∀t∈((v.out++JU v.synced v.queue).drop v.out.length).map _,_∧t<=((v.synced+v.queue.length:Nat):Int))∧(((v.out++JU v.synced v.queue).drop v.out.length).map _).Pairwise _;rw[List.drop_left];exact Fu v.queue v.synced
 ·rw[List.drop_length];exact⟨fun t ht=>by simp at ht,by simp⟩
theorem bS(hD:∀x,(D x).length=4):∀(l:List Ac)(v:Sv),Zc D v->(∀a∈l,Xn a)->(∀t∈PX D v l,(v.synced:Int)<t∧t<=((l.foldl (Q7 D) v).synced:Int))∧(PX D v l).Pairwise (·<·)|[],v,_,_=>⟨fun t ht=>by simp[PX]at ht,by simp[PX]⟩|a::l,v,h,ha=>by have hA:=ha a tS;have hl:∀x∈l,Xn x:=fun x hx=>ha x (tR _ hx);have hg:=h.act hD hA;have ht:=(Eh hD h hA).1;have hr:=N4 hD l _ hg hl;obtain⟨h1,h2⟩:=bS hD l _ hg hl;rw[PX,sG];by_cases e:a.kind=2;(·rw[if_pos e];obtain⟨k1,k2⟩:=S5 (D:=D) v e;refine⟨fun t hm=>?_,List.pairwise_append.2 ⟨k2,h2,fun x hx y hy=>?_⟩⟩;(·rcases tX.1 hm with hm|hm;(·have:=k1 t hm;omega);·have:=h1 t hm;omega);·have:=k1 x hx;have:=h1 y hy;omega);·rw[if_neg e,pN];exact⟨fun t hm=>by have:=h1 t hm;omega,h2⟩
theorem gU(v:Sv){a:Ac}(ha:a.kind=1):((Q7 D v a).out.length=v.out.length+1∧(∃p,(Q7 D v a).out=v.out++[p]∧p.sess=(a.sess.toNat:Int))∧(Q7 D v a).waits=v.waits∧(Q7 D v a).queue=v.queue∧(Q7 D v a).up=v.up)∨((Q7 D v a).out=v.out∧v.up=M∧QJ a.data=0∧(Qu a.data).kind=6∧v.waits a.sess.toNat=N∧(Q7 D v a).waits=UC v.waits a.sess.toNat M∧(Q7 D v a).queue=v.queue++[a.sess.toNat]∧(Q7 D v a).up=v.up):=by
 rw[Q7,if_pos ha];rcases Tw D v a.sess.toNat a.data with h|⟨h1,h2,h3,h4,_,h6⟩;·obtain⟨p,e1,e2⟩:=h.out;exact .inl ⟨by rw[e1];simp,⟨p,e1,e2⟩,h.waits,h.queue,h.up⟩
 ·exact .inr ⟨h6.out,h1,h2,h3,h4,h6.waits,h6.queue,h6.up⟩
theorem gM(v:Sv)(hu:v.up=M){a:Ac}(ha:a.kind=2):(Q7 D v a).out=v.out++JU v.synced v.queue∧(Q7 D v a).waits=UK v.waits v.queue∧(Q7 D v a).queue=[]∧(Q7 D v a).up=M:=by
 rw[Q7,if_neg (by omega),if_pos ha,if_pos hu];exact⟨rfl,rfl,rfl,hu⟩
theorem dW(h:Zc D v){a:Ac}(ha:a.kind=3):(Q7 D v a).out=v.out∧(∀s,(Q7 D v a).waits s=N)∧(Q7 D v a).queue=[]∧(Q7 D v a).up=N:=by
 rw[Q7,if_neg (by omega),if_neg (by omega),if_pos ha];split;·exact⟨rfl,fun _=>rfl,rfl,rfl⟩
 ·(have hf:v.up=N:=by simpa using(by assumption:¬v.up=M));exact⟨rfl,fun s=>h.nowait (h.down hf).1 s,(h.down hf).1,hf⟩
end
theorem MO{w:F}{o:rM}{a:Act}{K:Act->F->Prop}{Q:Exit->Act->F->Prop}(s x:rJ)(ho:o.op=.call {callee:=.builtin .append,args:=#[s,x],argTypes:=#[23,23]})(rb:Nat)(v:H)(l:List Ac)(hs:a.eval s=v)(hown:Jk rb w v l)(vd:H)(r:Ac)(h1:Qi 0 w vd r.data)(nb:Nat)(hb:w.heap[nb]?=I (Y #[tA tD r.kind,tA tD r.sess,tA tD r.keep,vd] 27))(hx:a.eval x=J (I ⟨nb,0,G⟩) 1 1)(hl:(l.length+1)*48<=140737488355328)(hbase:rb<=w.heap.size)(h:∀v' w',Jk rb w' v' (l++[r])->L w w' v.ownBlock->K (a.put o.dst v') w'):o.wp O a w K Q:=by
 obtain⟨i0,hi,hz0,hz1,hz2⟩:=r7 Db;have hrow:v.ownBlock=G∨∃g cur t fz,v.ownBlock=I g∧0<=g∧w.heap[g]?=I (Y cur t fz)∧t≠5:=by rcases hown.row with h|⟨g,cur,fz,e,_,h⟩;(·exact .inl h);·exact .inr ⟨g,cur,_,fz,e,tV _,h,aX⟩
 obtain⟨us,hul,hr,hp⟩:=hown;refine wp_append_lies w s x 23 ho rb 27 i0 (sW #[tA tD 0,tA tD 0,tA tD 0,J G 0 0]) 4 48 Tryz.underlying23 hi hz0 hz1 hz2 rfl (by decide) v l.length (Jj us) hs hr ⟨nb,0,G⟩ 1 1 (Jj [(r,vd)]) hx rfl (rC (cs:=#[tA tD r.kind,tA tD r.sess,tA tD r.keep,vd]) hb) ?_ (by omega) (by unfold pL;omega) hl hbase _ rfl ?_;·intro u hu;simp only[Jj,tN,rH,sF,tK,tM,or_false]at hu;rcases hu with rfl|rfl|rfl|rfl;(·rfl);(·rfl);(·rfl);·exact Zx h1
 ·intro g cap w' q1 q2 _ _;refine h _ w' ⟨us++[(r,vd)],by simp[hul],?_,?_⟩ q2;(·rw[vH,tC];exact q1);·intro y hy;rcases tX.1 hy with hy|hy;(·exact(hp y hy).keptT q2 hrow);·simp only[tK,tM,or_false]at hy;subst hy;exact h1.keptT q2 hrow
theorem Pg{w:F}{ops:Array rM}{rest:List rM}{o:rM}{a:Act}{Q:Exit->Act->F->Prop}(hgd:o.guard=G)(s x:rJ)(ho:o.op=.call {callee:=.builtin .append,args:=#[s,x],argTypes:=#[23,23]})(rb:Nat)(v:H)(l:List Ac)(hs:a.eval s=v)(hown:Jk rb w v l)(vd:H)(r:Ac)(h1:Qi 0 w vd r.data)(nb:Nat)(hb:w.heap[nb]?=I (Y #[tA tD r.kind,tA tD r.sess,tA tD r.keep,vd] 27))(hx:a.eval x=J (I ⟨nb,0,G⟩) 1 1)(hl:(l.length+1)*48<=140737488355328)(hbase:rb<=w.heap.size)(h:∀v' w',Jk rb w' v' (l++[r])->L w w' v.ownBlock->wpList O ops Q rest (a.put o.dst v') w'):wpList O ops Q (o::rest) a w:=wpList_plain hgd fun _ hK=>MO s x ho rb v l hs hown vd r h1 nb hb hx hl hbase fun v' w' h1 h2=>hK _ _ (h v' w' h1 h2)
section
variable{D:List UInt8->List UInt8}
theorem aF{v u:Sv}{j:Nat}(hc:u.commits=v.commits.take j)(hs:u.synced=v.synced)(hj:v.synced<=j):QE u u.synced=QE v v.synced:=by
 unfold QE;rw[hc,hs,pD,rV hj]
theorem Fp(hD:∀x,(D x).length=4){S:List Ac}(hok:∀a∈S,Xn a){k:Int}(hk:0<=k){A B:Oc}(hA:A=K2 (Z7 D S))(hB:B=K2 (Z7 D (S++[Zb]++[ZJ k,Zb]))):A.turn<=B.turn∧B.turn<=A.turn+A.pending∧B.replies.length=A.replies.length∧B.pending=0∧B.up=M∧(k=0->B.turn=A.turn∧B.forest=A.forest)∧0<=A.turn∧0<=A.pending∧A.turn+A.pending<=300:=by
 have hG:=uW hD S hok;have hG1:=hG.act hD kM;have e1:Q7 D (Z7 D S) Zb={Z7 D S with up:=M}:=Fc _;obtain⟨j,h1,h2,h3,h4,h5,h6,h7,h8,h9⟩:=CQ hD hG1 hk;have eB:Z7 D (S++[Zb]++[ZJ k,Zb])={(Q7 D (Q7 D (Z7 D S) Zb) (ZJ k))with up:=M}:=by rw[Fj,Pm,sG,sG,pP];exact h4
 have q1:(Q7 D (Z7 D S) Zb).synced=(Z7 D S).synced:=by rw[e1]
 have q2:(Q7 D (Z7 D S) Zb).queue=(Z7 D S).queue:=by rw[e1]
 have q3:(Q7 D (Z7 D S) Zb).out=(Z7 D S).out:=by rw[e1]
 have q4:(Q7 D (Z7 D S) Zb).commits=(Z7 D S).commits:=by rw[e1]
 rw[q1]at h1 h2 h3;rw[q2]at h2;rw[q3]at h8;rw[q4]at h9;generalize hV:Q7 D (Q7 D (Z7 D S) Zb) (ZJ k)=V at*;have t1:=hG.turn;have t2:=hG.many;have s1:(Z7 D S).synced<=j:=h1;have s2:j<=(Z7 D S).synced+(Z7 D S).queue.length:=h2;rw[hA,hB,eB];refine⟨?_,?_,?_,?_,rfl,fun hk0=>⟨?_,?_⟩,?_,?_,?_⟩;·show(((Z7 D S).synced:Nat):Int)<=((V.synced:Nat):Int);omega
 ·show((V.synced:Nat):Int)<=(((Z7 D S).synced:Nat):Int)+(((Z7 D S).queue.length:Nat):Int);omega
 ·show V.out.length=(Z7 D S).out.length;rw[h8]
 ·show((V.queue.length:Nat):Int)=0;rw[h7];rfl
 ·have:=h3 hk0;show((V.synced:Nat):Int)=(((Z7 D S).synced:Nat):Int);rw[h6,this]
 ·have e:=h3 hk0;show QE V V.synced=QE (Z7 D S) (Z7 D S).synced;exact aF (v:=Z7 D S) (u:=V) h9 (by rw[h6,e]) s1
 ·show(0:Int)<=((_:Nat):Int);omega
 ·show(0:Int)<=((_:Nat):Int);omega
 ·show((_:Nat):Int)+((_:Nat):Int)<=300;omega
end
structure Vx where
  rest : List UInt8
  short : Bool
def FN(r:Vx)(n:Nat):List UInt8:=if r.short=M∨r.rest.length<n then[]else r.rest.take n
def BY(r:Vx)(n:Nat):Vx:=if r.short=M∨r.rest.length<n then⟨r.rest,M⟩else⟨r.rest.drop n,N⟩
theorem Tf{r:Vx}{n:Nat}(h:r.short=M∨r.rest.length<n):FN r n=[]∧BY r n=⟨r.rest,M⟩:=⟨if_pos h,if_pos h⟩
theorem vM{r:Vx}{n:Nat}(h:¬(r.short=M∨r.rest.length<n)):FN r n=r.rest.take n∧BY r n=⟨r.rest.drop n,N⟩:=⟨if_neg h,if_neg h⟩
theorem dK(r:Vx)(n:Nat):(FN r n).length<=n:=by
 unfold FN;split;·simp
 ·rw[rG];omega
def Xi(r:Vx):Vx:=BY r 1
def JP(r:Vx):Nat:=if(Xi r).short=M then 0 else((FN r 1).getD 0 0).toNat
theorem Ys(r:Vx):JP r<256:=by
 unfold JP;split;·omega
 ·exact((FN r 1).getD 0 0).toNat_lt
theorem Y0(x:UInt8)(l:List UInt8):Xi ⟨x::l,N⟩=⟨l,N⟩∧JP ⟨x::l,N⟩=x.toNat:=by
 have h:¬((⟨x::l,N⟩:Vx).short=M∨(⟨x::l,N⟩:Vx).rest.length<1):=by simp
 obtain⟨h1,h2⟩:=vM h;have h3:Xi ⟨x::l,N⟩=⟨l,N⟩:=h2;refine⟨h3,?_⟩;rw[JP,h3,h1,if_neg (by simp)];rfl
theorem Pj{r:Vx}(h:r.short=M)(n:Nat):(BY r n).short=M:=by
 rw[(Tf (.inl h)).2]
theorem Kn{r:Vx}(h:r.short=M):(Xi r).short=M:=Pj h 1
theorem yK:(Xi ⟨[],N⟩).short=M:=rfl
def LD(r:Vx):List UInt8:=FN (Xi r) (JP r)
def KP(r:Vx):Vx:=BY (Xi r) (JP r)
theorem VK{r:Vx}(h:r.short=M):(KP r).short=M:=Pj (Kn h) _
theorem vY{l p l2:List UInt8}(h:Zv l=I (p,l2)):LD ⟨l,N⟩=p∧KP ⟨l,N⟩=⟨l2,N⟩:=by
 cases l with|nil=>cases h|cons x l=>rw[Zv]at h;obtain⟨h1,h2⟩:=Y0 x l;unfold LD KP;rw[h1,h2];by_cases hx:x.toNat<=l.length;(·rw[if_pos hx]at h;simp only[tB,rY]at h;obtain⟨rfl,rfl⟩:=h;exact vM (by simp;omega));·rw[if_neg hx]at h;cases h
theorem F3{l:List UInt8}(h:Zv l=G):(KP ⟨l,N⟩).short=M:=by
 cases l with|nil=>exact Pj yK _|cons x l=>rw[Zv]at h;obtain⟨h1,h2⟩:=Y0 x l;unfold KP;rw[h1,h2];by_cases hx:x.toNat<=l.length;(·rw[if_pos hx]at h;cases h);·rw[(Tf (.inr (by show l.length<x.toNat;omega))).2]
theorem Rw(r:Vx):(LD r).length<=255:=tQ (dK _ _) (oE (Ys r))
def Th(r:Vx):Zh:=if JP (KP (KP r))=255then⟨LD r,LD (KP r),[],M⟩else⟨LD r,LD (KP r),LD (KP (KP r)),N⟩
def BJ(r:Vx):Vx:=if JP (KP (KP r))=255then Xi (KP (KP r))else KP (KP (KP r))
theorem CG{r:Vx}(h:r.short=M):(BJ r).short=M:=by
 unfold BJ;split;·exact Kn (VK (VK h))
 ·exact VK (VK (VK h))
theorem Rm{r:Vx}(h:(KP (KP r)).short=M):(BJ r).short=M:=by
 unfold BJ;split;·exact Kn h
 ·exact VK h
theorem eQ{l l2:List UInt8}{p:Zh}(h:Je l=I (p,l2)):Th ⟨l,N⟩=p∧BJ ⟨l,N⟩=⟨l2,N⟩:=by
 unfold Je at h;cases h1:Zv l with|none=>rw[h1]at h;cases h|some q=>obtain⟨n,la⟩:=q;rw[h1]at h;have h:M7 n la=I (p,l2):=h;unfold M7 at h;obtain⟨a1,a2⟩:=vY h1;cases h2:Zv la with|none=>rw[h2]at h;cases h|some q=>obtain⟨k,lb⟩:=q;rw[h2]at h;have h:uX n k lb=I (p,l2):=h;unfold uX at h;obtain⟨b1,b2⟩:=vY h2;unfold Th BJ;rw[a1,a2,b1,b2];cases lb with|nil=>cases h|cons x lb=>obtain⟨c1,c2⟩:=Y0 x lb;by_cases hx:(x::lb).head?=I 255;(·rw[if_pos hx]at h;simp only[tB,rY]at h;obtain⟨rfl,rfl⟩:=h;have:x=255:=oM hx;subst this;rw[c2,c1,if_pos (by rfl),if_pos (by rfl)];exact⟨rfl,rfl⟩);·rw[if_neg hx]at h;have hne:¬x.toNat=255:=fun e=>hx (by rw[show x=255from oF.1 e];rfl);rw[c2,if_neg hne,if_neg hne];cases h3:Zv (x::lb)with|none=>rw[h3]at h;cases h|some q=>obtain⟨v,lc⟩:=q;rw[h3]at h;simp only[tB,rY]at h;obtain⟨rfl,rfl⟩:=h;obtain⟨d1,d2⟩:=vY h3;rw[d1,d2];exact⟨rfl,rfl⟩
theorem dX{l:List UInt8}(h:Je l=G):(BJ ⟨l,N⟩).short=M:=by
 unfold Je at h;cases h1:Zv l with|none=>exact Rm (VK (F3 h1))|some q=>obtain⟨n,la⟩:=q;rw[h1]at h;have h:M7 n la=G:=h;unfold M7 at h;obtain⟨a1,a2⟩:=vY h1;cases h2:Zv la with|none=>exact Rm (by rw[a2];exact F3 h2)|some q=>obtain⟨k,lb⟩:=q;rw[h2]at h;have h:uX n k lb=G:=h;unfold uX at h;obtain⟨b1,b2⟩:=vY h2;unfold BJ;rw[a2,b2];cases lb with|nil=>split;(·exact yK);·exact F3 rfl|cons x lb=>obtain⟨c1,c2⟩:=Y0 x lb;by_cases hx:(x::lb).head?=I 255;(·rw[if_pos hx]at h;cases h);·rw[if_neg hx]at h;have hne:¬x.toNat=255:=fun e=>hx (by rw[show x=255from oF.1 e];rfl);rw[c2,if_neg hne];cases h3:Zv (x::lb)with|none=>exact F3 h3|some q=>obtain⟨v,lc⟩:=q;rw[h3]at h;cases h
theorem OO(r:Vx):(Th r).name.length<=255∧(Th r).key.length<=255∧(Th r).value.length<=255:=by
 unfold Th;split;·exact⟨Rw _,Rw _,by simp⟩
 ·exact⟨Rw _,Rw _,Rw _⟩
def UM:Nat->Vx->Vx|0,r=>r|n+1,r=>BJ (UM n r)
def UE:Nat->Vx->List Zh|0,_=>[]|n+1,r=>UE n r++[Th (UM n r)]
theorem Di:∀(n:Nat)(r:Vx),(UE n r).length=n|0,_=>rfl|n+1,r=>by rw[UE,tC,Di n r];rfl
theorem Nt:∀(n:Nat)(r:Vx),RI (UE n r)|0,_=>fun p hp=>by simp[UE]at hp|n+1,r=>Bn (Nt n r) (OO _)
theorem No:∀(n:Nat){r:Vx},r.short=M->(UM n r).short=M|0,_,h=>h|n+1,_,h=>CG (No n h)
theorem vK:∀(n:Nat){l l2:List UInt8}{ws:List Zh},ZX n l=I (ws,l2)->UE n ⟨l,N⟩=ws∧UM n ⟨l,N⟩=⟨l2,N⟩|0,l,l2,ws,h=>by rw[ZX]at h;simp only[tB,rY]at h;obtain⟨rfl,rfl⟩:=h;exact⟨rfl,rfl⟩|n+1,l,l2,ws,h=>by rw[xB]at h;cases h1:ZX n l with|none=>rw[h1]at h;cases h|some q=>obtain⟨ws1,l1⟩:=q;rw[h1]at h;have h:(match Je l1 with|I (w,r2)=>I (ws1++[w],r2)|none=>G)=I (ws,l2):=h;obtain⟨e1,e2⟩:=vK n h1;cases h2:Je l1 with|none=>rw[h2]at h;cases h|some q=>obtain⟨p,l3⟩:=q;rw[h2]at h;simp only[tB,rY]at h;obtain⟨rfl,rfl⟩:=h;obtain⟨d1,d2⟩:=eQ h2;rw[UE,UM,e1,e2,d1,d2];exact⟨rfl,rfl⟩
theorem Cu:∀(n:Nat){l:List UInt8},ZX n l=G->(UM n ⟨l,N⟩).short=M|0,l,h=>by rw[ZX]at h;cases h|n+1,l,h=>by rw[xB]at h;cases h1:ZX n l with|none=>exact CG (Cu n h1)|some q=>obtain⟨ws1,l1⟩:=q;rw[h1]at h;have h:(match Je l1 with|I (w,r2)=>I (ws1++[w],r2)|none=>G)=G:=h;obtain⟨e1,e2⟩:=vK n h1;cases h2:Je l1 with|none=>rw[UM,e2];exact dX h2|some q=>obtain⟨p,l3⟩:=q;rw[h2]at h;cases h
def ER(r:Vx):Vx:=UM (JP (Xi (Xi (Xi r)))) (Xi (Xi (Xi (Xi r))))
def E5(r:Vx):XF:=⟨((65536*JP r+256*JP (Xi r)+JP (Xi (Xi r)):Nat):Int),UE (JP (Xi (Xi (Xi r)))) (Xi (Xi (Xi (Xi r))))⟩
theorem D4(r:Vx):RI (E5 r).writes∧(E5 r).writes.length<=255:=⟨Nt _ _,by
 show(UE _ _).length<=255;rw[Di];exact oE (Ys _)⟩
theorem L8(b:List UInt8)(h:¬b.length<4):JP ⟨b,N⟩=(b.getD 0 0).toNat∧JP (Xi ⟨b,N⟩)=(b.getD 1 0).toNat∧JP (Xi (Xi ⟨b,N⟩))=(b.getD 2 0).toNat∧JP (Xi (Xi (Xi ⟨b,N⟩)))=(b.getD 3 0).toNat∧Xi (Xi (Xi (Xi ⟨b,N⟩)))=⟨b.drop 4,N⟩:=by
 match b,h with|[],h=>exact absurd (by simp) h|[_],h=>exact absurd (by simp) h|[_,_],h=>exact absurd (by simp) h|[_,_,_],h=>exact absurd (by simp) h|x0::x1::x2::x3::b,_=>obtain⟨a1,a2⟩:=Y0 x0 (x1::x2::x3::b);obtain⟨b1,b2⟩:=Y0 x1 (x2::x3::b);obtain⟨c1,c2⟩:=Y0 x2 (x3::b);obtain⟨d1,d2⟩:=Y0 x3 b;rw[a1,b1,c1,d1];exact⟨a2,b2,c2,d2,rfl⟩
theorem iP(b:List UInt8)(h:b.length<4):(ER ⟨b,N⟩).short=M:=by
 unfold ER;refine No _ ?_;match b,h with|[],_=>exact Kn (Kn (Kn yK))|[x],_=>rw[(Y0 x []).1];exact Kn (Kn yK)|[x,y],_=>rw[(Y0 x [y]).1,(Y0 y []).1];exact Kn yK|[x,y,z],_=>rw[(Y0 x [y,z]).1,(Y0 y [z]).1,(Y0 z []).1];exact yK|_::_::_::_::_,h=>exact absurd h (by simp only[sD];omega)
theorem OH{b:List UInt8}(h0:¬4000<b.length)(h:(ER ⟨b,N⟩).short=M):YL b=14∧JM b=Zm:=by
 by_cases h4:b.length<4;·exact S4 h4
 ·obtain⟨_,_,_,e3,e4⟩:=L8 b h4;cases hb:G4 b with|none=>exact Hv h0 h4 hb|some q=>obtain⟨ws,l⟩:=q;obtain⟨_,e5⟩:=vK _ hb;unfold ER at h;rw[e3,e4,e5]at h;cases h
theorem DR{b:List UInt8}(h:(ER ⟨b,N⟩).short=N):¬b.length<4∧G4 b=I ((E5 ⟨b,N⟩).writes,(ER ⟨b,N⟩).rest)∧(Gg b:Int)=(E5 ⟨b,N⟩).turn:=by
 by_cases h4:b.length<4;·rw[iP b h4]at h;cases h
 ·obtain⟨e0,e1,e2,e3,e4⟩:=L8 b h4;refine⟨h4,?_,?_⟩;(·cases hb:G4 b with|none=>have:=Cu _ hb;unfold ER at h;rw[e3,e4,this]at h;cases h|some q=>obtain⟨ws,l⟩:=q;obtain⟨e5,e6⟩:=vK _ hb;unfold ER E5;rw[e3,e4,e5,e6]);·unfold E5;rw[e0,e1,e2];rfl
theorem fV{b:List UInt8}(h0:¬4000<b.length)(h:(ER ⟨b,N⟩).short=N)(hr:(ER ⟨b,N⟩).rest.length≠0):YL b=4∧JM b=Zm:=by
 obtain⟨h4,hb,_⟩:=DR h;exact Hi h0 h4 hb hr
theorem fL{b:List UInt8}(h0:¬4000<b.length)(h:(ER ⟨b,N⟩).short=N)(hr:(ER ⟨b,N⟩).rest.length=0):YL b=Za (E5 ⟨b,N⟩)∧(YL b=0->JM b=E5 ⟨b,N⟩)∧(YL b≠0->JM b=Zm):=by
 obtain⟨h4,hb,ht⟩:=DR h;have:=Ir h0 h4 hb hr;rw[ht]at this;exact this
theorem ZH(w:F)(o:Obj):∃W:F,Hid (W=w.alloc o)∧L w W G∧Hid (W.heap[w.heap.size]?=I o):=⟨w.alloc o,rfl,sR _ _ _,oL w o⟩
theorem kB(w:F)(b i:Nat)(u:H):∃W:F,Hid (W=tG w ⟨b,i,G⟩ u)∧L w W (I b):=⟨_,rfl,YN w b i u⟩
theorem mE:(236:Nat)≠5:=by
 decide
theorem gE:(236:Nat)≠179:=by
 decide
theorem Qe.rdr{w w':F}{b:Nat}{a0:Option rI}{n0 c0:Nat}{s:Bool}{t:sC}{v:H}{bs:List UInt8}(h:Qe w v bs)(hb:w.heap[b]?=I (Y #[J a0 n0 c0,tP s] t))(hg:L w w' (I b)):Qe w' v bs:=by
 obtain⟨a,cap,rfl,hc,h⟩:=h;refine⟨a,cap,rfl,hc,?_⟩;rcases h with h|⟨pb,o,rfl,h⟩;·exact .inl h
 ·by_cases h0:bs=[];(·exact .inl ⟨h0,fun e=>by cases e⟩);·refine .inr ⟨pb,o,rfl,h.grown hg ?_⟩;intro e;cases e;have hc0:=h 0 (rW.2 h0);simp only[tZ,hb,Nat.add_zero]at hc0;match o,hc0 with|0,hc0=>simp at hc0|1,hc0=>simp at hc0|o+2,hc0=>simp at hc0
structure Zf (w0 w : F) (b : Nat) (r : Vx) : Prop where
  at_ : ∃ a cap, w.heap[b]? = I (Y #[J a r.rest.length cap, tP r.short] 236) ∧ Qe w0 (J a r.rest.length cap) r.rest
  old : ∃ a n c s, w0.heap[b]? = I (Y #[J a n c, tP s] 236)
  grown : L w0 w (I b)
theorem Zf.lt{w0 w:F}{b:Nat}{r:Vx}(h:Zf w0 w b r):b<w.heap.size:=by
 obtain⟨a,cap,h,_⟩:=h.at_;exact(tJ.1 h).1
theorem Zf.now{w0 w:F}{b:Nat}{r:Vx}(h:Zf w0 w b r){v:H}{bs:List UInt8}(hv:Qe w0 v bs):Qe w v bs:=by
 obtain⟨a,n,c,s,h0⟩:=h.old;exact hv.rdr h0 h.grown
theorem Zf.row{w0 w:F}{b:Nat}{r:Vx}(h:Zf w0 w b r):I b=G∨∃g cur t fz,I b=I g∧0<=g∧w.heap[g]?=I (Y cur t fz)∧t≠5:=by
 obtain⟨a,cap,h,_⟩:=h.at_;exact .inr ⟨b,_,_,_,rfl,tV _,h,mE⟩
theorem Qi.rdr{w0 w w':F}{b:Nat}{r:Vx}{v:H}{bs:List UInt8}(h:Qi 0 w v bs)(hb:Zf w0 w b r)(hg:L w w' (I b)):Qi 0 w' v bs:=h.keptT hg hb.row
theorem Xt{w w':F}(hg:L w w' G)(r:Option Nat):L w w' r:=⟨hg.os,hg.tape,hg.output,hg.size,fun i hi _=>hg.block i hi (by
 simp)⟩
theorem Zf.kept{w0 w w':F}{b:Nat}{r:Vx}(h:Zf w0 w b r)(hg:L w w' G):Zf w0 w' b r:=by
 have hl:=h.lt;obtain⟨a,cap,h1,hs⟩:=h.at_;exact⟨⟨a,cap,by rw[hg.block b hl (by simp)];exact h1,hs⟩,h.old,Qa h.grown (Xt hg _)⟩
theorem Xg{w w':F}{b:Nat}(hg:L w w' (I b)){c:Nat}{o:Obj}(hc:w.heap[c]?=I o)(hne:c≠b):w'.heap[c]?=I o:=by
 rw[hg.block c (tJ.1 hc).1 (by simpa using hne)];exact hc
theorem Zf.apart{w0 w w':F}{b:Nat}{r:Vx}(h:Zf w0 w b r){c:Nat}(hne:b≠c)(hc:w0.heap.size<=c)(hg:L w w' (I c)):Zf w0 w' b r:=by
 have hl:=h.lt;obtain⟨a,cap,h1,hs⟩:=h.at_;exact⟨⟨a,cap,by rw[hg.block b hl (by simpa using hne)];exact h1,hs⟩,h.old,JG h.grown hc hg⟩
theorem Q4.rdr{rb:Nat}{w0 w w':F}{b:Nat}{r:Vx}{v:H}{l:List Zh}(h:Q4 rb 0 w v l)(hb:Zf w0 w b r)(hg:L w w' (I b)):Q4 rb 0 w' v l:=by
 obtain⟨a,cap,h0,_⟩:=hb.at_;exact h.kept hg (.inr (h.ne h0 gE)) hb.row
theorem Zf.ownV{rb:Nat}{w0 w w':F}{b:Nat}{r:Vx}{v:H}{l:List Zh}(h:Zf w0 w b r)(ho:Q4 rb 0 w v l)(hb:w0.heap.size<=rb)(hg:L w w' v.ownBlock):Zf w0 w' b r:=by
 obtain⟨a,cap,h1,hs⟩:=h.at_;have hne:=ho.ne h1 gE;cases hv:v.ownBlock with|none=>rw[hv]at hg;exact h.kept hg|some g=>rw[hv]at hg hne;exact h.apart (c:=g) (fun e=>hne (by rw[e])) (tQ hb (ho.lt g hv).1) hg
section
open Go.ChangeShapes Go.WideShapes Go.ChangeAt Go.RowKit
theorem own:ownKnob O.godebug=G:=by
 kernel_rfl
theorem Lw:laidOutB O=M:=by
 kernel_rfl
theorem KZ{n:Int}(h:(Lit.int tD n).wf=M):-9223372036854775808<=n∧n<=9223372036854775807:=bounds_i64 h
theorem CJ{w w':F}(h:L w w' G):Below w.heap.size w w':=⟨h.os,h.tape,h.output,h.size,fun k hk=>h.block k hk (by
 simp)⟩
end
structure Tz(g:Gr):Prop where kind:-9223372036854775808<=g.kind∧g.kind<=9223372036854775807sess:-9223372036854775808<=g.sess∧g.sess<=9223372036854775807name:-9223372036854775808<=g.name∧g.name<=9223372036854775807key:-9223372036854775808<=g.key∧g.key<=9223372036854775807value:-9223372036854775808<=g.value∧g.value<=9223372036854775807
def dC(w:F)(b o:Nat)(g:Gr):Prop:=w.cell? ⟨b,o,G⟩=I (tA tD g.kind)∧w.cell? ⟨b,o+1,G⟩=I (tA tD g.sess)∧w.cell? ⟨b,o+2,G⟩=I (tA tD g.name)∧w.cell? ⟨b,o+3,G⟩=I (tA tD g.key)∧w.cell? ⟨b,o+4,G⟩=I (tA tD g.value)
theorem dC.grown{w w':F}{b o:Nat}{g:Gr}(h:dC w b o g)(hg:L w w' G):dC w' b o g:=⟨hg.cell h.1 (by
 simp),hg.cell h.2.1 (by
 simp),hg.cell h.2.2.1 (by
 simp),hg.cell h.2.2.2.1 (by
 simp),hg.cell h.2.2.2.2 (by
 simp)⟩
def JV(w:F)(v:H)(l:List Gr):Prop:=∃a cap,v=J a l.length cap∧l.length<=cap∧(l=[]∨∃b o,a=I ⟨b,o,G⟩∧∀i,i<l.length->dC w b (o+i*5) (l.getD i kQ))
theorem JV.shape{w:F}{v:H}{l:List Gr}(h:JV w v l):∃a cap,v=J a l.length cap:=by
 obtain⟨a,cap,rfl,_⟩:=h;exact⟨a,cap,rfl⟩
theorem JV.grown{w w':F}{v:H}{l:List Gr}(h:JV w v l)(hg:L w w' G):JV w' v l:=by
 obtain⟨a,cap,rfl,hc,h⟩:=h;refine⟨a,cap,rfl,hc,?_⟩;rcases h with h|⟨b,o,rfl,h⟩;·exact .inl h
 ·exact .inr ⟨b,o,rfl,fun i hi=>(h i hi).grown hg⟩
theorem JV.at{w:F}{a:Option rI}{n cap:Nat}{l:List Gr}(h:JV w (J a n cap) l)(i:Nat)(hi:i<l.length):∃b o,a=I ⟨b,o,G⟩∧dC w b (o+i*5) (l.getD i kQ):=by
 obtain⟨a',cap',e,_,h⟩:=h;simp only[tI]at e;obtain⟨rfl,_,_⟩:=e;rcases h with rfl|⟨b,o,rfl,h⟩;·simp at hi
 ·exact⟨b,o,rfl,h i hi⟩
def Fy(l:List Gr):Prop:=∀g∈l,Tz g
theorem Dg{l:List Gr}{m:Nat}(h:m<l.length):XP l (m+1)=XP l m++[Ez (l.getD m kQ)]:=by
 unfold XP;rw[List.take_add_one,List.map_append];simp[h]
theorem Br(l:List Gr)(m:Nat):(XP l m).length=min m l.length:=by
 simp[XP]
def E0:Prop:=∀(w:F)(v:H)(l:List Gr)(most:Nat),JV w v l->Fy l->UD w->most<=1000->rA O 12 #[v,tA tD (most:Int)] w fun e w'=>∃x,e=tE x∧Jk w.heap.size w' x (XP l most)∧L w w' G
def IY:Prop:=∀(w:F)(v:H)(t:Gc),KY w v t->xW t->rA O 75 #[v] w fun e w'=>∃x,e=tE (sM #[x,tA tD (Rz t)])∧YE w' x (Kv t)∧L w w' G
def AO:Prop:=∀(w:F)(v:H)(t:Gc)(keep:Int),KY w v t->xW t->-9223372036854775808<=keep->keep<=9223372036854775807->rA O 91 #[v,tA tD keep] w fun e w'=>∃x,e=tE (sM #[x,tA tD (Uw t keep)])∧YE w' x (Xu t keep)∧L w w' G
theorem EZ:(94:Nat)≠5:=by
 decide
theorem LY:(94:Nat)≠179:=by
 decide
theorem EU:(94:Nat)≠188:=by
 decide
def IS:Prop:=∀(w:F)(v:H)(a:Ac),Wn w v a->Sj a->rA O 44 #[v] w fun e w'=>e=tE (tA tD (Y5 a))∧L w w' G
theorem OI(s q:Int)(d:List UInt8):Y5 ⟨1,s,q,d⟩=if 0<=s∧s<=7then(if 4000<d.length then 1 else if q=0then 0 else 4)else 2:=by
 unfold Y5;rw[if_pos (by show(1:Int)<=1∧(1:Int)<=4;omega)];by_cases h1:0<=s∧s<=7;·rw[if_pos h1,if_neg (by rintro(⟨_,h⟩|⟨h,_⟩);exact h h1;cases h)];by_cases h2:4000<d.length;(·rw[if_pos h2,if_pos h2]);·rw[if_neg h2,if_neg h2];by_cases h3:q=0;(·rw[if_pos h3,if_neg];rintro(⟨h,_⟩|⟨_,h⟩|⟨h,_⟩);(·exact h rfl);(·exact h h3);·exact h rfl);·rw[if_neg h3,if_pos (.inr (.inl ⟨by show(1:Int)≠3;decide,h3⟩))]
 ·rw[if_neg h1,if_pos (.inl ⟨rfl,h1⟩)]
theorem SJ(s q:Int)(d:List UInt8):Y5 ⟨3,s,q,d⟩=if 0<=q∧q<=200000then(if 4000<d.length then 1 else if s=0then(if 0<d.length then 4 else 0)else 4)else 2:=by
 unfold Y5;rw[if_pos (by show(1:Int)<=3∧(3:Int)<=4;omega)];by_cases h1:0<=q∧q<=200000;·rw[if_pos h1,if_neg (by rintro(⟨h,_⟩|⟨_,h⟩);cases h;exact h h1)];by_cases h2:4000<d.length;(·rw[if_pos h2,if_pos h2]);·rw[if_neg h2,if_neg h2];by_cases h3:s=0;(·rw[if_pos h3];by_cases h4:0<d.length;(·rw[if_pos h4,if_pos (.inr (.inr ⟨by show(3:Int)≠1;decide,h4⟩))]);·rw[if_neg h4,if_neg];rintro(⟨_,h⟩|⟨h,_⟩|⟨_,h⟩);(·exact h h3);(·exact h rfl);·exact h4 h);·rw[if_neg h3,if_pos (.inl ⟨by show(3:Int)≠1;decide,h3⟩)]
 ·rw[if_neg h1,if_pos (.inr ⟨rfl,h1⟩)]
theorem Bz(k s q:Int)(d:List UInt8)(hk:k=2∨k=4):Y5 ⟨k,s,q,d⟩=if 4000<d.length then 1 else if s=0then(if q=0then(if 0<d.length then 4 else 0)else 4)else 4:=by
 unfold Y5;have k1:¬k=1:=by omega
 have k3:¬k=3:=by omega
 rw[if_pos (by show 1<=k∧k<=4;omega),if_neg (by rintro(⟨h,_⟩|⟨h,_⟩);exact k1 h;exact k3 h)];by_cases h2:4000<d.length;·rw[if_pos h2,if_pos h2]
 ·rw[if_neg h2,if_neg h2];by_cases h3:s=0;(·rw[if_pos h3];by_cases h5:q=0;(·rw[if_pos h5];by_cases h4:0<d.length;(·rw[if_pos h4,if_pos (.inr (.inr ⟨k1,h4⟩))]);·rw[if_neg h4,if_neg];rintro(⟨_,h⟩|⟨_,h⟩|⟨_,h⟩);(·exact h h3);(·exact h h5);·exact h4 h);·rw[if_neg h5,if_pos (.inr (.inl ⟨k3,h5⟩))]);·rw[if_neg h3,if_pos (.inl ⟨k1,h3⟩)]
def XY(r:Rq):Nat->List UInt8|0=>[sY r.kind.toNat]|1=>[sY r.kind.toNat]++Xq (QS r.kind 0) r.name|2=>[sY r.kind.toNat]++Xq (QS r.kind 0) r.name++Xq (QS r.kind 1) r.key|3=>[sY r.kind.toNat]++Xq (QS r.kind 0) r.name++Xq (QS r.kind 1) r.key++Xq (QS r.kind 2) r.last|_=>[sY r.kind.toNat]++Xq (QS r.kind 0) r.name++Xq (QS r.kind 1) r.key++Xq (QS r.kind 2) r.last++Xq (QS r.kind 3) r.value
theorem WY(r:Rq):XY r 4=Kw r:=by
 show[sY r.kind.toNat]++Xq (QV r.kind) r.name++Xq (QV r.kind) r.key++Xq (tU (r.kind=3)) r.last++Xq (tU (r.kind=4)) r.value=_;rw[Kw,zQ];simp[pZ]
theorem Wa{r:Rq}(h:Yc r)(m:Nat):(XY r m).length<=200:=by
 have k1:r.name.length<=8:=by by_cases e:QV r.kind=M;(·exact(h.name e).2);·rw[h.noName (by simpa using e)];simp
 have k2:r.key.length<=16:=by by_cases e:QV r.kind=M;(·exact(h.key e).2);·rw[h.noKey (by simpa using e)];simp
 have k3:r.last.length<=16:=by by_cases e:r.kind=3;(·exact(h.last e).2);·rw[h.noLast e];simp
 have k4:=h.value;have l1:=K8 (QS r.kind 0) r.name;have l2:=K8 (QS r.kind 1) r.key;have l3:=K8 (QS r.kind 2) r.last;have l4:=K8 (QS r.kind 3) r.value;match m with|0=>simp[XY]|1=>simp only[XY,tC,sE];omega|2=>simp only[XY,tC,sE];omega|3=>simp only[XY,tC,sE];omega|m+4=>simp only[XY,tC,sE];omega
end Go.Proofs.YtflkfielgfkchaaGreatDoor
