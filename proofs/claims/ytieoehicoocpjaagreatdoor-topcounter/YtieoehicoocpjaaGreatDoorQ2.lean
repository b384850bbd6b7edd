/-
  Texts of this proof, joined, with few blanks: AcM0, PairM0, PairB, WrMem, CmtMem, TapeA, TapeB, TapeK, HistF, HistC, TxnF, TxnG, SrvF, SrvI, SrvO, TopF, TenMem, CmtSet, RdMem, StepMem, SvK, SvG, CmtTy, CmtRow, CmtRowD, TxNote, TxM, TxnL, TxCheck, TCCheck, PairStepQ, PairSlice, FCCheck, FCApply, TxMs, RqRd, WrCkF, TxLook, FCGet, FindM, SrvS, SrvL, SrvM, SrvN, TxClash, TpEnc, TpCheck, BSlice, CmtFit, TxScan, TCRange, FCRange, BitC, PartC, TxWrite, RqWt, HsKept, RqDe, TapeH, WrDtF, SrvW, WrEnF, RdrF, RdrMem, FrameB, IntsM, FrameI, TpSync, TpCrash, TapTy, LnCk, LineH.
-/
import Derived.Deep.AppendLies
import Derived.Test.YtieoehicoocpjaaGreatDoorQ1
import Derived.Maps.AppendAt
import Derived.Deep.RegionWith
import Derived.Handy
import Derived.ProofKit
import Derived.OpenShut
import Derived.ShutString
import Derived.ChangeOld
import Derived.Deep.DeepHandedRow
import Derived.SizedLaws
import Derived.Test.YtieoehicoocpjaaGreatDoorRows
import Derived.Deep.SlicePairs
import Derived.Lib.SmallJoins
set_option maxRecDepth 100000
set_option maxHeartbeats 8000000
open Array renaming getElem?_eq_some_iff->tI,getElem?_modify->tV,getElem?_toList->rY
open Bool renaming true->M,false->N,and_eq_true->rH,or_eq_false_iff->rM
open Classical renaming byContradiction->sQ
open Decidable renaming decide->tP
open Go renaming World->F,Value->H,TypeId->tX,undef->sI,sliced->sO,Calls->sS,Addr->sY,Operand->rG,Oper->rK,info_parts->r7,maxLen->r8,yielded->pA,heap_alloc_new->oE
open Go.Addr.mk renaming injEq->rF
open Go.Ending renaming returned->tD
open Go.Instr renaming slice->rS
open Go.IntKind renaming i64->tC,u8->pJ
open Go.Obj renaming cells->S
open Go.Obj.cells renaming injEq->tW
open Go.Proofs.Tryz renaming prog->O
open Go.Region renaming wanted->sD
open Go.Result renaming andThen->rD
open Go.Value renaming slice->J,int->Y,bool->tL,tuple->sE,agg->sP,ownBlock->pF
open Go.Value.slice renaming injEq->tH
open Go.World renaming grownBy->L,setCell->tE,cell?->tS,cell?_of_block->sJ,ownsRow_nil->sL,grownBy_alloc->sW,news_of_block->rA,frozen?->rV,cell?_setCell_same'->pG
open Go.World.ownsRow renaming kept->tU,lt->sF
open Int renaming toNat_natCast->sU,emod_lt_of_pos->pO,emod_nonneg->pZ
open List renaming length_append->tB,eq_nil_of_length_eq_zero->tJ,mem_cons->tK,flatMap_cons->tM,not_mem_nil->tQ,mem_append->tZ,length_singleton->sA,getElem?_take->sB,take_length->sC,length_cons->sG,getElem?_eq_some_iff->sH,mem_cons_of_mem->sK,getElem_mem->sN,drop_eq_getElem_cons->sR,take_succ_eq_append_getElem->sV,mem_cons_self->sX,any_eq_true->sZ,take_succ_cons->rB,pairwise_cons->rC,flatMap_nil->rI,append_nil->rN,length_set->rO,length_pos_iff->rP,length_take->rW,any_cons->pC,take_set->pD,getElem?_append_left->pH,take_append_drop->pI,getElem?_append->pK,drop_succ_cons->pL,set_cons_succ->pM,nodup_append->pN,cons_append->pP,length_drop->pQ,length_nil->pT,nil_append->pU,nodup_cons->pV,mem_filter->pW,take_take->pX,drop_zero->oC
open Nat renaming lt_of_lt_of_le->tG,le_trans->tN,zero_le->tR,le_refl->tY,zero_add->sM,succ_mul->rX,mul_le_mul_right->pB,sub_zero->pE,le_of_lt_succ->pR,min_eq_left->pY,sub_self->oD
open Option renaming none->G,some->I,map_some->rJ
open Option.some renaming injEq->tA,inj->oF
open Prod.mk renaming injEq->rU
open UInt8 renaming ofNat->rT,toNat_inj->pS
namespace Go.Proofs.YtieoehicoocpjaaGreatDoor
open Go.RowKit
def LA(w:F)(v:H)(a:Ac):Prop:=∃vd,v=sP #[Y tC a.kind,Y tC a.sess,Y tC a.keep,vd]∧Qe w vd a.data
theorem LA.grown{w w':F}{v:H}{a:Ac}(h:LA w v a)(hg:L w w' G):LA w' v a:=by
 obtain⟨vd,rfl,h1⟩:=h;exact⟨vd,rfl,h1.grown hg⟩
theorem LA.agg{w:F}{v:H}{a:Ac}(h:LA w v a):∃da dc,v=sP #[Y tC a.kind,Y tC a.sess,Y tC a.keep,J da a.data.length dc]∧Qe w (J da a.data.length dc) a.data:=by
 obtain⟨vd,rfl,h1⟩:=h;obtain⟨da,dc,rfl⟩:=h1.shape;exact⟨da,dc,rfl,h1⟩
def D9(w:F)(b o:Nat)(a:Ac):Prop:=∃vd,w.cell? ⟨b,o,G⟩=I (Y tC a.kind)∧w.cell? ⟨b,o+1,G⟩=I (Y tC a.sess)∧w.cell? ⟨b,o+2,G⟩=I (Y tC a.keep)∧w.cell? ⟨b,o+3,G⟩=I vd∧Qe w vd a.data
theorem D9.grown{w w':F}{b o:Nat}{a:Ac}(h:D9 w b o a)(hg:L w w' G):D9 w' b o a:=by
 obtain⟨vd,c1,c2,c3,c4,h1⟩:=h;exact⟨vd,hg.cell c1 (by simp),hg.cell c2 (by simp),hg.cell c3 (by simp),hg.cell c4 (by simp),h1.grown hg⟩
def YF(w:F)(v:H)(l:List Ac):Prop:=∃a cap,v=J a l.length cap∧l.length<=cap∧((l=[]∧(a=G->cap=0))∨∃b o,a=I ⟨b,o,G⟩∧∀i,i<l.length->D9 w b (o+i*4) (l.getD i UH))
theorem T7(w:F):YF w (J G 0 0) []:=⟨G,0,rfl,tY _,.inl ⟨rfl,fun _=>rfl⟩⟩
theorem YF.shape{w:F}{v:H}{l:List Ac}(h:YF w v l):∃a cap,v=J a l.length cap:=by
 obtain⟨a,cap,rfl,_⟩:=h;exact⟨a,cap,rfl⟩
theorem YF.grown{w w':F}{v:H}{l:List Ac}(h:YF w v l)(hg:L w w' G):YF w' v l:=by
 obtain⟨a,cap,rfl,hc,h⟩:=h;refine⟨a,cap,rfl,hc,?_⟩;rcases h with h|⟨b,o,rfl,h⟩;·exact .inl h
 ·exact .inr ⟨b,o,rfl,fun i hi=>(h i hi).grown hg⟩
theorem YF.at{w:F}{a:Option sY}{n cap:Nat}{l:List Ac}(h:YF w (J a n cap) l)(i:Nat)(hi:i<l.length):∃b o,a=I ⟨b,o,G⟩∧D9 w b (o+i*4) (l.getD i UH):=by
 obtain⟨a',cap',e,hc,h⟩:=h;simp only[tH]at e;obtain⟨rfl,rfl,rfl⟩:=e;rcases h with⟨rfl,_⟩|⟨b,o,rfl,h⟩;·simp at hi
 ·exact⟨b,o,rfl,h i hi⟩
structure BY(a:Ac):Prop where kind:-9223372036854775808<=a.kind∧a.kind<=9223372036854775807sess:-9223372036854775808<=a.sess∧a.sess<=9223372036854775807keep:-9223372036854775808<=a.keep∧a.keep<=9223372036854775807data:a.data.length<=140737488355328
structure TG (l : List Ac) : Prop where
  many : l.length * 48 <= 140737488355328
  each : ∀ i, i < l.length -> BY (l.getD i UH)
theorem SH{a:Ac}(h:YP a):BY a:=by
 have h0:=h.kind;have h1:=h.data;have h2:0<=a.sess∧a.sess<=7:=by by_cases e:a.kind=1;(·exact h.sess e);·rw[h.noSess e];omega
 have h3:0<=a.keep∧a.keep<=200000:=by by_cases e:a.kind=3;(·exact h.keep e);·rw[h.noKeep e];omega
 exact⟨by omega,by omega,by omega,by omega⟩
abbrev AV:=Ac×H
def Ak:AV:=(UH,sI)
def Jk(us:List AV):List H:=us.flatMap fun x=>[Y tC x.1.kind,Y tC x.1.sess,Y tC x.1.keep,x.2]
theorem xY(us:List AV):(Jk us).length=us.length*4:=by
 induction us with|nil=>rfl|cons x us ih=>rw[Jk,tM,tB,<-Jk,ih,sG];simp;omega
theorem N7(a b:List AV):Jk (a++b)=Jk a++Jk b:=by
 simp[Jk]
theorem EY:∀(us:List AV)(i:Nat),i<us.length->(Jk us)[i*4]?=I (Y tC (us.getD i Ak).1.kind)∧(Jk us)[i*4+1]?=I (Y tC (us.getD i Ak).1.sess)∧(Jk us)[i*4+2]?=I (Y tC (us.getD i Ak).1.keep)∧(Jk us)[i*4+3]?=I (us.getD i Ak).2|[],i,h=>by simp at h|x::us,0,_=>⟨rfl,rfl,rfl,rfl⟩|x::us,i+1,h=>by have:=EY us i (by simpa using h);rw[show(i+1)*4=i*4+4by omega];exact this
theorem gJ:(38:Nat)≠5:=by
 decide
def U5(rb:Nat)(w:F)(v:H)(l:List Ac):Prop:=∃us:List AV,us.map (·.1)=l∧w.ownsRow rb 38 4 v l.length (Jk us)∧∀x∈us,Qi 0 w x.2 x.1.data
theorem Io(rb:Nat)(w:F):U5 rb w (J G 0 0) []:=⟨[],rfl,sL _ _ _ _,fun x hx=>by
 simp at hx⟩
theorem U5.row{rb:Nat}{w:F}{v:H}{l:List Ac}(h:U5 rb w v l):v.ownBlock=G∨∃g cur fz,v.ownBlock=I g∧rb<=g∧w.heap[g]?=I (S cur 38 fz):=by
 obtain⟨us,_,h,_⟩:=h;rcases h.2with⟨rfl,_⟩|⟨g,cap,cur,rfl,hb,hg,_⟩;·exact .inl rfl
 ·exact .inr ⟨g,cur,_,rfl,hb,hg⟩
theorem U5.lt{rb:Nat}{w:F}{v:H}{l:List Ac}(h:U5 rb w v l):∀k,v.ownBlock=I k->rb<=k∧k<w.heap.size:=by
 obtain⟨us,_,h,_⟩:=h;exact sF h
theorem U5.grownNone{rb:Nat}{w w':F}{v:H}{l:List Ac}(h:U5 rb w v l)(hg:L w w' G):U5 rb w' v l:=by
 obtain⟨us,h1,h2,h3⟩:=h;refine⟨us,h1,tU h2 hg ?_,fun x hx=>(h3 x hx).keptT hg (.inl rfl)⟩;cases hv:v.ownBlock with|none=>exact .inl rfl|some k=>exact .inr (by simp)
theorem U5.shape{rb:Nat}{w:F}{v:H}{l:List Ac}(h:U5 rb w v l):∃a cap,v=J a l.length cap:=by
 obtain⟨us,_,h,_⟩:=h;rcases h.2with⟨rfl,h0⟩|⟨g,cap,cur,rfl,_⟩;·exact⟨G,0,by rw[h0]⟩
 ·exact⟨_,cap,rfl⟩
theorem LP{us:List AV}{l:List Ac}(h:us.map (·.1)=l)(i:Nat)(hi:i<l.length):(us.getD i Ak).1=l.getD i UH∧us.getD i Ak∈us:=by
 subst h;have hi':i<us.length:=by simpa using hi
 refine⟨by simp[hi'],?_⟩;rw[show us.getD i Ak=us[i]by simp[hi']];exact sN hi'
theorem U5.list{rb:Nat}{w:F}{v:H}{l:List Ac}(h:U5 rb w v l):YF w v l:=by
 obtain⟨us,hl,hr,h3⟩:=h;rcases hr.2with⟨rfl,h0⟩|⟨g,cap,cur,rfl,hb,hg,hn,hm,hs,ht⟩;·have:l=[]:=tJ h0;rw[this];exact T7 w
 ·(have hcell:∀j u,(Jk us)[j]?=I u->w.cell? ⟨g,j,G⟩=I u:=by intro j u hj;(have hlt:j<l.length*4:=by have:=(sH.1 hj).1;rw[hr.1]at this;exact this);(have e2:(cur.toList.take (l.length*4))[j]?=(Jk us)[j]?:=by rw[ht]);rw[sB,if_pos hlt,hj]at e2;simp[tS,hg];simpa using e2);refine⟨_,cap,rfl,hn,.inr ⟨g,0,rfl,fun i hi=>?_⟩⟩;obtain⟨e1,e2⟩:=LP hl i hi;(have hlen:us.length=l.length:=by rw[<-hl];simp);obtain⟨c1,c2,c3,c4⟩:=EY us i (by omega);have hp:=h3 _ e2;rw[e1]at c1 c2 c3 hp;rw[sM];exact⟨_,hcell _ _ c1,hcell _ _ c2,hcell _ _ c3,hcell _ _ c4,hp.1⟩
theorem CD{rb:Nat}{w W w1:F}{v:H}{l:List Ac}(h:L w W G)(ho:U5 rb W v l)(hb:w.heap.size<=rb)(hg:L W w1 v.ownBlock):L w w1 G:=⟨hg.os.trans h.os,hg.tape.trans h.tape,hg.output.trans h.output,tN h.size hg.size,fun i hi hn=>(hg.block i (tG hi h.size) (fun e=>by
 have:=(ho.lt i e.symm).1;omega)).trans (h.block i hi hn)⟩
theorem Av:(O.info? 38).map (fun i=>(i.zero,i.size,i.bytes))=I (I (sP #[Y tC 0,Y tC 0,Y tC 0,J G 0 0]),4,48):=by
 kernel_rfl
def Ma(w:F)(v:H)(p:Pr):Prop:=∃vk vv,v=sP #[vk,vv]∧Qe w vk p.1∧Qe w vv p.2
theorem Ma.grown{w w':F}{v:H}{p:Pr}(h:Ma w v p)(hg:L w w' G):Ma w' v p:=by
 obtain⟨vk,vv,rfl,h1,h2⟩:=h;exact⟨vk,vv,rfl,h1.grown hg,h2.grown hg⟩
def Pf(w:F)(b o:Nat)(p:Pr):Prop:=∃vk vv,w.cell? ⟨b,o,G⟩=I vk∧w.cell? ⟨b,o+1,G⟩=I vv∧Qe w vk p.1∧Qe w vv p.2
theorem Pf.grown{w w':F}{b o:Nat}{p:Pr}(h:Pf w b o p)(hg:L w w' G):Pf w' b o p:=by
 obtain⟨vk,vv,c1,c2,h1,h2⟩:=h;exact⟨vk,vv,hg.cell c1 (by simp),hg.cell c2 (by simp),h1.grown hg,h2.grown hg⟩
def Qq(w:F)(v:H)(l:PL):Prop:=∃a cap,v=J a l.length cap∧l.length<=cap∧((l=[]∧(a=G->cap=0))∨∃b o,a=I ⟨b,o,G⟩∧∀i,i<l.length->Pf w b (o+i*2) (l.getD i ([],[])))
theorem Yi(w:F):Qq w (J G 0 0) []:=⟨G,0,rfl,tY _,.inl ⟨rfl,fun _=>rfl⟩⟩
theorem Qq.grown{w w':F}{v:H}{l:PL}(h:Qq w v l)(hg:L w w' G):Qq w' v l:=by
 obtain⟨a,cap,rfl,hc,h⟩:=h;refine⟨a,cap,rfl,hc,?_⟩;rcases h with h|⟨b,o,rfl,h⟩;·exact .inl h
 ·exact .inr ⟨b,o,rfl,fun i hi=>(h i hi).grown hg⟩
theorem Qq.shape{w:F}{v:H}{l:PL}(h:Qq w v l):∃a cap,v=J a l.length cap:=by
 obtain⟨a,cap,rfl,_⟩:=h;exact⟨a,cap,rfl⟩
theorem Qq.at{w:F}{a:Option sY}{n cap:Nat}{l:PL}(h:Qq w (J a n cap) l)(i:Nat)(hi:i<l.length):∃b o,a=I ⟨b,o,G⟩∧Pf w b (o+i*2) (l.getD i ([],[])):=by
 obtain⟨a',cap',e,hc,h⟩:=h;simp only[tH]at e;obtain⟨rfl,rfl,rfl⟩:=e;rcases h with⟨rfl,_⟩|⟨b,o,rfl,h⟩;·simp at hi
 ·exact⟨b,o,rfl,h i hi⟩
theorem Qi.kept{base:Nat}{w w':F}{v:H}{bs:List UInt8}(h:Qi base w v bs){row:Option Nat}(hg:L w w' row)(hrow:row=G∨∃g cur fz,row=I g∧base<=g∧w.heap[g]?=I (S cur 44 fz)):Qi base w' v bs:=by
 obtain⟨hs,ho⟩:=h;rcases ho with rfl|⟨b,hb,hlt,hc⟩;·obtain⟨a,cap,rfl,hc,h⟩:=hs;refine⟨⟨a,cap,rfl,hc,?_⟩,.inl rfl⟩;rcases h with h|⟨b,o,rfl,h⟩;(·exact .inl h);·exact .inr ⟨b,o,rfl,fun i hi=>by simp at hi⟩
 ·(have hne:I b≠row:=by intro e;rcases hrow with rfl|⟨g,cur,fz,rfl,hbg,hgc⟩;(·cases e);·cases e;rcases hc with hc|⟨cur2,fz2,hc⟩;(·omega);·rw[hc]at hgc;simp at hgc);have hblk:=hg.block b hlt hne;refine⟨?_,.inr ⟨b,hb,tG hlt hg.size,?_⟩⟩;(·obtain⟨a,cap,rfl,hcp,h⟩:=hs;refine⟨a,cap,rfl,hcp,?_⟩;rcases h with h|⟨b',o,rfl,h⟩;(·exact .inl h);·refine .inr ⟨b',o,rfl,fun i hi=>?_⟩;simp[pF]at hb;subst hb;exact hg.cell (h i hi) (by simpa using hne));·rcases hc with hc|⟨cur,fz,hc⟩;(·exact .inl hc);·exact .inr ⟨cur,fz,by rw[hblk];exact hc⟩
def flat(vs:List (H×H)):List H:=vs.flatMap fun x=>[x.1,x.2]
theorem Kt(vs:List (H×H)):(flat vs).length=vs.length*2:=by
 induction vs with|nil=>rfl|cons x r ih=>simp only[flat,tM,tB,sG,pT]at ih⊢;omega
theorem JT(a b:List (H×H)):flat (a++b)=flat a++flat b:=by
 simp[flat]
theorem zY:∀(vs:List (H×H))(i:Nat),i<vs.length->(flat vs)[i*2]?=I (vs.getD i (sI,sI)).1∧(flat vs)[i*2+1]?=I (vs.getD i (sI,sI)).2|[],i,h=>by simp at h|x::r,0,_=>by simp[flat]|x::r,i+1,h=>by have:=zY r i (by simpa using h);rw[show(i+1)*2=i*2+2by omega,show i*2+2+1=(i*2+1)+2by omega];simpa[flat]using this
def Gi(base:Nat)(w:F)(v:H)(l:PL):Prop:=∃vs:List (H×H),vs.length=l.length∧w.ownsRow base 44 2 v l.length (flat vs)∧∀i,i<l.length->Qi base w (vs.getD i (sI,sI)).1 (l.getD i ([],[])).1∧Qi base w (vs.getD i (sI,sI)).2 (l.getD i ([],[])).2
theorem Gi.row{base:Nat}{w:F}{v:H}{l:PL}(h:Gi base w v l):v.ownBlock=G∨∃g cur fz,v.ownBlock=I g∧base<=g∧w.heap[g]?=I (S cur 44 fz):=by
 obtain⟨vs,_,h,_⟩:=h;rcases h.2with⟨rfl,_⟩|⟨g,cap,cur,rfl,hb,hg,_⟩;·exact .inl rfl
 ·exact .inr ⟨g,cur,_,rfl,hb,hg⟩
theorem Gi.lt{base:Nat}{w:F}{v:H}{l:PL}(h:Gi base w v l):∀k,v.ownBlock=I k->base<=k∧k<w.heap.size:=by
 obtain⟨vs,_,h,_⟩:=h;exact sF h
theorem Gi.grownNone{base:Nat}{w w':F}{v:H}{l:PL}(h:Gi base w v l)(hg:L w w' G):Gi base w' v l:=by
 obtain⟨vs,h1,h2,h3⟩:=h;refine⟨vs,h1,tU h2 hg ?_,fun i hi=>⟨((h3 i hi).1).kept hg (.inl rfl),((h3 i hi).2).kept hg (.inl rfl)⟩⟩;cases hv:v.ownBlock with|none=>exact .inl rfl|some k=>exact .inr (by simp)
theorem Gi.alloc{base:Nat}{w:F}{v:H}{l:PL}(h:Gi base w v l)(o:Obj):Gi base (w.alloc o) v l:=h.grownNone (sW _ _ _)
theorem Gi.shape{base:Nat}{w:F}{v:H}{l:PL}(h:Gi base w v l):∃a cap,v=J a l.length cap:=by
 obtain⟨vs,_,h,_⟩:=h;rcases h.2with⟨rfl,h0⟩|⟨g,cap,cur,rfl,_⟩;·exact⟨G,0,by rw[h0]⟩
 ·exact⟨_,cap,rfl⟩
theorem dN{base:Nat}{w W w1:F}{v:H}{l:PL}(h:L w W G)(ho:Gi base W v l)(hb:w.heap.size<=base)(hg:L W w1 v.ownBlock):L w w1 G:=⟨hg.os.trans h.os,hg.tape.trans h.tape,hg.output.trans h.output,tN h.size hg.size,fun i hi hn=>(hg.block i (tG hi h.size) (fun e=>by
 have:=(ho.lt i e.symm).1;omega)).trans (h.block i hi hn)⟩
theorem DH:(O.info? 44).map (fun i=>(i.zero,i.size,i.bytes))=I (I (sP #[J G 0 0,J G 0 0]),2,48):=by
 kernel_rfl
theorem Ji{α:Type}(a b:List α)(i:Nat)(d:α):(a++b).getD i d=if i<a.length then a.getD i d else b.getD (i-a.length) d:=by
 by_cases h:i<a.length;·rw[if_pos h];simp[pK,h]
 ·rw[if_neg h];simp[pK,h]
theorem yI(vs:List (H×H))(k:Nat):flat (vs.take k)=(flat vs).take (k*2):=by
 induction vs generalizing k with|nil=>simp[flat]|cons x r ih=>cases k with|zero=>simp[flat]|succ k=>rw[rB,show(k+1)*2=k*2+2by omega];have:=ih k;simp only[flat,tM,pP,pU,rB]at this⊢;rw[this]
theorem Ed(vs:List (H×H))(k:Nat):flat (vs.drop k)=(flat vs).drop (k*2):=by
 induction vs generalizing k with|nil=>simp[flat]|cons x r ih=>cases k with|zero=>simp[flat]|succ k=>rw[pL,show(k+1)*2=k*2+2by omega];have:=ih k;simp only[flat,tM,pP,pU,pL]at this⊢;rw[this]
theorem Gi.cells{base:Nat}{w:F}{g n cap:Nat}{vs:List (H×H)}{l:PL}(hr:w.ownsRow base 44 2 (J (I ⟨g,0,G⟩) n cap) l.length (flat vs)):∀j u,(flat vs)[j]?=I u->w.cell? ⟨g,j,G⟩=I u:=by
 intro j u hj;rcases hr.2with⟨e,_⟩|⟨g',cap',cur,e,hb,hg,hn,hm,hs,ht⟩;·cases e
 ·simp only[tH,tA,rF]at e;obtain⟨⟨rfl,_⟩,_,_⟩:=e;(have hlt:j<l.length*2:=by have:=(sH.1 hj).1;rw[hr.1]at this;exact this);(have e2:(cur.toList.take (l.length*2))[j]?=(flat vs)[j]?:=by rw[ht]);rw[sB,if_pos hlt,hj]at e2;simp[tS,hg];simpa using e2
theorem Za.setOther{base:Nat}{w:F}{v:H}{bs:List UInt8}(h:Za base w v bs)(c i:Nat)(x:H)(hc:c<base):Za base (tE w ⟨c,i,G⟩ x) v bs:=by
 refine h.grown (row:=I c) (Qg (Qb _ _) i x) ?_;cases hv:v.ownBlock with|none=>exact .inl rfl|some k=>have:=(h.lt k hv).1;exact .inr (by simp;omega)
theorem UU{W w:F}{b:Nat}{x y:H}{t:tX}(hg:L W w G)(h:W.heap[b]?=I (S #[x,y] t))(u v:H):(tE w ⟨b,0,G⟩ u).cell? ⟨b,0,G⟩=I u∧((tE w ⟨b,0,G⟩ u).setCell ⟨b,1,G⟩ v).cell? ⟨b,1,G⟩=I v:=by
 have hb:w.heap[b]?=I (S #[x,y] t):=by rw[hg.block b (tI.1 h).1 (by simp)];exact h
 have c0:w.cell? ⟨b,0,G⟩=I x:=by simp[tS,hb]
 have c1:w.cell? ⟨b,1,G⟩=I y:=by simp[tS,hb]
 refine⟨pG _ _ _ (by rw[c0];rfl),pG _ _ _ ?_⟩;rw[World.cell?_setCell_other _ _ _ _ (by simp),c1];rfl
theorem Ga{base:Nat}{W:F}{pb:Nat}{x y:H}(h:W.heap[pb]?=I (S #[x,y] 44))(hb:base<=pb)(u v:H):((tE W ⟨pb,0,G⟩ u).setCell ⟨pb,1,G⟩ v).heap[pb]?=I (S #[u,v] 44)∧(∀z bs,Qi base W z bs->Qi base ((tE W ⟨pb,0,G⟩ u).setCell ⟨pb,1,G⟩ v) z bs)∧∀w0:F,w0.heap.size<=pb->L w0 W G->L w0 ((tE W ⟨pb,0,G⟩ u).setCell ⟨pb,1,G⟩ v) G:=by
 refine⟨?_,fun z bs hz=>?_,fun w0 h0 hg=>Qd (Qd hg _ h0 _ _) _ h0 _ _⟩;·simp only[tE,tV,if_true,h,rJ];first|rfl|simp
 ·exact hz.kept (Qg (Qg (Qb _ _) _ _) _ _) (.inr ⟨pb,_,_,rfl,hb,h⟩)
def Kn(rb pb:Nat)(w:F)(v:H)(l:PL):Prop:=∃vs:List (H×H),vs.length=l.length∧w.ownsRow rb 44 2 v l.length (flat vs)∧∀i,i<l.length->Qi pb w (vs.getD i (sI,sI)).1 (l.getD i ([],[])).1∧Qi pb w (vs.getD i (sI,sI)).2 (l.getD i ([],[])).2
theorem Cu(rb pb:Nat)(w:F):Kn rb pb w (J G 0 0) []:=⟨[],rfl,sL _ _ _ _,fun i hi=>by
 simp at hi⟩
theorem Kn.p{rb pb:Nat}{w:F}{v:H}{l:PL}(h:Kn rb pb w v l)(hb:pb<=rb):Gi pb w v l:=by
 obtain⟨vs,h1,h2,h3⟩:=h;refine⟨vs,h1,⟨h2.1,?_⟩,h3⟩;rcases h2.2with h|⟨g,cap,cur,h1,h2,h3⟩;·exact .inl h
 ·exact .inr ⟨g,cap,cur,h1,tN hb h2,h3⟩
theorem Kn.row{rb base:Nat}{w:F}{v:H}{l:PL}(h:Kn rb base w v l)(hb:base<=rb):v.ownBlock=G∨∃g cur fz,v.ownBlock=I g∧base<=g∧w.heap[g]?=I (S cur 44 fz):=(h.p hb).row
theorem Kn.lt{rb pb:Nat}{w:F}{v:H}{l:PL}(h:Kn rb pb w v l):∀k,v.ownBlock=I k->rb<=k∧k<w.heap.size:=by
 obtain⟨vs,_,h,_⟩:=h;exact sF h
theorem Kn.grownNone{rb pb:Nat}{w w':F}{v:H}{l:PL}(h:Kn rb pb w v l)(hg:L w w' G):Kn rb pb w' v l:=by
 obtain⟨vs,h1,h2,h3⟩:=h;refine⟨vs,h1,tU h2 hg ?_,fun i hi=>⟨((h3 i hi).1).kept hg (.inl rfl),((h3 i hi).2).kept hg (.inl rfl)⟩⟩;cases hv:v.ownBlock with|none=>exact .inl rfl|some k=>exact .inr (by simp)
theorem Kn.alloc{rb pb:Nat}{w:F}{v:H}{l:PL}(h:Kn rb pb w v l)(o:Obj):Kn rb pb (w.alloc o) v l:=h.grownNone (sW _ _ _)
theorem Kn.shape{rb pb:Nat}{w:F}{v:H}{l:PL}(h:Kn rb pb w v l):∃a cap,v=J a l.length cap:=by
 obtain⟨vs,_,h,_⟩:=h;rcases h.2with⟨rfl,h0⟩|⟨g,cap,cur,rfl,_⟩;·exact⟨G,0,by rw[h0]⟩
 ·exact⟨_,cap,rfl⟩
theorem Tz{rb pb:Nat}{w W w1:F}{v:H}{l:PL}(h:L w W G)(ho:Kn rb pb W v l)(hb:w.heap.size<=rb)(hg:L W w1 v.ownBlock):L w w1 G:=⟨hg.os.trans h.os,hg.tape.trans h.tape,hg.output.trans h.output,tN h.size hg.size,fun i hi hn=>(hg.block i (tG hi h.size) (fun e=>by
 have:=(ho.lt i e.symm).1;omega)).trans (h.block i hi hn)⟩
def fE(base:Nat)(w:F)(b o:Nat)(p:Pr):Prop:=∃vk vv,w.cell? ⟨b,o,G⟩=I vk∧w.cell? ⟨b,o+1,G⟩=I vv∧Qi base w vk p.1∧Qi base w vv p.2
def QN(base:Nat)(w:F)(v:H)(l:PL):Prop:=∃a cap,v=J a l.length cap∧l.length<=cap∧((l=[]∧(a=G->cap=0))∨∃b o,a=I ⟨b,o,G⟩∧(b<base∨∃cur fz,w.heap[b]?=I (S cur 44 fz))∧∀i,i<l.length->fE base w b (o+i*2) (l.getD i ([],[])))
theorem QN.list{base:Nat}{w:F}{v:H}{l:PL}(h:QN base w v l):Qq w v l:=by
 obtain⟨a,cap,rfl,hc,h⟩:=h;refine⟨a,cap,rfl,hc,?_⟩;rcases h with h|⟨b,o,rfl,_,h⟩;·exact .inl h
 ·refine .inr ⟨b,o,rfl,fun i hi=>?_⟩;obtain⟨vk,vv,c1,c2,h1,h2⟩:=h i hi;exact⟨vk,vv,c1,c2,h1.1,h2.1⟩
theorem Qq.pairsB{w w':F}{v:H}{l:PL}(h:Qq w v l)(hg:L w w' G)(base:Nat)(hb:w.heap.size<=base):QN base w' v l:=by
 obtain⟨a,cap,rfl,hc,h⟩:=h;refine⟨a,cap,rfl,hc,?_⟩;rcases h with h|⟨b,o,rfl,h⟩;·exact .inl h
 ·by_cases h0:l=[];(·exact .inl ⟨h0,fun e=>by cases e⟩);·have hl:0<l.length:=rP.2 h0;refine .inr ⟨b,o,rfl,.inl ?_,fun i hi=>?_⟩;(·obtain⟨vk,vv,c1,_⟩:=h 0 hl;exact tG (Vt c1) hb);·obtain⟨vk,vv,c1,c2,h1,h2⟩:=h i hi;exact⟨vk,vv,hg.cell c1 (by simp),hg.cell c2 (by simp),h1.part hg base hb,h2.part hg base hb⟩
theorem Gi.pairsB{base:Nat}{w:F}{v:H}{l:PL}(h:Gi base w v l):QN base w v l:=by
 obtain⟨vs,hl,hr,h3⟩:=h;have hr':=hr;rcases hr.2with⟨rfl,h0⟩|⟨g,cap,cur,rfl,hb,hg,hn,hm,hs,ht⟩;·have:l=[]:=tJ h0;subst this;exact⟨G,0,rfl,tY _,.inl ⟨rfl,fun _=>rfl⟩⟩
 ·refine⟨_,cap,rfl,hn,.inr ⟨g,0,rfl,.inr ⟨cur,_,hg⟩,fun i hi=>?_⟩⟩;have hf:=zY vs i (by omega);refine⟨(vs.getD i (sI,sI)).1,(vs.getD i (sI,sI)).2,?_,?_,(h3 i hi).1,(h3 i hi).2⟩;(·have:=Gi.cells hr' _ _ hf.1;rw[sM];exact this);·have:=Gi.cells hr' _ _ hf.2;rw[sM];exact this
theorem QN.kept{base:Nat}{w w':F}{v:H}{l:PL}(h:QN base w v l){row:Option Nat}(hg:L w w' row)(hrow:row=G∨∃g cur t fz,row=I g∧base<=g∧w.heap[g]?=I (S cur t fz)∧t≠5∧t≠44):QN base w' v l:=by
 obtain⟨a,cap,rfl,hc,h⟩:=h;refine⟨a,cap,rfl,hc,?_⟩;rcases h with h|⟨b,o,rfl,hb,h⟩;·exact .inl h
 ·by_cases h0:l=[];(·exact .inl ⟨h0,fun e=>by cases e⟩);·have hl:0<l.length:=rP.2 h0;(have hlt:b<w.heap.size:=by obtain⟨vk,vv,c1,_⟩:=h 0 hl;exact Vt c1);(have hne:I b≠row:=by intro e;rcases hrow with rfl|⟨g,cur,t,fz,rfl,hbg,hgc,ht,ht2⟩;(·cases e);·cases e;rcases hb with hb|⟨cur2,fz2,hb⟩;(·omega);·rw[hb]at hgc;simp only[tA,tW]at hgc;exact ht2 hgc.2.1.symm);(have hrow':row=G∨∃g cur t fz,row=I g∧base<=g∧w.heap[g]?=I (S cur t fz)∧t≠5:=by rcases hrow with h|⟨g,cur,t,fz,h1,h2,h3,h4,_⟩;(·exact .inl h);·exact .inr ⟨g,cur,t,fz,h1,h2,h3,h4⟩);refine .inr ⟨b,o,rfl,?_,fun i hi=>?_⟩;(·rcases hb with hb|⟨cur,fz,hb⟩;(·exact .inl hb);·exact .inr ⟨cur,fz,by rw[hg.block b hlt hne];exact hb⟩);·obtain⟨vk,vv,c1,c2,h1,h2⟩:=h i hi;exact⟨vk,vv,hg.cell c1 (by simpa using hne),hg.cell c2 (by simpa using hne),h1.keptT hg hrow',h2.keptT hg hrow'⟩
theorem QN.grown{base:Nat}{w w':F}{v:H}{l:PL}(h:QN base w v l)(hg:L w w' G):QN base w' v l:=h.kept hg (.inl rfl)
theorem xL{base:Nat}{w:F}{v:H}{l:PL}(h:QN base w v l):v.oneCell'=M:=by
 obtain⟨a,cap,rfl,_⟩:=h;rfl
theorem Yu(base:Nat)(w:F):QN base w (J G 0 0) []:=⟨G,0,rfl,tY _,.inl ⟨rfl,fun _=>rfl⟩⟩
theorem QN.shape{base:Nat}{w:F}{v:H}{l:PL}(h:QN base w v l):∃a cap,v=J a l.length cap:=by
 obtain⟨a,cap,rfl,_⟩:=h;exact⟨a,cap,rfl⟩
theorem QN.mono{base base':Nat}{w:F}{v:H}{l:PL}(h:QN base w v l)(hb:base<=base'):QN base' w v l:=by
 obtain⟨a,cap,rfl,hc,h⟩:=h;refine⟨a,cap,rfl,hc,?_⟩;rcases h with h|⟨b,o,rfl,h1,h2⟩;·exact .inl h
 ·refine .inr ⟨b,o,rfl,?_,fun i hi=>?_⟩;(·rcases h1 with h1|h1;(·exact .inl (by omega));·exact .inr h1);·obtain⟨vk,vv,c1,c2,p1,p2⟩:=h2 i hi;exact⟨vk,vv,c1,c2,p1.mono hb,p2.mono hb⟩
theorem Kn.pairsB{rb:Nat}{w:F}{v:H}{l:PL}(h:Kn rb 0 w v l):QN 0 w v l:=(h.p (tR _)).pairsB
theorem QN.up{w:F}{v:H}{l:PL}(h:QN 0 w v l)(base:Nat):QN base w v l:=h.mono (tR _)
abbrev WV:=Zf×H×H×H
def CX:WV:=(Qp,sI,sI,sI)
def Y5(us:List WV):List H:=us.flatMap fun x=>[x.2.1,x.2.2.1,tL x.1.gone,x.2.2.2]
theorem LG(us:List WV):(Y5 us).length=us.length*4:=by
 induction us with|nil=>rfl|cons x r ih=>simp only[Y5,tM,tB,sG,pT]at ih⊢;omega
theorem kT(a b:List WV):Y5 (a++b)=Y5 a++Y5 b:=by
 simp[Y5]
theorem E5:∀(us:List WV)(i:Nat),i<us.length->(Y5 us)[i*4]?=I (us.getD i CX).2.1∧(Y5 us)[i*4+1]?=I (us.getD i CX).2.2.1∧(Y5 us)[i*4+2]?=I (tL (us.getD i CX).1.gone)∧(Y5 us)[i*4+3]?=I (us.getD i CX).2.2.2|[],i,h=>by simp at h|x::r,0,_=>by simp[Y5]|x::r,i+1,h=>by have:=E5 r i (by simpa using h);rw[show(i+1)*4=i*4+4by omega,show i*4+4+1=(i*4+1)+4by omega,show i*4+4+2=(i*4+2)+4by omega,show i*4+4+3=(i*4+3)+4by omega];simpa[Y5]using this
theorem kE:(178:Nat)≠5:=by
 decide
theorem LD{us:List WV}{l:List Zf}(h:us.map (·.1)=l)(i:Nat)(hi:i<l.length):(us.getD i CX).1=l.getD i Qp∧us.getD i CX∈us:=by
 subst h;have hi':i<us.length:=by simpa using hi
 refine⟨by simp[hi'],?_⟩;rw[show us.getD i CX=us[i]by simp[hi']];exact sN hi'
theorem OY:(O.info? 178).map (fun i=>(i.zero,i.size,i.bytes))=I (I (sP #[J G 0 0,J G 0 0,tL N,J G 0 0]),4,80):=by
 kernel_rfl
theorem Ri(w:F)(vn vk vv:H)(p:Zf)(h1:Qe w vn p.name)(h2:Qe w vk p.key)(h3:Qe w vv p.value)(t:tX):QQ (w.alloc (S #[vn,vk,tL p.gone,vv] t)) (J (I ⟨w.heap.size,0,G⟩) 1 1) [p]:=by
 refine⟨_,1,rfl,by simp,.inr ⟨w.heap.size,0,rfl,fun i hi=>?_⟩⟩;match i,hi with|0,_=>exact⟨vn,vk,vv,by simp,by simp,by simp,by simp,h1.alloc _,h2.alloc _,h3.alloc _⟩
def Iy(base:Nat)(w:F)(b o:Nat)(p:Zf):Prop:=∃vn vk vv,w.cell? ⟨b,o,G⟩=I vn∧w.cell? ⟨b,o+1,G⟩=I vk∧w.cell? ⟨b,o+2,G⟩=I (tL p.gone)∧w.cell? ⟨b,o+3,G⟩=I vv∧Qi base w vn p.name∧Qi base w vk p.key∧Qi base w vv p.value
def Xm(base:Nat)(w:F)(v:H)(l:List Zf):Prop:=∃a cap,v=J a l.length cap∧l.length<=cap∧((l=[]∧(a=G->cap=0))∨∃b o,a=I ⟨b,o,G⟩∧(b<base∨∃cur fz,w.heap[b]?=I (S cur 178 fz))∧∀i,i<l.length->Iy base w b (o+i*4) (l.getD i Qp))
theorem Dh(base:Nat)(w:F):Xm base w (J G 0 0) []:=⟨G,0,rfl,tY _,.inl ⟨rfl,fun _=>rfl⟩⟩
theorem Xm.shape{base:Nat}{w:F}{v:H}{l:List Zf}(h:Xm base w v l):∃a cap,v=J a l.length cap:=by
 obtain⟨a,cap,rfl,_⟩:=h;exact⟨a,cap,rfl⟩
theorem Xm.oneCell{base:Nat}{w:F}{v:H}{l:List Zf}(h:Xm base w v l):v.oneCell'=M:=by
 obtain⟨a,cap,rfl,_⟩:=h;rfl
theorem Xm.list{base:Nat}{w:F}{v:H}{l:List Zf}(h:Xm base w v l):QQ w v l:=by
 obtain⟨a,cap,rfl,hc,h⟩:=h;refine⟨a,cap,rfl,hc,?_⟩;rcases h with h|⟨b,o,rfl,_,h⟩;·exact .inl h
 ·refine .inr ⟨b,o,rfl,fun i hi=>?_⟩;obtain⟨vn,vk,vv,c1,c2,c3,c4,h1,h2,h3⟩:=h i hi;exact⟨vn,vk,vv,c1,c2,c3,c4,h1.1,h2.1,h3.1⟩
theorem Xm.kept{base:Nat}{w w':F}{v:H}{l:List Zf}(h:Xm base w v l){row:Option Nat}(hg:L w w' row)(hrow:row=G∨∃g cur t fz,row=I g∧base<=g∧w.heap[g]?=I (S cur t fz)∧t≠5∧t≠178):Xm base w' v l:=by
 obtain⟨a,cap,rfl,hc,h⟩:=h;refine⟨a,cap,rfl,hc,?_⟩;rcases h with h|⟨b,o,rfl,hb,h⟩;·exact .inl h
 ·by_cases h0:l=[];(·exact .inl ⟨h0,fun e=>by cases e⟩);·have hl:0<l.length:=rP.2 h0;(have hlt:b<w.heap.size:=by obtain⟨vn,vk,vv,c1,_⟩:=h 0 hl;exact Vt c1);(have hne:I b≠row:=by intro e;rcases hrow with rfl|⟨g,cur,t,fz,rfl,hbg,hgc,ht,ht2⟩;(·cases e);·cases e;rcases hb with hb|⟨cur2,fz2,hb⟩;(·omega);·rw[hb]at hgc;simp only[tA,tW]at hgc;exact ht2 hgc.2.1.symm);(have hrow':row=G∨∃g cur t fz,row=I g∧base<=g∧w.heap[g]?=I (S cur t fz)∧t≠5:=by rcases hrow with h|⟨g,cur,t,fz,h1,h2,h3,h4,_⟩;(·exact .inl h);·exact .inr ⟨g,cur,t,fz,h1,h2,h3,h4⟩);refine .inr ⟨b,o,rfl,?_,fun i hi=>?_⟩;(·rcases hb with hb|⟨cur,fz,hb⟩;(·exact .inl hb);·exact .inr ⟨cur,fz,by rw[hg.block b hlt hne];exact hb⟩);·obtain⟨vn,vk,vv,c1,c2,c3,c4,h1,h2,h3⟩:=h i hi;exact⟨vn,vk,vv,hg.cell c1 (by simpa using hne),hg.cell c2 (by simpa using hne),hg.cell c3 (by simpa using hne),hg.cell c4 (by simpa using hne),h1.keptT hg hrow',h2.keptT hg hrow',h3.keptT hg hrow'⟩
theorem Xm.grown{base:Nat}{w w':F}{v:H}{l:List Zf}(h:Xm base w v l)(hg:L w w' G):Xm base w' v l:=h.kept hg (.inl rfl)
def JY(w:F)(v:H)(c:XA):Prop:=∃vs,v=sP #[Y tC c.turn,vs]∧QQ w vs c.writes
theorem JY.grown{w w':F}{v:H}{c:XA}(h:JY w v c)(hg:L w w' G):JY w' v c:=by
 obtain⟨vs,rfl,h⟩:=h;exact⟨vs,rfl,h.grown hg⟩
theorem JY.agg{w:F}{v:H}{c:XA}(h:JY w v c):∃a cap,v=sP #[Y tC c.turn,J a c.writes.length cap]:=by
 obtain⟨vs,rfl,h⟩:=h;obtain⟨a,cap,rfl⟩:=h.shape;exact⟨a,cap,rfl⟩
theorem JY.writes{w:F}{c:XA}{x y:H}(h:JY w (sP #[x,y]) c):x=Y tC c.turn∧QQ w y c.writes:=by
 obtain⟨vs,e,h⟩:=h;injection e with e;injection e with e;injection e with e1 e;injection e with e2 e;exact⟨e1,e2▸h⟩
structure EO(c:XA):Prop where turn:-9223372036854775808<=c.turn∧c.turn<=9223372036854775807writes:kL c.writes
structure VS where
  data : List UInt8
  synced : Int
def VX:VS:=⟨[],0⟩
def KT(w:F)(v:H)(t:VS):Prop:=∃vd,v=sP #[vd,Y tC t.synced]∧Qe w vd t.data
theorem KT.grown{w w':F}{v:H}{t:VS}(h:KT w v t)(hg:L w w' G):KT w' v t:=by
 obtain⟨vd,rfl,h⟩:=h;exact⟨vd,rfl,h.grown hg⟩
theorem KT.agg{w:F}{v:H}{t:VS}(h:KT w v t):∃a cap,v=sP #[J a t.data.length cap,Y tC t.synced]:=by
 obtain⟨vd,rfl,h⟩:=h;obtain⟨a,cap,rfl⟩:=h.shape;exact⟨a,cap,rfl⟩
theorem KT.data{w:F}{t:VS}{x y:H}(h:KT w (sP #[x,y]) t):Qe w x t.data∧y=Y tC t.synced:=by
 obtain⟨vd,e,h⟩:=h;injection e with e;injection e with e;injection e with e1 e;injection e with e2 e;exact⟨e1▸h,e2⟩
structure xI(t:VS):Prop where data:t.data.length<=140737488355328synced:-9223372036854775808<=t.synced∧t.synced<=9223372036854775807
def Yt(w:F)(v:H)(t:VS):Prop:=∃vd,v=sP #[vd,Y tC t.synced]∧Qi 0 w vd t.data
theorem Yt.is{w:F}{v:H}{t:VS}(h:Yt w v t):KT w v t:=by
 obtain⟨vd,rfl,h⟩:=h;exact⟨vd,rfl,h.slice⟩
theorem VL(w:F):Yt w (sP #[J G 0 0,Y tC 0]) VX:=⟨_,rfl,QH w,.inl rfl⟩
def Gh(t:VS):Bool:=tP (t.data.length<=200000)&&tP (0<=t.synced∧t.synced<=(t.data.length:Int))
theorem Ky(t:VS):Gh t=M↔t.data.length<=200000∧0<=t.synced∧t.synced<=(t.data.length:Int):=by
 unfold Gh;rw[rH,decide_eq_true_iff,decide_eq_true_iff]
def F7(c:XA):List UInt8:=if QZ c=0then Zj c else[]
def TQ(t:VS):Int:=if Gh t=M then 0 else 6
def Kk(t:VS):VS:=if Gh t=M then⟨t.data,(t.data.length:Int)⟩else VX
def Un(t:VS)(keep:Int):Int:=if Gh t=M then(if keep<0then 2 else 0)else 6
def Xt(t:VS)(keep:Int):Nat:=if keep<(t.data.length:Int)-t.synced then(t.synced+keep).toNat else t.data.length
def Xp(t:VS)(keep:Int):VS:=if Un t keep=0then⟨t.data.take (Xt t keep),(Xt t keep:Int)⟩else VX
def U4(D:List UInt8->List UInt8)(t:VS)(c:XA):Int:=if Gh t=M then(if QZ c=0then(if 200000<t.data.length+(ZA D c).length then 11 else 0)else QZ c)else 6
def qX(D:List UInt8->List UInt8)(t:VS)(c:XA):VS:=if U4 D t c=0then⟨t.data++ZA D c,t.synced⟩else VX
def RI(t:VS):Int:=if Gh t=M then 0 else 6
def xR(D:List UInt8->List UInt8)(t:VS):List XA:=if Gh t=M then(KA D 1 t.data).1 else[]
def zK(D:List UInt8->List UInt8)(t:VS):VS:=if Gh t=M then⟨t.data.take (MY D t.data),if t.synced>(MY D t.data:Int)then(MY D t.data:Int)else t.synced⟩else VX
theorem xS{D:List UInt8->List UInt8}(hD:∀x,(D x).length=4){c:XA}(hc:QZ c=0):6<=(ZA D c).length∧(ZA D c).length<=600:=by
 have h1:=Pb hD c;have h2:=UW hc;omega
theorem CU(D:List UInt8->List UInt8)(cs:List XA)(i:Nat)(h:i<cs.length):QV D (cs.take (i+1))=QV D (cs.take i)++ZA D (cs.getD i Zl):=by
 rw[sV h,Vs,vX,show cs[i]=cs.getD i Zl by simp[h]]
theorem eC{D:List UInt8->List UInt8}{t:VS}(hm:Gh t=M){cs:List XA}{r:List UInt8}{n:Nat}(h:KA D 1 t.data=(cs,r))(hn:MY D t.data=n):RI t=0∧xR D t=cs∧zK D t=⟨t.data.take n,if t.synced>(n:Int)then(n:Int)else t.synced⟩:=by
 refine⟨by rw[RI,if_pos hm],by rw[xR,if_pos hm,h],by rw[zK,if_pos hm,hn]⟩
theorem IR{D:List UInt8->List UInt8}(hD:∀x,(D x).length=4){cs:List XA}(h:qE 1 cs)(k:Nat)(s:Int)(hk:k<=(QV D cs).length)(hs:0<=s∧s<=(k:Int))(hl:(QV D cs).length<=200000):∃j,j<=cs.length∧(QV D (cs.take j)).length<=k∧(j<cs.length->k<(QV D (cs.take (j+1))).length)∧RI ⟨(QV D cs).take k,s⟩=0∧xR D ⟨(QV D cs).take k,s⟩=cs.take j∧zK D ⟨(QV D cs).take k,s⟩=⟨QV D (cs.take j),if s>((QV D (cs.take j)).length:Int)then((QV D (cs.take j)).length:Int)else s⟩:=by
 obtain⟨j,h1,h2,h3,h4,h5⟩:=Ch hD h k;have hkl:((QV D cs).take k).length=k:=by simp;omega
 have hm:Gh ⟨(QV D cs).take k,s⟩=M:=(Ky _).2 ⟨by show((QV D cs).take k).length<=_;omega,by show 0<=s∧s<=(((QV D cs).take k).length:Int);omega⟩;have hn:MY D ((QV D cs).take k)=(QV D (cs.take j)).length:=by rw[MY,h2,hkl];show k-(((QV D cs).take k).drop _).length=_;rw[pQ,hkl];omega
 obtain⟨a,b,c⟩:=eC hm h2 hn;refine⟨j,h1,h3,h5,a,b,?_⟩;rw[c];have e:((QV D cs).take k).take (QV D (cs.take j)).length=QV D (cs.take j):=by rw[pX,pY h3];(conv=>lhs;rw[<-pI j cs,Vs]);rw[show(cs.take j++cs.drop j).take j=cs.take j by rw[pI]];exact List.take_left' rfl
 show(⟨((QV D cs).take k).take _,_⟩:VS)=_;rw[e]
def Iq:FL->Nat->List XA->Int|_,_,[]=>0|f,i,c::cs=>if QZ c=0then(if c.turn=((i+1:Nat):Int)then(if QT f c.writes=0then Iq (Z6 f c.writes) (i+1) cs else QT f c.writes)else 3)else QZ c
def V8:FL->List XA->FL|f,[]=>f|f,c::cs=>V8 (Z6 f c.writes) cs
theorem uY:∀(a b:List XA)(f:FL),V8 f (a++b)=V8 (V8 f a) b|[],_,_=>rfl|_::a,b,_=>uY a b _
theorem TP(cs:List XA)(f:FL)(c:XA):V8 f (cs++[c])=Z6 (V8 f cs) c.writes:=by
 rw[uY];rfl
def uN:FL->Nat->List XA->Prop|_,_,[]=>True|f,i,c::cs=>QZ c=0∧c.turn=((i+1:Nat):Int)∧QT f c.writes=0∧uN (Z6 f c.writes) (i+1) cs
theorem uN.take:∀{cs:List XA}{f:FL}{i:Nat}(_:uN f i cs)(j:Nat),uN f i (cs.take j)|[],_,_,_,j=>by rw[List.take_nil];trivial|_::_,_,_,_,0=>trivial|_::_,_,_,h,j+1=>⟨h.1,h.2.1,h.2.2.1,uN.take h.2.2.2 j⟩
theorem uN.at:∀{cs:List XA}{f:FL}{i:Nat}(_:uN f i cs)(j:Nat)(_:j<cs.length),QZ (cs.getD j Zl)=0∧(cs.getD j Zl).turn=((i+j+1:Nat):Int)∧QT (V8 f (cs.take j)) (cs.getD j Zl).writes=0|[],_,_,_,j,hj=>by simp at hj|c::cs,f,i,h,0,_=>⟨h.1,h.2.1,h.2.2.1⟩|c::cs,f,i,h,j+1,hj=>by have:=uN.at h.2.2.2 j (by simpa using hj);rw[show i+(j+1)+1=i+1+j+1by omega];simpa[V8]using this
theorem Fc{l:FL}(h:ZQ l)(ws:List Zf):ZQ (Z6 l ws):=by
 unfold Z6;by_cases h0:QT l ws=0;·rw[if_pos h0];unfold QT at h0;rw[if_pos ((XJ l).2 h)]at h0;by_cases h10:10<ws.length;(·rw[if_pos h10]at h0;omega);·rw[if_neg h10]at h0;exact uP ws l h h0
 ·rw[if_neg h0];exact Uy
theorem Vm:∀(cs:List XA)(f:FL),ZQ f->ZQ (V8 f cs)|[],_,h=>h|c::cs,_,h=>Vm cs _ (Fc h c.writes)
def ZI(n t:Int):Bool:=tP (0<=t∧t<=n∧n-t<6)
def Ty(a b:Zf):Prop:=a.name=b.name∧a.key=b.key
def EJ(l:List Zf):Prop:=l.Pairwise fun a b=>¬Ty a b
def XE(a b:Rd):Bool:=a.wide==b.wide&&(tP (a.name=b.name)&&(tP (a.key=b.key)&&tP (a.last=b.last)))
theorem G0(a b:Rd):XE a b=M↔a=b:=by
 obtain⟨n,k,w,l⟩:=a;obtain⟨n2,k2,w2,l2⟩:=b;simp only[XE,rH,decide_eq_true_iff,beq_iff_eq,Rd.mk.injEq];exact⟨fun⟨h1,h2,h3,h4⟩=>⟨h2,h3,h1,h4⟩,fun⟨h1,h2,h3,h4⟩=>⟨h3,h1,h2,h4⟩⟩
def ZM(a b:Zf):Bool:=tP (a.name=b.name)&&tP (a.key=b.key)
theorem qD(a b:Zf):ZM a b=M↔Ty a b:=by
 simp only[ZM,rH,decide_eq_true_iff];exact Iff.rfl
def GA:List Rd->List Rd->Int|_,[]=>0|p,r::rs=>if Xq r=0then(if p.any (fun q=>XE q r)=M then 3 else GA (p++[r]) rs)else Xq r
def xA:List Zf->List Zf->Int|_,[]=>0|p,w::ws=>if QA w=0then(if p.any (fun q=>ZM q w)=M then 3 else xA (p++[w]) ws)else QA w
theorem FZ:∀(rs p:List Rd),GA p rs=0↔(∀r∈rs,Xq r=0)∧(∀r∈rs,r∉p)∧rs.Nodup|[],p=>by simp[GA]|r::rs,p=>by have ih:=FZ rs (p++[r]);rw[GA];by_cases h1:Xq r=0;(·rw[if_pos h1];by_cases h2:p.any (fun q=>XE q r)=M;(·rw[if_pos h2];refine⟨fun h=>by omega,fun h=>?_⟩;obtain⟨q,hq,he⟩:=sZ.1 h2;rw[(G0 q r).1 he]at hq;exact absurd hq (h.2.1 r (sX ..)));·rw[if_neg h2,ih];have hr:r∉p:=fun hm=>h2 (sZ.2 ⟨r,hm,(G0 r r).2 rfl⟩);constructor;(·rintro⟨a,b,c⟩;refine⟨fun x hx=>?_,fun x hx=>?_,pV.2 ⟨fun hm=>b r hm (by simp),c⟩⟩;(·rcases tK.1 hx with rfl|hx;(·exact h1);·exact a x hx);·rcases tK.1 hx with rfl|hx;(·exact hr);·exact fun hm=>b x hx (tZ.2 (.inl hm)));·rintro⟨a,b,c⟩;have c':=pV.1 c;refine⟨fun x hx=>a x (sK _ hx),fun x hx hm=>?_,c'.2⟩;rcases tZ.1 hm with hm|hm;(·exact b x (sK _ hx) hm);·simp only[tK,tQ,or_false]at hm;subst hm;exact c'.1 hx);·rw[if_neg h1];exact⟨fun h=>absurd h h1,fun h=>absurd (h.1 r (sX ..)) h1⟩
theorem MH:∀(ws p:List Zf),xA p ws=0↔(∀w∈ws,QA w=0)∧(∀w∈ws,∀q∈p,¬Ty q w)∧EJ ws|[],p=>by simp[xA,EJ]|w::ws,p=>by have ih:=MH ws (p++[w]);rw[xA];by_cases h1:QA w=0;(·rw[if_pos h1];by_cases h2:p.any (fun q=>ZM q w)=M;(·rw[if_pos h2];refine⟨fun h=>by omega,fun h=>?_⟩;obtain⟨q,hq,he⟩:=sZ.1 h2;exact absurd ((qD q w).1 he) (h.2.1 w (sX ..) q hq));·rw[if_neg h2,ih];have hr:∀q∈p,¬Ty q w:=fun q hm e=>h2 (sZ.2 ⟨q,hm,(qD q w).2 e⟩);constructor;(·rintro⟨a,b,c⟩;refine⟨fun x hx=>?_,fun x hx q hq=>?_,rC.2 ⟨fun x hx=>b x hx w (by simp),c⟩⟩;(·rcases tK.1 hx with rfl|hx;(·exact h1);·exact a x hx);·rcases tK.1 hx with rfl|hx;(·exact hr q hq);·exact b x hx q (tZ.2 (.inl hq)));·rintro⟨a,b,c⟩;have c':=rC.1 c;refine⟨fun x hx=>a x (sK _ hx),fun x hx q hm=>?_,c'.2⟩;rcases tZ.1 hm with hm|hm;(·exact b x (sK _ hx) q hm);·simp only[tK,tQ,or_false]at hm;subst hm;exact c'.1 x hx);·rw[if_neg h1];exact⟨fun h=>absurd h h1,fun h=>absurd (h.1 w (sX ..)) h1⟩
structure Tx where
  start : Int
  reads : List Rd
  writes : List Zf
def Fb:Tx:=⟨0,[],[]⟩
def VV(t:Tx):Int:=if 0<=t.start∧t.start<=1048576then(if 20<t.reads.length∨10<t.writes.length then 1 else(if GA [] t.reads=0then xA [] t.writes else GA [] t.reads))else 2
structure GU (t : Tx) : Prop where
  start : 0 <= t.start ∧ t.start <= 1048576
  reads : t.reads.length <= 20
  writes : t.writes.length <= 10
  each : ∀ r ∈ t.reads, Xq r = 0
  once : t.reads.Nodup
  wrs : ∀ w ∈ t.writes, QA w = 0
  apart : EJ t.writes
theorem qK(t:Tx):VV t=0↔GU t:=by
 unfold VV;by_cases h1:0<=t.start∧t.start<=1048576;·rw[if_pos h1];by_cases h2:20<t.reads.length∨10<t.writes.length;(·rw[if_pos h2];exact⟨fun h=>by omega,fun h=>by have:=h.reads;have:=h.writes;omega⟩);·rw[if_neg h2];by_cases h3:GA [] t.reads=0;(·rw[if_pos h3,MH];have h3':=(FZ _ _).1 h3;exact⟨fun h=>⟨h1,by omega,by omega,h3'.1,h3'.2.2,h.1,h.2.2⟩,fun h=>⟨h.wrs,fun _ _ _ hq=>by simp at hq,h.apart⟩⟩);·rw[if_neg h3];exact⟨fun h=>absurd h h3,fun h=>absurd ((FZ _ _).2 ⟨h.each,fun _ _ hq=>by simp at hq,h.once⟩) h3⟩
 ·rw[if_neg h1];exact⟨fun h=>by omega,fun h=>absurd h.start h1⟩
def Fk(t:Tx)(r:Rd):Bool:=t.reads.any (fun q=>XE q r)
theorem Iv(t:Tx)(r:Rd):Fk t r=M↔r∈t.reads:=by
 unfold Fk;rw[sZ];exact⟨fun⟨q,hq,e⟩=>(G0 q r).1 e▸hq,fun h=>⟨r,h,(G0 r r).2 rfl⟩⟩
def Xj(t:Tx)(r:Rd):Int:=if VV t=0then(if Xq r=0then(if Fk t r=M then 0 else(if t.reads.length=20then 11 else 0))else Xq r)else VV t
def XT(t:Tx)(r:Rd):Tx:=if Xj t r=0then(if Fk t r=M then t else⟨t.start,t.reads++[r],t.writes⟩)else Fb
theorem SS{t:Tx}(h:GU t){r:Rd}(hr:Xq r=0):Xj t r=if Fk t r=M then 0 else(if t.reads.length=20then 11 else 0):=by
 rw[Xj,if_pos ((qK t).2 h),if_pos hr]
theorem bZ{t:Tx}(h:GU t){r:Rd}(hr:Xq r=0)(he:Xj t r=0):GU (XT t r):=by
 rw[XT,if_pos he];by_cases hh:Fk t r=M;·rw[if_pos hh];exact h
 ·rw[if_neg hh];rw[SS h hr,if_neg hh]at he;have hm:r∉t.reads:=fun e=>hh ((Iv t r).2 e);(have h20:t.reads.length≠20:=fun e=>by rw[if_pos e]at he;omega);refine⟨h.start,?_,h.writes,fun x hx=>?_,?_,h.wrs,h.apart⟩;(·have:=h.reads;simp;omega);(·rcases tZ.1 hx with hx|hx;(·exact h.each x hx);·simp only[tK,tQ,or_false]at hx;rw[hx];exact hr);·rw[pN];refine⟨h.once,by simp,fun a ha b hb e=>?_⟩;simp only[tK,tQ,or_false]at hb;subst hb;subst e;exact hm ha
def P9(l:List Zf)(w:Zf):Bool:=l.any (fun q=>ZM q w)
def zJ:List Zf->Zf->List Zf|[],w=>[w]|a::l,w=>if ZM a w=M then w::l else a::zJ l w
def Z5(t:Tx)(w:Zf):Int:=if VV t=0then(if QA w=0then(if P9 t.writes w=M then 0 else(if t.writes.length=10then 11 else 0))else QA w)else VV t
def Yc(t:Tx)(w:Zf):Tx:=if Z5 t w=0then⟨t.start,t.reads,zJ t.writes w⟩else Fb
theorem Db:∀(l:List Zf)(w:Zf),(zJ l w).length=if P9 l w=M then l.length else l.length+1|[],w=>rfl|a::l,w=>by rw[zJ,P9,pC];by_cases h:ZM a w=M;(·rw[if_pos h,h];rfl);·rw[if_neg h,sG,Db l w];(have hf:ZM a w=N:=by simpa using h);rw[hf,Bool.false_or];show _=if P9 l w=M then _ else _;by_cases h2:P9 l w=M;(·rw[if_pos h2,if_pos h2];rfl);·rw[if_neg h2,if_neg h2];rfl
theorem Ta:∀(l:List Zf)(w x:Zf),x∈zJ l w->x=w∨x∈l|[],w,x,h=>by simpa[zJ]using h|a::l,w,x,h=>by rw[zJ]at h;by_cases h1:ZM a w=M;(·rw[if_pos h1]at h;rcases tK.1 h with h|h;(·exact .inl h);·exact .inr (sK _ h));·rw[if_neg h1]at h;rcases tK.1 h with h|h;(·exact .inr (by rw[h];exact sX ..));·exact(Ta l w x h).elim .inl fun h=>.inr (sK _ h)
theorem Dd{a b c:Zf}(h:Ty a b)(k:Ty b c):Ty a c:=⟨h.1.trans k.1,h.2.trans k.2⟩
theorem FU:∀(l:List Zf)(w:Zf),EJ l->EJ (zJ l w)|[],w,_=>List.pairwise_singleton ..|a::l,w,h=>by have h':=rC.1 h;rw[zJ];by_cases h1:ZM a w=M;(·rw[if_pos h1];exact rC.2 ⟨fun x hx e=>h'.1 x hx (Dd ((qD a w).1 h1) e),h'.2⟩);·rw[if_neg h1];refine rC.2 ⟨fun x hx e=>?_,FU l w h'.2⟩;rcases Ta l w x hx with rfl|hx;(·exact h1 ((qD _ _).2 e));·exact h'.1 x hx e
theorem IJ{t:Tx}(h:GU t){w:Zf}(hw:QA w=0):Z5 t w=if P9 t.writes w=M then 0 else(if t.writes.length=10then 11 else 0):=by
 rw[Z5,if_pos ((qK t).2 h),if_pos hw]
theorem O4{t:Tx}(h:GU t){w:Zf}(hw:QA w=0)(he:Z5 t w=0):GU (Yc t w):=by
 rw[Yc,if_pos he];rw[IJ h hw]at he;refine⟨h.start,h.reads,?_,h.each,h.once,fun x hx=>?_,FU _ _ h.apart⟩;·show(zJ t.writes w).length<=10;rw[Db];have:=h.writes;by_cases hh:P9 t.writes w=M;(·rw[if_pos hh];exact this);·rw[if_neg hh]at he⊢;(have h10:t.writes.length≠10:=fun e=>by rw[if_pos e]at he;omega);omega
 ·rcases Ta _ _ _ hx with rfl|hx;(·exact hw);·exact h.wrs x hx
def eG(l:List Zf)(n k:List UInt8):Option Zf:=l.find? fun q=>tP (q.name=n)&&tP (q.key=k)
theorem It{l:List Zf}{n k:List UInt8}{w:Zf}(h:eG l n k=I w):w∈l∧w.name=n∧w.key=k:=by
 refine⟨List.mem_of_find?_eq_some h,?_⟩;have:=List.find?_some h;simpa using this
def gB(a b k:List UInt8):Bool:=!YH k a&&!YH b k
def KV(n a b:List UInt8)(l:PL)(w:Zf):PL:=if w.name=n∧gB a b w.key=M then(if w.gone=M then jM l w.key else J8 l (w.key,w.value))else l
def Ax(n a b:List UInt8):PL->List Zf->PL|l,[]=>l|l,w::ws=>Ax n a b (KV n a b l w) ws
def kA(n a b:List UInt8):PL->List Zf->Int|_,[]=>0|l,w::ws=>if 60<(KV n a b l w).length then 11 else kA n a b (KV n a b l w) ws
def XH(r:Rd)(w:Zf):Bool:=tP (r.name=w.name)&&(if r.wide=M then gB r.key r.last w.key else tP (r.key=w.key))
def dS(t:Tx)(ws:List Zf):Bool:=ws.any fun w=>t.reads.any fun r=>XH r w
def N0(t:Tx)(l:List XA):Bool:=l.any fun c=>tP (t.start<c.turn)&&dS t c.writes
def F1(t:Tx):Int:=VV t
def JS(t:Tx)(l:List XA):Bool:=if VV t=0then N0 t l else N
def zB(l:FL)(t:Tx):Int:=if Q8 l=0then VV t else Q8 l
def Kj(l:FL)(t:Tx)(n k:List UInt8):Int:=if zB l t=0then(if Qt n.length=0then Qo k.length else Qt n.length)else zB l t
def Uv(l:FL)(t:Tx)(n k:List UInt8):Bool:=if Kj l t n k=0then(eG t.writes n k).isSome else N
def K8(l:FL)(t:Tx)(n k:List UInt8):Bool:=if Kj l t n k=0then(match eG t.writes n k with|I w=>!w.gone|none=>Kl l n k)else N
def KW(l:FL)(t:Tx)(n k:List UInt8):List UInt8:=if Kj l t n k=0then(match eG t.writes n k with|I w=>w.value|none=>Km l n k)else[]
theorem Nh{l:FL}{t:Tx}(hl:ZQ l)(ht:GU t){n k:List UInt8}(hn:1<=n.length∧n.length<=8)(hk:1<=k.length∧k.length<=16):Kj l t n k=0:=by
 rw[Kj,zB,if_pos ((XJ l).2 hl),if_pos ((qK t).2 ht),if_pos ((Zn _).2 hn),(Zu _).2 hk]
def Ku(l:FL)(t:Tx)(n a b:List UInt8):Int:=if zB l t=0then(if Qt n.length=0then(if Qo a.length=0then(if Qo b.length=0then kA n a b (U8 (YU l n) a b) t.writes else Qo b.length)else Qo a.length)else Qt n.length)else zB l t
def VM(l:FL)(t:Tx)(n a b:List UInt8):PL:=if Ku l t n a b=0then Ax n a b (U8 (YU l n) a b) t.writes else[]
structure Rp where
  sess : Int
  code : Int
  turn : Int
  found : Bool
  value : List UInt8
  pairs : PL
  pf : Option (FL × List UInt8 × List UInt8)
def Va(s:Nat)(e:Int):Rp:=⟨(s:Int),e,0,N,[],[],G⟩
def Sz(s:Nat)(t:Int):Rp:=⟨(s:Int),0,t,N,[],[],G⟩
structure Sv where
  up : Bool
  tape : VS
  commits : List XA
  synced : Nat
  begun : Nat -> Bool
  waits : Nat -> Bool
  txns : Nat -> Tx
  queue : List Nat
  out : List Rp
def Ks{α:Type}(f:Nat->α)(i:Nat)(x:α):Nat->α:=fun j=>if j=i then x else f j
theorem Zm{α:Type}(f:Nat->α)(i:Nat)(x:α):Ks f i x i=x:=by
 simp[Ks]
theorem Q4{α:Type}(f:Nat->α){i j:Nat}(x:α)(h:j≠i):Ks f i x j=f j:=by
 simp[Ks,h]
def VU(up:Bool)(t:VS)(cs:List XA)(o:List Rp):Sv:=⟨up,t,cs,cs.length,fun _=>N,fun _=>N,fun _=>Fb,[],o⟩
def LX:Sv:=VU M VX [] []
def ZC(v:Sv)(r:Rp):Sv:={v with out:=v.out++[r]}
def Qz(v:Sv)(n:Nat):FL:=V8 [] (v.commits.take n)
def UT(v:Sv)(s:Nat)(x:Rd)(o:Rp):Sv:=if Xj (v.txns s) x=0then ZC {v with txns:=Ks v.txns s (XT (v.txns s) x)} o else ZC v (Va s (Xj (v.txns s) x))
def qJ(v:Sv)(s:Nat)(w:Zf):Sv:=ZC (if Z5 (v.txns s) w=0then{v with txns:=Ks v.txns s (Yc (v.txns s) w)}else v) (Va s (Z5 (v.txns s) w))
def Nj(v:Sv)(s:Nat)(r:Rq):Sv:=if Uv (Qz v (v.txns s).start.toNat) (v.txns s) r.name r.key=M then ZC v ⟨(s:Int),0,(v.txns s).start,K8 (Qz v (v.txns s).start.toNat) (v.txns s) r.name r.key,KW (Qz v (v.txns s).start.toNat) (v.txns s) r.name r.key,[],G⟩else UT v s (Zh r) ⟨(s:Int),0,(v.txns s).start,K8 (Qz v (v.txns s).start.toNat) (v.txns s) r.name r.key,KW (Qz v (v.txns s).start.toNat) (v.txns s) r.name r.key,[],G⟩
def PX(v:Sv)(s:Nat)(r:Rq):Sv:=if Ku (Qz v (v.txns s).start.toNat) (v.txns s) r.name r.key r.last=0then UT v s (Zh r) ⟨(s:Int),0,(v.txns s).start,N,[],VM (Qz v (v.txns s).start.toNat) (v.txns s) r.name r.key r.last,G⟩else ZC v (Va s (Ku (Qz v (v.txns s).start.toNat) (v.txns s) r.name r.key r.last))
def xH(v:Sv)(s:Nat)(r:Rq):Sv:=if r.kind=4∨r.kind=5then qJ v s (ZW r)else if r.kind=2then Nj v s r else PX v s r
def XZ(v:Sv)(s:Nat):XA:=⟨((v.commits.length+1:Nat):Int),(v.txns s).writes⟩
def XD(v:Sv)(s:Nat):Sv:={v with begun:=Ks v.begun s N}
def Y9(D:List UInt8->List UInt8)(v:Sv)(s:Nat):Sv:=if(v.txns s).writes.length=0then ZC (XD v s) (Sz s (v.txns s).start)else if v.queue.length=6∨v.commits.length=300then ZC v (Va s 11)else if JS (v.txns s) v.commits=M then ZC (XD v s) (Va s 9)else if QT (Qz v v.commits.length) (v.txns s).writes≠0then ZC (XD v s) (Va s (QT (Qz v v.commits.length) (v.txns s).writes))else if U4 D v.tape (XZ v s)≠0then ZC (XD v s) (Va s (U4 D v.tape (XZ v s)))else{XD v s with tape:=qX D v.tape (XZ v s),commits:=v.commits++[XZ v s],queue:=v.queue++[s],waits:=Ks v.waits s M}
def Dz(v:Sv)(s:Nat)(r:Rq):Sv:=ZC v ⟨(s:Int),0,(v.synced:Int),Kl (Qz v v.synced) r.name r.key,Km (Qz v v.synced) r.name r.key,[],I (Qz v v.synced,r.name,r.key)⟩
def QK(v:Sv)(s:Nat)(r:Rq):Bool:=v.waits s||(if r.kind=1then v.begun s else !v.begun s)
def JK(D:List UInt8->List UInt8)(v:Sv)(s:Nat)(r:Rq):Sv:=if r.kind=8then Dz v s r else if QK v s r=M then ZC v (Va s 6)else if r.kind=1then ZC {v with begun:=Ks v.begun s M,txns:=Ks v.txns s ⟨(v.synced:Int),[],[]⟩} (Sz s (v.synced:Int))else if r.kind=7then ZC (XD v s) (Va s 0)else if ZI (v.synced:Int) (v.txns s).start=N then ZC (XD v s) (Va s 10)else if r.kind=6then Y9 D v s else xH v s r
def Xo(D:List UInt8->List UInt8)(v:Sv)(s:Nat)(data:List UInt8):Sv:=if v.up=N then ZC v (Va s 13)else if QL data=0then JK D v s (Qu data)else ZC v (Va s (QL data))
def VH:Nat->List Nat->List Rp|_,[]=>[]|n,s::q=>Sz s ((n+1:Nat):Int)::VH (n+1) q
def U7(f:Nat->Bool)(q:List Nat):Nat->Bool:=fun j=>if j∈q then N else f j
def Vc(v:Sv):Sv:={v with tape:=Kk v.tape,synced:=v.synced+v.queue.length,waits:=U7 v.waits v.queue,queue:=[],out:=v.out++VH v.synced v.queue}
def UI(D:List UInt8->List UInt8)(v:Sv)(k:Int):Sv:=VU N (zK D (Xp v.tape k)) (xR D (Xp v.tape k)) v.out
def Y8(D:List UInt8->List UInt8)(v:Sv)(a:Ac):Sv:=if a.kind=1then Xo D v a.sess.toNat a.data else if a.kind=2then(if v.up=M then Vc v else v)else if a.kind=3then(if v.up=M then UI D v a.keep else v)else{v with up:=M}
def Xh(D:List UInt8->List UInt8)(l:List Ac):Sv:=l.foldl (Y8 D) LX
theorem Eg(D:List UInt8->List UInt8)(l:List Ac)(a:Ac):Xh D (l++[a])=Y8 D (Xh D l) a:=by
 simp[Xh]
theorem UX(D:List UInt8->List UInt8)(l k:List Ac):Xh D (l++k)=k.foldl (Y8 D) (Xh D l):=by
 simp[Xh]
def GM(l:List Ac):Int:=V2 l
structure Oc where
  up : Bool
  turn : Int
  pending : Int
  forest : FL
  replies : List Rp
def Pk(v:Sv):Oc:=⟨v.up,(v.synced:Int),(v.queue.length:Int),Qz v v.synced,v.out⟩
def Hm:Oc:=⟨N,0,0,[],[]⟩
def z8(D:List UInt8->List UInt8)(l:List Ac):Oc:=if GM l=0then Pk (Xh D l)else Hm
section
theorem Em:∀{cs:List XA}{f:FL}{i:Nat},uN f i cs->qE (i+1) cs|[],_,_,_=>trivial|_::_,_,_,h=>⟨by rw[h.2.1],h.1,Em h.2.2.2⟩
theorem EH:∀{cs:List XA}{f:FL}{i:Nat}{c:XA},uN f i cs->QZ c=0->c.turn=((i+cs.length+1:Nat):Int)->QT (V8 f cs) c.writes=0->uN f i (cs++[c])|[],_,_,_,_,h1,h2,h3=>⟨h1,by rw[h2];rfl,h3,trivial⟩|d::cs,f,i,c,h,h1,h2,h3=>⟨h.1,h.2.1,h.2.2.1,EH h.2.2.2 h1 (by rw[h2,sG];congr 1;omega) h3⟩
structure Zd (D : List UInt8 -> List UInt8) (v : Sv) : Prop where
  goes : uN [] 0 v.commits
  many : v.commits.length <= 300
  data : v.tape.data = QV D v.commits
  mark : v.tape.synced = ((QV D (v.commits.take v.synced)).length : Int)
  room : v.tape.data.length <= 200000
  turn : v.synced + v.queue.length = v.commits.length
  few : v.queue.length <= 6
  wait : ∀ s, v.waits s = M ↔ s ∈ v.queue
  once : v.queue.Nodup
  tx : ∀ s, v.begun s = M -> GU (v.txns s) ∧ (v.txns s).start <= (v.synced : Int)
  idle : ∀ s, v.waits s = M -> v.begun s = N
  down : v.up = N -> v.queue = [] ∧ ∀ s, v.begun s = N
variable{D:List UInt8->List UInt8}{v:Sv}
theorem Zd.tell(h:Zd D v)(r:Rp):Zd D (ZC v r):=⟨h.goes,h.many,h.data,h.mark,h.room,h.turn,h.few,h.wait,h.once,h.tx,h.idle,h.down⟩
theorem Eh{f:Nat->Bool}{s j:Nat}(h:Ks f s N j=M):j≠s∧f j=M:=by
 by_cases e:j=s;·rw[e,Zm]at h;cases h
 ·exact⟨e,by rwa[Q4 f _ e]at h⟩
theorem Zd.end(h:Zd D v)(s:Nat):Zd D (XD v s):=by
 refine⟨h.goes,h.many,h.data,h.mark,h.room,h.turn,h.few,h.wait,h.once,fun j hj=>h.tx j (Eh hj).2,fun j hj=>?_,fun hu=>⟨(h.down hu).1,fun j=>?_⟩⟩;·show Ks v.begun s N j=N;by_cases e:j=s;(·rw[e,Zm]);·rw[Q4 _ _ e];exact h.idle j hj
 ·show Ks v.begun s N j=N;by_cases e:j=s;(·rw[e,Zm]);·rw[Q4 _ _ e];exact(h.down hu).2 j
theorem Zd.txn(h:Zd D v){s:Nat}{t:Tx}(ht:GU t)(hs:t.start<=(v.synced:Int)):Zd D {v with txns:=Ks v.txns s t}:=by
 refine⟨h.goes,h.many,h.data,h.mark,h.room,h.turn,h.few,h.wait,h.once,fun j hj=>?_,h.idle,h.down⟩;show GU (Ks v.txns s t j)∧(Ks v.txns s t j).start<=_;by_cases e:j=s;·rw[e,Zm];exact⟨ht,hs⟩
 ·rw[Q4 _ _ e];exact h.tx j hj
theorem Zd.may(h:Zd D v):Gh v.tape=M:=by
 refine(Ky _).2 ⟨h.room,?_⟩;rw[h.mark,h.data];have:=UQ D v.commits v.synced v.commits.length (by have:=h.turn;omega);rw[sC]at this;omega
theorem j9{t:Tx}{r:Rd}(h:Xj t r=0):(XT t r).start=t.start:=by
 rw[XT,if_pos h];split<;>rfl
theorem DI{t:Tx}{w:Zf}(h:Z5 t w=0):(Yc t w).start=t.start:=by
 rw[Yc,if_pos h]
theorem Zd.note(h:Zd D v){s:Nat}(hb:v.begun s=M){x:Rd}(hx:Xq x=0)(o:Rp):Zd D (UT v s x o):=by
 obtain⟨h1,h2⟩:=h.tx s hb;unfold UT;by_cases e:Xj (v.txns s) x=0;·rw[if_pos e];exact(h.txn (bZ h1 hx e) (by rw[j9 e];exact h2)).tell _
 ·rw[if_neg e];exact h.tell _
theorem Zd.write(h:Zd D v){s:Nat}(hb:v.begun s=M){w:Zf}(hw:QA w=0):Zd D (qJ v s w):=by
 obtain⟨h1,h2⟩:=h.tx s hb;unfold qJ;by_cases e:Z5 (v.txns s) w=0;·rw[if_pos e];exact(h.txn (O4 h1 hw e) (by rw[DI e];exact h2)).tell _
 ·rw[if_neg e];exact h.tell _
theorem zC{r:Rq}(h:Yf r)(hk:r.kind=2∨r.kind=3):Xq (Zh r)=0:=Ot (by
 rw[(El h).1,if_pos hk])
theorem Es{r:Rq}(h:Yf r)(hk:r.kind=4∨r.kind=5):QA (ZW r)=0:=Ee (by
 rw[(El h).2,if_pos hk])
theorem Zd.work(h:Zd D v){s:Nat}(hb:v.begun s=M){r:Rq}(hr:Yf r)(hk:2<=r.kind∧r.kind<=5):Zd D (xH v s r):=by
 unfold xH;by_cases h1:r.kind=4∨r.kind=5;·rw[if_pos h1];exact h.write hb (Es hr h1)
 ·rw[if_neg h1];by_cases h2:r.kind=2;(·rw[if_pos h2];unfold Nj;split;(·exact h.tell _);·exact h.note hb (zC hr (.inl h2)) _);·rw[if_neg h2];unfold PX;split;(·exact h.note hb (zC hr (.inr (by omega))) _);·exact h.tell _
theorem PR{t:Tx}(ht:GU t)(hw:¬t.writes.length=0)(n:Nat)(hn:n<=300):QZ ⟨((n+1:Nat):Int),t.writes⟩=0:=(KR _).2 ⟨by
 show(1:Int)<=((n+1:Nat):Int)∧((n+1:Nat):Int)<=1048576;omega,⟨by
 show 1<=t.writes.length;omega,ht.writes⟩,ht.wrs⟩
theorem Cf(h:Zd D v){s:Nat}(hb:v.begun s=M)(h1:¬(v.txns s).writes.length=0)(h2:¬(v.queue.length=6∨v.commits.length=300))(h4:QT (Qz v v.commits.length) (v.txns s).writes=0)(h5:U4 D v.tape (XZ v s)=0):Zd D {XD v s with tape:=qX D v.tape (XZ v s),commits:=v.commits++[XZ v s],queue:=v.queue++[s],waits:=Ks v.waits s M}:=by
 obtain⟨ht,hst⟩:=h.tx s hb;have hm:=h.many;have hc:QZ (XZ v s)=0:=PR ht h1 _ hm;have hmay:=h.may;have hroom:v.tape.data.length+(ZA D (XZ v s)).length<=200000:=by rw[U4,if_pos hmay,if_pos hc]at h5;by_cases e:200000<v.tape.data.length+(ZA D (XZ v s)).length;(·rw[if_pos e]at h5;exact absurd h5 (by decide));·omega
 have hT:qX D v.tape (XZ v s)=⟨v.tape.data++ZA D (XZ v s),v.tape.synced⟩:=by rw[qX,if_pos h5]
 have hnw:v.waits s≠M:=fun e=>by have:=h.idle s e;rw[hb]at this;cases this
 have hnq:s∉v.queue:=fun e=>hnw ((h.wait s).2 e);have hup:v.up=M:=by cases hu:v.up with|true=>rfl|false=>have:=(h.down hu).2 s;rw[hb]at this;cases this
 have htn:=h.turn;rw[hT];refine⟨?_,?_,?_,?_,?_,?_,?_,?_,?_,?_,?_,?_⟩;·refine EH h.goes hc (by show((v.commits.length+1:Nat):Int)=_;congr 1;omega) ?_;rw[Qz,sC]at h4;exact h4
 ·show(v.commits++[XZ v s]).length<=300;rw[tB,sA];omega
 ·show v.tape.data++ZA D (XZ v s)=QV D (v.commits++[XZ v s]);rw[Vs,vX,h.data]
 ·show v.tape.synced=((QV D ((v.commits++[XZ v s]).take v.synced)).length:Int);rw[List.take_append_of_le_length (by omega)];exact h.mark
 ·show(v.tape.data++ZA D (XZ v s)).length<=200000;rw[tB];exact hroom
 ·show v.synced+(v.queue++[s]).length=(v.commits++[XZ v s]).length;rw[tB,tB,sA,sA];omega
 ·show(v.queue++[s]).length<=6;have:=h.few;rw[tB,sA];omega
 ·intro j;show Ks v.waits s M j=M↔j∈v.queue++[s];by_cases e:j=s;(·rw[e,Zm];simp);·rw[Q4 _ _ e,h.wait j];simp[e]
 ·show(v.queue++[s]).Nodup;rw[pN];exact⟨h.once,by simp,fun a ha b hb e=>hnq (by simp at hb;rw[<-hb,<-e];exact ha)⟩
 ·intro j hj;exact h.tx j (Eh hj).2
 ·intro j hj;show Ks v.begun s N j=N;by_cases e:j=s;(·rw[e,Zm]);·rw[Q4 _ _ e];exact h.idle j (by have:Ks v.waits s M j=M:=hj;rwa[Q4 _ _ e]at this)
 ·intro hu;have:v.up=N:=hu;rw[hup]at this;cases this
theorem Zd.commit(h:Zd D v){s:Nat}(hb:v.begun s=M):Zd D (Y9 D v s):=by
 unfold Y9;by_cases h1:(v.txns s).writes.length=0;·rw[if_pos h1];exact(h.end s).tell _
 ·rw[if_neg h1];by_cases h2:v.queue.length=6∨v.commits.length=300;(·rw[if_pos h2];exact h.tell _);·rw[if_neg h2];by_cases h3:JS (v.txns s) v.commits=M;(·rw[if_pos h3];exact(h.end s).tell _);·rw[if_neg h3];by_cases h4:QT (Qz v v.commits.length) (v.txns s).writes≠0;(·rw[if_pos h4];exact(h.end s).tell _);·rw[if_neg h4];by_cases h5:U4 D v.tape (XZ v s)≠0;(·rw[if_pos h5];exact(h.end s).tell _);·rw[if_neg h5];exact Cf h hb h1 h2 (sQ h4) (sQ h5)
theorem Zd.req(h:Zd D v)(hup:v.up=M)(s:Nat){r:Rq}(hr:Yf r):Zd D (JK D v s r):=by
 unfold JK;by_cases h1:r.kind=8;·rw[if_pos h1];exact h.tell _
 ·rw[if_neg h1];by_cases h2:QK v s r=M;(·rw[if_pos h2];exact h.tell _);·rw[if_neg h2];(have h2':v.waits s=N∧(if r.kind=1then v.begun s else !v.begun s)=N:=by unfold QK at h2;cases hw:v.waits s;(·rw[hw]at h2;exact⟨rfl,by simpa using h2⟩);·rw[hw]at h2;exact absurd rfl h2);by_cases h3:r.kind=1;(·rw[if_pos h3];refine Zd.tell ?_ _;have hm:=h.many;have htn:=h.turn;refine⟨h.goes,h.many,h.data,h.mark,h.room,h.turn,h.few,h.wait,h.once,fun j hj=>?_,fun j hj=>?_,fun hu=>?_⟩;(·show GU (Ks v.txns s _ j)∧(Ks v.txns s _ j).start<=_;by_cases e:j=s;(·rw[e,Zm];exact⟨⟨by show(0:Int)<=(v.synced:Int)∧(v.synced:Int)<=1048576;omega,by simp,by simp,by simp,by simp,by simp,by simp[EJ]⟩,Int.le_refl _⟩);·rw[Q4 _ _ e];exact h.tx j (by have:Ks v.begun s M j=M:=hj;rwa[Q4 _ _ e]at this));(·show Ks v.begun s M j=N;have hj':v.waits j=M:=hj;by_cases e:j=s;(·rw[e,h2'.1]at hj';cases hj');·rw[Q4 _ _ e];exact h.idle j hj');·have:v.up=N:=hu;rw[hup]at this;cases this);·rw[if_neg h3];(have hb:v.begun s=M:=by have:=h2'.2;rw[if_neg h3]at this;simpa using this);by_cases h4:r.kind=7;(·rw[if_pos h4];exact(h.end s).tell _);·rw[if_neg h4];by_cases h5:ZI (v.synced:Int) (v.txns s).start=N;(·rw[if_pos h5];exact(h.end s).tell _);·rw[if_neg h5];by_cases h6:r.kind=6;(·rw[if_pos h6];exact h.commit hb);·rw[if_neg h6];have hk:=hr.kind;exact h.work hb hr (by omega)
theorem Zd.ask(h:Zd D v)(s:Nat)(d:List UInt8):Zd D (Xo D v s d):=by
 unfold Xo;by_cases h1:v.up=N;·rw[if_pos h1];exact h.tell _
 ·rw[if_neg h1];by_cases h2:QL d=0;(·rw[if_pos h2];exact h.req (by simpa using h1) s ((Yd _).1 (YK h2).1));·rw[if_neg h2];exact h.tell _
theorem Zd.sync(h:Zd D v):Zd D (Vc v):=by
 have hm:=h.may;have htn:=h.turn;refine⟨h.goes,h.many,?_,?_,?_,?_,by simp[Vc],?_,by simp[Vc],?_,?_,?_⟩;·show(Kk v.tape).data=_;rw[Kk,if_pos hm];exact h.data
 ·show(Kk v.tape).synced=((QV D (v.commits.take (v.synced+v.queue.length))).length:Int);rw[Kk,if_pos hm,htn,sC,<-h.data]
 ·show(Kk v.tape).data.length<=_;rw[Kk,if_pos hm];exact h.room
 ·show v.synced+v.queue.length+([]:List Nat).length=v.commits.length;simpa using htn
 ·intro j;show U7 v.waits v.queue j=M↔j∈([]:List Nat);rw[U7];constructor;(·intro e;split at e;(·cases e);·rename_i hq;exact absurd ((h.wait j).1 e) hq);·intro e;simp at e
 ·intro j hj;obtain⟨h1,h2⟩:=h.tx j hj;exact⟨h1,by show _<=((v.synced+v.queue.length:Nat):Int);have:(v.txns j).start<=(v.synced:Int):=h2;show(v.txns j).start<=_;omega⟩
 ·intro j hj;have:U7 v.waits v.queue j=M:=hj;rw[U7]at this;split at this;(·cases this);·exact h.idle j this
 ·intro hu;exact⟨rfl,(h.down hu).2⟩
theorem SQ{up:Bool}{t:VS}{cs:List XA}{o:List Rp}(hg:uN [] 0 cs)(hm:cs.length<=300)(hd:t=⟨QV D cs,((QV D cs).length:Int)⟩)(hr:(QV D cs).length<=200000):Zd D (VU up t cs o):=by
 subst hd;refine⟨hg,hm,rfl,?_,hr,rfl,by simp[VU],fun s=>by simp[VU],by simp[VU],fun s hs=>by simp[VU]at hs,fun s hs=>by simp[VU]at hs,fun _=>⟨rfl,fun _=>rfl⟩⟩;show((QV D cs).length:Int)=((QV D (cs.take cs.length)).length:Int);rw[sC]
theorem Bg(D:List UInt8->List UInt8):Zd D LX:=SQ trivial (by
 simp) rfl (by
 simp[QV])
theorem GZ(hD:∀x,(D x).length=4)(h:Zd D v){k:Int}(hk:0<=k):∃j,v.synced<=j∧j<=v.commits.length∧UI D v k=VU N ⟨QV D (v.commits.take j),((QV D (v.commits.take j)).length:Int)⟩ (v.commits.take j) v.out∧(k=0->j=v.synced):=by
 have hm:=h.may;obtain⟨m1,m2,m3⟩:=(Ky _).1 hm;have hit:qE 1 v.commits:=Em h.goes;have htn:=h.turn;have hce:Un v.tape k=0:=by rw[Un,if_pos hm,if_neg (by omega)]
 have hcn:Xt v.tape k<=v.tape.data.length∧v.tape.synced<=(Xt v.tape k:Int):=by rw[Xt];split<;>omega
 have hcT:Xp v.tape k=⟨(QV D v.commits).take (Xt v.tape k),(Xt v.tape k:Int)⟩:=by rw[Xp,if_pos hce,h.data]
 have hrl:(QV D v.commits).length<=200000:=by rw[<-h.data];exact h.room
 obtain⟨j,h1,h2,h3,_,h5,h6⟩:=IR hD hit (Xt v.tape k) (Xt v.tape k:Int) (by rw[<-h.data];exact hcn.1) (by omega) hrl;have hsj:v.synced<=j:=by refine T6 (D:=D) (cs:=v.commits) (k:=Xt v.tape k) (by omega) h3 ?_;have:=h.mark;omega
 have e:(if(Xt v.tape k:Int)>((QV D (v.commits.take j)).length:Int)then((QV D (v.commits.take j)).length:Int)else(Xt v.tape k:Int))=((QV D (v.commits.take j)).length:Int):=by split<;>omega
 refine⟨j,hsj,h1,?_,?_⟩;·rw[UI,hcT,h5,h6,e]
 ·intro hk0;by_cases hj:j=v.synced;(·exact hj);·exfalso;(have hn:(Xt v.tape k:Int)=v.tape.synced:=by rw[Xt,hk0];split<;>omega);have g1:=UQ D v.commits (v.synced+1) j (by omega);have g2:=CU D v.commits v.synced (by omega);have hc:=(h.goes.at v.synced (by omega)).1;have g3:=(xS hD hc).1;have hmk:=h.mark;rw[g2,tB]at g1;omega
theorem Zd.crash(hD:∀x,(D x).length=4)(h:Zd D v){k:Int}(hk:0<=k):Zd D (UI D v k):=by
 obtain⟨j,h1,h2,h3,_⟩:=GZ hD h hk;have hm:=h.many;have hle:=UQ D v.commits j v.commits.length h2;rw[sC,<-h.data]at hle;have hr:=h.room;rw[h3];exact SQ (h.goes.take j) (by rw[rW];omega) rfl (by omega)
theorem Zd.start(h:Zd D v):Zd D {v with up:=M}:=⟨h.goes,h.many,h.data,h.mark,h.room,h.turn,h.few,h.wait,h.once,h.tx,h.idle,fun hu=>by
 cases hu⟩
theorem Zd.act(hD:∀x,(D x).length=4)(h:Zd D v){a:Ac}(ha:YP a):Zd D (Y8 D v a):=by
 unfold Y8;by_cases h1:a.kind=1;·rw[if_pos h1];exact h.ask _ _
 ·rw[if_neg h1];by_cases h2:a.kind=2;(·rw[if_pos h2];split;(·exact h.sync);·exact h);·rw[if_neg h2];by_cases h3:a.kind=3;(·rw[if_pos h3];split;(·exact h.crash hD (ha.keep h3).1);·exact h);·rw[if_neg h3];exact h.start
theorem vM(hD:∀x,(D x).length=4):∀(l:List Ac)(v:Sv),Zd D v->(∀a∈l,YP a)->Zd D (l.foldl (Y8 D) v)|[],_,h,_=>h|a::l,v,h,ha=>vM hD l _ (h.act hD (ha a (by simp))) (fun x hx=>ha x (by simp[hx]))
theorem Gu(hD:∀x,(D x).length=4)(l:List Ac)(h:∀a∈l,YP a):Zd D (Xh D l):=vM hD l LX (Bg D) h
end
structure Same (v u : Sv) : Prop where
  up : u.up = v.up
  tape : u.tape = v.tape
  commits : u.commits = v.commits
  synced : u.synced = v.synced
  waits : u.waits = v.waits
  queue : u.queue = v.queue
structure cP (s : Nat) (v u : Sv) : Prop extends Same v u where
  out : ∃ r, u.out = v.out ++ [r] ∧ r.sess = (s : Int)
  begun : ∀ j, j ≠ s -> u.begun j = v.begun j
  txns : ∀ j, j ≠ s -> u.txns j = v.txns j
theorem Ud(v:Sv)(s:Nat)(r:Rp)(h:r.sess=(s:Int)):cP s v (ZC v r):=⟨⟨rfl,rfl,rfl,rfl,rfl,rfl⟩,⟨r,rfl,h⟩,fun _ _=>rfl,fun _ _=>rfl⟩
theorem yA(v:Sv)(s:Nat)(r:Rp)(h:r.sess=(s:Int)):cP s v (ZC (XD v s) r):=⟨⟨rfl,rfl,rfl,rfl,rfl,rfl⟩,⟨r,rfl,h⟩,fun _ hj=>Q4 _ _ hj,fun _ _=>rfl⟩
theorem Sy(v:Sv)(s:Nat)(t:Tx)(r:Rp)(h:r.sess=(s:Int)):cP s v (ZC {v with txns:=Ks v.txns s t} r):=⟨⟨rfl,rfl,rfl,rfl,rfl,rfl⟩,⟨r,rfl,h⟩,fun _ _=>rfl,fun _ hj=>Q4 _ _ hj⟩
theorem MZ(v:Sv)(s:Nat)(x:Rd)(o:Rp)(h:o.sess=(s:Int)):cP s v (UT v s x o):=by
 unfold UT;split;·exact Sy v s _ _ h
 ·exact Ud v s _ rfl
theorem Hf(v:Sv)(s:Nat)(w:Zf):cP s v (qJ v s w):=by
 unfold qJ;split;·exact Sy v s _ _ rfl
 ·exact Ud v s _ rfl
theorem Ig(v:Sv)(s:Nat)(r:Rq):cP s v (xH v s r):=by
 unfold xH;split;·exact Hf v s _
 ·split;(·unfold Nj;split;(·exact Ud v s _ rfl);·exact MZ v s _ _ rfl);·unfold PX;split;(·exact MZ v s _ _ rfl);·exact Ud v s _ rfl
structure IE (D : List UInt8 -> List UInt8) (s : Nat) (v u : Sv) : Prop where
  up : u.up = v.up
  tape : u.tape = qX D v.tape (XZ v s)
  commits : u.commits = v.commits ++ [XZ v s]
  synced : u.synced = v.synced
  waits : u.waits = Ks v.waits s M
  queue : u.queue = v.queue ++ [s]
  out : u.out = v.out
  begun : u.begun = Ks v.begun s N
  txns : u.txns = v.txns
  full : (v.txns s).writes.length ≠ 0
  room : v.queue.length ≠ 6 ∧ v.commits.length ≠ 300
  clash : JS (v.txns s) v.commits = N
  fits : QT (Qz v v.commits.length) (v.txns s).writes = 0
  app : U4 D v.tape (XZ v s) = 0
theorem Wt(D:List UInt8->List UInt8)(v:Sv)(s:Nat):cP s v (Y9 D v s)∨IE D s v (Y9 D v s):=by
 unfold Y9;by_cases h1:(v.txns s).writes.length=0;·rw[if_pos h1];exact .inl (yA v s _ rfl)
 ·rw[if_neg h1];by_cases h2:v.queue.length=6∨v.commits.length=300;(·rw[if_pos h2];exact .inl (Ud v s _ rfl));·rw[if_neg h2];by_cases h3:JS (v.txns s) v.commits=M;(·rw[if_pos h3];exact .inl (yA v s _ rfl));·rw[if_neg h3];by_cases h4:QT (Qz v v.commits.length) (v.txns s).writes≠0;(·rw[if_pos h4];exact .inl (yA v s _ rfl));·rw[if_neg h4];by_cases h5:U4 D v.tape (XZ v s)≠0;(·rw[if_pos h5];exact .inl (yA v s _ rfl));·rw[if_neg h5];exact .inr ⟨rfl,rfl,rfl,rfl,rfl,rfl,rfl,rfl,rfl,h1,⟨fun e=>h2 (.inl e),fun e=>h2 (.inr e)⟩,by simpa using h3,sQ h4,sQ h5⟩
theorem eI(D:List UInt8->List UInt8)(v:Sv)(s:Nat)(r:Rq):cP s v (JK D v s r)∨(r.kind=6∧QK v s r=N∧IE D s v (JK D v s r)):=by
 unfold JK;by_cases h1:r.kind=8;·rw[if_pos h1];exact .inl (Ud v s _ rfl)
 ·rw[if_neg h1];by_cases h2:QK v s r=M;(·rw[if_pos h2];exact .inl (Ud v s _ rfl));·rw[if_neg h2];by_cases h3:r.kind=1;(·rw[if_pos h3];exact .inl ⟨⟨rfl,rfl,rfl,rfl,rfl,rfl⟩,⟨_,rfl,rfl⟩,fun _ hj=>Q4 _ _ hj,fun _ hj=>Q4 _ _ hj⟩);·rw[if_neg h3];by_cases h4:r.kind=7;(·rw[if_pos h4];exact .inl (yA v s _ rfl));·rw[if_neg h4];by_cases h5:ZI (v.synced:Int) (v.txns s).start=N;(·rw[if_pos h5];exact .inl (yA v s _ rfl));·rw[if_neg h5];by_cases h6:r.kind=6;(·rw[if_pos h6];rcases Wt D v s with h|h;(·exact .inl h);·exact .inr ⟨h6,by simpa using h2,h⟩);·rw[if_neg h6];exact .inl (Ig v s r)
theorem eD(D:List UInt8->List UInt8)(v:Sv)(s:Nat)(d:List UInt8):cP s v (Xo D v s d)∨(v.up=M∧QL d=0∧(Qu d).kind=6∧v.waits s=N∧v.begun s=M∧IE D s v (Xo D v s d)):=by
 unfold Xo;by_cases h1:v.up=N;·rw[if_pos h1];exact .inl (Ud v s _ rfl)
 ·rw[if_neg h1];by_cases h2:QL d=0;(·rw[if_pos h2];rcases eI D v s (Qu d)with h|⟨h3,h4,h5⟩;(·exact .inl h);·right;unfold QK at h4;rw[if_neg (by omega)]at h4;simp only[rM,Bool.not_eq_false']at h4;exact⟨by simpa using h1,h2,h3,h4.1,h4.2,h5⟩);·rw[if_neg h2];exact .inl (Ud v s _ rfl)
theorem Ps:∀(q:List Nat)(n:Nat),(VH n q).length=q.length|[],_=>rfl|_::q,n=>by rw[VH,sG,sG,Ps q]
def V4(n:Int)(many:Nat):Nat:=if n<0then((-(n+1))%(many:Int)).toNat else(n%(many:Int)).toNat
theorem I6(n:Int){many:Nat}(h:0<many):V4 n many<many:=by
 unfold V4;split;·have b0:=pZ (-(n+1)) (show(many:Int)≠0 by omega);have b1:=pO (-(n+1)) (show(0:Int)<many by omega);omega
 ·have b0:=pZ n (show(many:Int)≠0 by omega);have b1:=pO n (show(0:Int)<many by omega);omega
theorem dD{r:Rq}(h:Yf r):xD r=JH r:=by
 rw[xD,if_pos ((Yd r).2 h)]
structure VF (l : FL) : Prop where
  many : l.length * 48 <= 140737488355328
  each : ∀ i, i < l.length -> (l.getD i ([], [])).1.length <= 140737488355328 ∧ kI (l.getD i ([], [])).2
theorem VF.len{l:FL}(h:VF l):l.length<=140737488355328:=by
 have:=h.many;omega
theorem ZQ.fits{l:FL}(h:ZQ l):VF l:=by
 refine⟨by have:=h.room;omega,fun i hi=>?_⟩;have:=h.tens l[i] (sN hi);rw[show l[i]=l.getD i ([],[])by simp[hi]]at this;exact⟨by omega,this.2.2.fits⟩
def M5(w:F)(b o:Nat)(t:Tn):Prop:=∃vn vp,w.cell? ⟨b,o,G⟩=I vn∧w.cell? ⟨b,o+1,G⟩=I vp∧Qe w vn t.1∧Qq w vp t.2
theorem M5.grown{w w':F}{b o:Nat}{t:Tn}(h:M5 w b o t)(hg:L w w' G):M5 w' b o t:=by
 obtain⟨vn,vp,c1,c2,h1,h2⟩:=h;exact⟨vn,vp,hg.cell c1 (by simp),hg.cell c2 (by simp),h1.grown hg,h2.grown hg⟩
def Zx(w:F)(v:H)(l:FL):Prop:=∃a cap,v=J a l.length cap∧l.length<=cap∧((l=[]∧(a=G->cap=0))∨∃b o,a=I ⟨b,o,G⟩∧∀i,i<l.length->M5 w b (o+i*2) (l.getD i ([],[])))
theorem G4(w:F):Zx w (J G 0 0) []:=⟨G,0,rfl,tY _,.inl ⟨rfl,fun _=>rfl⟩⟩
theorem Zx.grown{w w':F}{v:H}{l:FL}(h:Zx w v l)(hg:L w w' G):Zx w' v l:=by
 obtain⟨a,cap,rfl,hc,h⟩:=h;refine⟨a,cap,rfl,hc,?_⟩;rcases h with h|⟨b,o,rfl,h⟩;·exact .inl h
 ·exact .inr ⟨b,o,rfl,fun i hi=>(h i hi).grown hg⟩
theorem Zx.shape{w:F}{v:H}{l:FL}(h:Zx w v l):∃a cap,v=J a l.length cap:=by
 obtain⟨a,cap,rfl,_⟩:=h;exact⟨a,cap,rfl⟩
theorem Zx.at{w:F}{a:Option sY}{n cap:Nat}{l:FL}(h:Zx w (J a n cap) l)(i:Nat)(hi:i<l.length):∃b o,a=I ⟨b,o,G⟩∧M5 w b (o+i*2) (l.getD i ([],[])):=by
 obtain⟨a',cap',e,hc,h⟩:=h;simp only[tH]at e;obtain⟨rfl,rfl,rfl⟩:=e;rcases h with⟨rfl,_⟩|⟨b,o,rfl,h⟩;·simp at hi
 ·exact⟨b,o,rfl,h i hi⟩
theorem dL:(64:Nat)≠5:=by
 decide
theorem dH:(64:Nat)≠44:=by
 decide
def Zy(base:Nat)(w:F)(v:H)(l:FL):Prop:=∃vs:List (H×H),vs.length=l.length∧w.ownsRow base 64 2 v l.length (flat vs)∧∀i,i<l.length->Qi 0 w (vs.getD i (sI,sI)).1 (l.getD i ([],[])).1∧QN 0 w (vs.getD i (sI,sI)).2 (l.getD i ([],[])).2
theorem xP(base:Nat)(w:F):Zy base w (J G 0 0) []:=⟨[],rfl,sL _ _ _ _,fun i hi=>by
 simp at hi⟩
theorem Zy.row{base:Nat}{w:F}{v:H}{l:FL}(h:Zy base w v l):v.ownBlock=G∨∃g cur t fz,v.ownBlock=I g∧base<=g∧w.heap[g]?=I (S cur t fz)∧t≠5∧t≠44:=by
 obtain⟨vs,_,h,_⟩:=h;rcases h.2with⟨rfl,_⟩|⟨g,cap,cur,rfl,hb,hg,_⟩;·exact .inl rfl
 ·exact .inr ⟨g,cur,_,_,rfl,hb,hg,dL,dH⟩
theorem Zy.row0{base:Nat}{w:F}{v:H}{l:FL}(h:Zy base w v l):v.ownBlock=G∨∃g cur t fz,v.ownBlock=I g∧0<=g∧w.heap[g]?=I (S cur t fz)∧t≠5∧t≠44:=by
 rcases h.row with h|⟨g,cur,t,fz,h1,_,h3⟩;·exact .inl h
 ·exact .inr ⟨g,cur,t,fz,h1,tR _,h3⟩
theorem fL{base:Nat}{w:F}{r:Option Nat}(h:r=G∨∃g cur t fz,r=I g∧base<=g∧w.heap[g]?=I (S cur t fz)∧t≠5∧t≠44):r=G∨∃g cur t fz,r=I g∧base<=g∧w.heap[g]?=I (S cur t fz)∧t≠5:=by
 rcases h with h|⟨g,cur,t,fz,h1,h2,h3,h4,_⟩;·exact .inl h
 ·exact .inr ⟨g,cur,t,fz,h1,h2,h3,h4⟩
theorem Zy.lt{base:Nat}{w:F}{v:H}{l:FL}(h:Zy base w v l):∀k,v.ownBlock=I k->base<=k∧k<w.heap.size:=by
 obtain⟨vs,_,h,_⟩:=h;exact sF h
theorem Zy.grownNone{base:Nat}{w w':F}{v:H}{l:FL}(h:Zy base w v l)(hg:L w w' G):Zy base w' v l:=by
 obtain⟨vs,h1,h2,h3⟩:=h;refine⟨vs,h1,tU h2 hg ?_,fun i hi=>⟨((h3 i hi).1).keptT hg (.inl rfl),((h3 i hi).2).kept hg (.inl rfl)⟩⟩;cases hv:v.ownBlock with|none=>exact .inl rfl|some k=>exact .inr (by simp)
theorem Zy.alloc{base:Nat}{w:F}{v:H}{l:FL}(h:Zy base w v l)(o:Obj):Zy base (w.alloc o) v l:=h.grownNone (sW _ _ _)
theorem Zy.shape{base:Nat}{w:F}{v:H}{l:FL}(h:Zy base w v l):∃a cap,v=J a l.length cap:=by
 obtain⟨vs,_,h,_⟩:=h;rcases h.2with⟨rfl,h0⟩|⟨g,cap,cur,rfl,_⟩;·exact⟨G,0,by rw[h0]⟩
 ·exact⟨_,cap,rfl⟩
theorem Zy.cells{base:Nat}{w:F}{g n cap:Nat}{vs:List (H×H)}{l:FL}(hr:w.ownsRow base 64 2 (J (I ⟨g,0,G⟩) n cap) l.length (flat vs)):∀j u,(flat vs)[j]?=I u->w.cell? ⟨g,j,G⟩=I u:=by
 intro j u hj;rcases hr.2with⟨e,_⟩|⟨g',cap',cur,e,hb,hg,hn,hm,hs,ht⟩;·cases e
 ·simp only[tH,tA,rF]at e;obtain⟨⟨rfl,_⟩,_,_⟩:=e;(have hlt:j<l.length*2:=by have:=(sH.1 hj).1;rw[hr.1]at this;exact this);(have e2:(cur.toList.take (l.length*2))[j]?=(flat vs)[j]?:=by rw[ht]);rw[sB,if_pos hlt,hj]at e2;simp[tS,hg];simpa using e2
theorem Zy.list{base:Nat}{w:F}{v:H}{l:FL}(h:Zy base w v l):Zx w v l:=by
 obtain⟨vs,hl,hr,h3⟩:=h;have hr':=hr;rcases hr.2with⟨rfl,h0⟩|⟨g,cap,cur,rfl,hb,hg,hn,hm,hs,ht⟩;·have:l=[]:=tJ h0;subst this;exact G4 w
 ·refine⟨_,cap,rfl,hn,.inr ⟨g,0,rfl,fun i hi=>?_⟩⟩;have hf:=zY vs i (by omega);refine⟨(vs.getD i (sI,sI)).1,(vs.getD i (sI,sI)).2,?_,?_,(h3 i hi).1.1,(h3 i hi).2.list⟩;(·have:=Zy.cells hr' _ _ hf.1;rw[sM];exact this);·have:=Zy.cells hr' _ _ hf.2;rw[sM];exact this
theorem Tf{base:Nat}{w W w1:F}{v:H}{l:FL}(h:L w W G)(ho:Zy base W v l)(hb:w.heap.size<=base)(hg:L W w1 v.ownBlock):L w w1 G:=⟨hg.os.trans h.os,hg.tape.trans h.tape,hg.output.trans h.output,tN h.size hg.size,fun i hi hn=>(hg.block i (tG hi h.size) (fun e=>by
 have:=(ho.lt i e.symm).1;omega)).trans (h.block i hi hn)⟩
theorem Fu:(O.info? 64).map (fun i=>(i.zero,i.size,i.bytes))=I (I (sP #[J G 0 0,J G 0 0]),2,48):=by
 kernel_rfl
theorem jD{w:F}{o:rK}{a:Act}{K:Act->F->Prop}{Q:Exit->Act->F->Prop}(s x:rG)(ho:o.op=.call {callee:=.builtin .append,args:=#[s,x],argTypes:=#[31,31]})(base:Nat)(v:H)(l:FL)(hs:a.eval s=v)(hown:Zy base w v l)(vn vp:H)(t:Tn)(hk:Qi 0 w vn t.1)(hv:QN 0 w vp t.2)(nb:Nat)(hb:w.heap[nb]?=I (S #[vn,vp] 64))(hx:a.eval x=J (I ⟨nb,0,G⟩) 1 1)(hl:(l.length+1)*48<=140737488355328)(hbase:base<=w.heap.size)(h:∀v' w',Zy base w' v' (l++[t])->L w w' v.ownBlock->K (a.put o.dst v') w'):o.wp O a w K Q:=by
 obtain⟨i0,hi,hz0,hz1,hz2⟩:=r7 Fu;have hrow:=hown.row0;obtain⟨vs,hvl,hr,hp⟩:=hown;refine wp_append_lies w s x 31 ho base 64 i0 (sP #[J G 0 0,J G 0 0]) 2 48 Tryz.underlying31 hi hz0 hz1 hz2 rfl (by decide) v l.length (flat vs) hs hr ⟨nb,0,G⟩ 1 1 (flat [(vn,vp)]) hx rfl (rA (cs:=#[vn,vp]) hb) ?_ (by omega) (by unfold r8;omega) hl hbase _ rfl ?_;·intro u hu;simp only[flat,tM,rI,rN,tK,tQ,or_false]at hu;rcases hu with rfl|rfl;(·exact ZH hk);·exact xL hv
 ·intro g cap w' h1 h2 _ _;refine h _ w' ⟨vs++[(vn,vp)],by simp[hvl],?_,?_⟩ h2;(·rw[JT,tB];exact h1);·intro i hi;rw[Ji,Ji,hvl];by_cases hil:i<l.length;(·rw[if_pos hil,if_pos hil];exact⟨(hp i hil).1.keptT h2 (fL hrow),(hp i hil).2.kept h2 hrow⟩);·rw[if_neg hil,if_neg hil];(obtain rfl:i=l.length:=by simp at hi;omega);rw[oD];exact⟨hk.keptT h2 (fL hrow),hv.kept h2 hrow⟩
theorem Fm{w:F}{ops:Array rK}{o:rK}{a:Act}{K:Act->F->Prop}{Q:Exit->Act->F->Prop}{E:Prop}(hgd:o.guard=G)(s x:rG)(ho:o.op=.call {callee:=.builtin .append,args:=#[s,x],argTypes:=#[31,31]})(base:Nat)(v:H)(l:FL)(hs:a.eval s=v)(hown:Zy base w v l)(vn vp:H)(t:Tn)(hk:Qi 0 w vn t.1)(hv:QN 0 w vp t.2)(nb:Nat)(hb:w.heap[nb]?=I (S #[vn,vp] 64))(hx:a.eval x=J (I ⟨nb,0,G⟩) 1 1)(hl:(l.length+1)*48<=140737488355328)(hbase:base<=w.heap.size)(h:∀v' w',Zy base w' v' (l++[t])->L w w' v.ownBlock->K (a.put o.dst v') w'):if sD o (pA ops a.tmps)=M then Oper.wp O o a w K Q else E:=by
 have hw:sD o (pA ops a.tmps)=M:=by simp[sD,hgd]
 rw[if_pos hw];exact jD s x ho base v l hs hown vn vp t hk hv nb hb hx hl hbase h
theorem kU{w:F}{ops:Array rK}{rest:List rK}{o:rK}{a:Act}{Q:Exit->Act->F->Prop}(hgd:o.guard=G)(s x:rG)(ho:o.op=.call {callee:=.builtin .append,args:=#[s,x],argTypes:=#[31,31]})(base:Nat)(v:H)(l:FL)(hs:a.eval s=v)(hown:Zy base w v l)(vn vp:H)(t:Tn)(hk:Qi 0 w vn t.1)(hv:QN 0 w vp t.2)(nb:Nat)(hb:w.heap[nb]?=I (S #[vn,vp] 64))(hx:a.eval x=J (I ⟨nb,0,G⟩) 1 1)(hl:(l.length+1)*48<=140737488355328)(hbase:base<=w.heap.size)(h:∀v' w',Zy base w' v' (l++[t])->L w w' v.ownBlock->wpList O ops Q rest (a.put o.dst v') w'):wpList O ops Q (o::rest) a w:=wpList_plain hgd fun _ hK=>jD s x ho base v l hs hown vn vp t hk hv nb hb hx hl hbase fun v' w' h1 h2=>hK _ _ (h v' w' h1 h2)
theorem Ql{w:F}{b i:Nat}{cs:Array H}{t:tX}{fz:Nat×Nat}{u:H}(h:w.heap[b]?=I (S cs t fz)):(tE w ⟨b,i,G⟩ u).heap[b]?=I (S (cs.setIfInBounds i u) t fz):=by
 simp only[tE,tV,if_true,h,rJ];rfl
theorem QE{w:F}{b c i:Nat}{o:Obj}{u:H}(h:w.heap[b]?=I o)(hne:b≠c):(tE w ⟨c,i,G⟩ u).heap[b]?=I o:=by
 simp only[tE,tV];rw[if_neg (fun e=>hne e.symm)];exact h
theorem YJ(w:F)(b i:Nat)(u:H):L w (tE w ⟨b,i,G⟩ u) (I b):=Qg (Qb w _) i u
theorem Qi.setOther{base:Nat}{w:F}{v:H}{bs:List UInt8}(h:Qi base w v bs){b i:Nat}{cs:Array H}{t:tX}{fz:Nat×Nat}(hb:w.heap[b]?=I (S cs t fz))(ht:t≠5)(hbb:base<=b)(u:H):Qi base (tE w ⟨b,i,G⟩ u) v bs:=h.keptT (YJ w b i u) (.inr ⟨b,cs,t,fz,rfl,hbb,hb,ht⟩)
def Q6(rb pb:Nat)(w:F)(v:H)(l:List Zf):Prop:=∃us:List WV,us.map (·.1)=l∧w.ownsRow rb 178 4 v l.length (Y5 us)∧∀x∈us,Qi pb w x.2.1 x.1.name∧Qi pb w x.2.2.1 x.1.key∧Qi pb w x.2.2.2 x.1.value
theorem Xu(rb pb:Nat)(w:F):Q6 rb pb w (J G 0 0) []:=⟨[],rfl,sL _ _ _ _,fun x hx=>by
 simp at hx⟩
theorem Q6.row{rb pb:Nat}{w:F}{v:H}{l:List Zf}(h:Q6 rb pb w v l):v.ownBlock=G∨∃g cur fz,v.ownBlock=I g∧rb<=g∧w.heap[g]?=I (S cur 178 fz):=by
 obtain⟨us,_,h,_⟩:=h;rcases h.2with⟨rfl,_⟩|⟨g,cap,cur,rfl,hb,hg,_⟩;·exact .inl rfl
 ·exact .inr ⟨g,cur,_,rfl,hb,hg⟩
theorem Q6.lt{rb pb:Nat}{w:F}{v:H}{l:List Zf}(h:Q6 rb pb w v l):∀k,v.ownBlock=I k->rb<=k∧k<w.heap.size:=by
 obtain⟨us,_,h,_⟩:=h;exact sF h
theorem Q6.ne{rb pb:Nat}{w:F}{v:H}{l:List Zf}(h:Q6 rb pb w v l){b:Nat}{cs:Array H}{t:tX}{fz:Nat×Nat}(hb:w.heap[b]?=I (S cs t fz))(ht:t≠178):v.ownBlock≠I b:=by
 intro e;rcases h.row with h0|⟨g,cur,fz2,h1,_,h2⟩;·rw[h0]at e;cases e
 ·rw[h1]at e;cases e;rw[hb]at h2;simp only[tA,tW]at h2;exact ht h2.2.1
theorem Q6.kept{rb pb:Nat}{w w':F}{v:H}{l:List Zf}(h:Q6 rb pb w v l){row:Option Nat}(hg:L w w' row)(hne:v.ownBlock=G∨v.ownBlock≠row)(hrow:row=G∨∃g cur t fz,row=I g∧pb<=g∧w.heap[g]?=I (S cur t fz)∧t≠5):Q6 rb pb w' v l:=by
 obtain⟨us,h1,h2,h3⟩:=h;exact⟨us,h1,tU h2 hg hne,fun x hx=>⟨(h3 x hx).1.keptT hg hrow,(h3 x hx).2.1.keptT hg hrow,(h3 x hx).2.2.keptT hg hrow⟩⟩
theorem Q6.grownNone{rb pb:Nat}{w w':F}{v:H}{l:List Zf}(h:Q6 rb pb w v l)(hg:L w w' G):Q6 rb pb w' v l:=h.kept hg (by
 cases hv:v.ownBlock with|none=>exact .inl rfl|some k=>exact .inr (by simp)) (.inl rfl)
theorem Q6.setOther{rb pb:Nat}{w:F}{v:H}{l:List Zf}(h:Q6 rb pb w v l){b i:Nat}{cs:Array H}{t:tX}{fz:Nat×Nat}(hb:w.heap[b]?=I (S cs t fz))(ht:t≠5)(ht2:t≠178)(hbb:pb<=b)(u:H):Q6 rb pb (tE w ⟨b,i,G⟩ u) v l:=h.kept (YJ w b i u) (.inr (h.ne hb ht2)) (.inr ⟨b,cs,t,fz,rfl,hbb,hb,ht⟩)
theorem Q6.shape{rb pb:Nat}{w:F}{v:H}{l:List Zf}(h:Q6 rb pb w v l):∃a cap,v=J a l.length cap:=by
 obtain⟨us,_,h,_⟩:=h;rcases h.2with⟨rfl,h0⟩|⟨g,cap,cur,rfl,_⟩;·exact⟨G,0,by rw[h0]⟩
 ·exact⟨_,cap,rfl⟩
theorem Q6.any{rb pb:Nat}{w:F}{v:H}{l:List Zf}(h:Q6 rb pb w v l):∃a n cap,v=J a n cap:=by
 obtain⟨a,cap,e⟩:=h.shape;exact⟨a,_,cap,e⟩
theorem Q6.down{rb pb:Nat}{w:F}{v:H}{l:List Zf}(h:Q6 rb pb w v l)(rb':Nat)(hb:rb'<=rb):Q6 rb' pb w v l:=by
 obtain⟨us,h1,h2,h3⟩:=h;refine⟨us,h1,⟨h2.1,?_⟩,h3⟩;rcases h2.2with h|⟨g,cap,cur,e,hb2,rest⟩;·exact .inl h
 ·exact .inr ⟨g,cap,cur,e,tN hb hb2,rest⟩
theorem Q6.writesB{rb pb:Nat}{w:F}{v:H}{l:List Zf}(h:Q6 rb pb w v l):Xm pb w v l:=by
 obtain⟨us,hl,hr,h3⟩:=h;rcases hr.2with⟨rfl,h0⟩|⟨g,cap,cur,rfl,hb,hg,hn,hm,hs,ht⟩;·have:l=[]:=tJ h0;rw[this];exact Dh pb w
 ·(have hcell:∀j u,(Y5 us)[j]?=I u->w.cell? ⟨g,j,G⟩=I u:=by intro j u hj;(have hlt:j<l.length*4:=by have:=(sH.1 hj).1;rw[hr.1]at this;exact this);(have e2:(cur.toList.take (l.length*4))[j]?=(Y5 us)[j]?:=by rw[ht]);rw[sB,if_pos hlt,hj]at e2;simp[tS,hg];simpa using e2);refine⟨_,cap,rfl,hn,.inr ⟨g,0,rfl,.inr ⟨_,_,hg⟩,fun i hi=>?_⟩⟩;obtain⟨e1,e2⟩:=LD hl i hi;(have hlen:us.length=l.length:=by rw[<-hl];simp);obtain⟨c1,c2,c3,c4⟩:=E5 us i (by omega);have hp:=h3 _ e2;rw[e1]at c3 hp;rw[sM];exact⟨_,_,_,hcell _ _ c1,hcell _ _ c2,hcell _ _ c3,hcell _ _ c4,hp.1,hp.2.1,hp.2.2⟩
theorem Q6.list{rb pb:Nat}{w:F}{v:H}{l:List Zf}(h:Q6 rb pb w v l):QQ w v l:=h.writesB.list
theorem VQ{rb pb:Nat}{w W w1:F}{v:H}{l:List Zf}(h:L w W G)(ho:Q6 rb pb W v l)(hb:w.heap.size<=rb)(hg:L W w1 v.ownBlock):L w w1 G:=⟨hg.os.trans h.os,hg.tape.trans h.tape,hg.output.trans h.output,tN h.size hg.size,fun i hi hn=>(hg.block i (tG hi h.size) (fun e=>by
 have:=(ho.lt i e.symm).1;omega)).trans (h.block i hi hn)⟩
def TO(w:F)(b o:Nat)(r:Rd):Prop:=∃vn vk vl,w.cell? ⟨b,o,G⟩=I vn∧w.cell? ⟨b,o+1,G⟩=I vk∧w.cell? ⟨b,o+2,G⟩=I (tL r.wide)∧w.cell? ⟨b,o+3,G⟩=I vl∧Qe w vn r.name∧Qe w vk r.key∧Qe w vl r.last
theorem TO.grown{w w':F}{b o:Nat}{r:Rd}(h:TO w b o r)(hg:L w w' G):TO w' b o r:=by
 obtain⟨vn,vk,vl,c1,c2,c3,c4,h1,h2,h3⟩:=h;exact⟨vn,vk,vl,hg.cell c1 (by simp),hg.cell c2 (by simp),hg.cell c3 (by simp),hg.cell c4 (by simp),h1.grown hg,h2.grown hg,h3.grown hg⟩
def Xa(w:F)(v:H)(l:List Rd):Prop:=∃a cap,v=J a l.length cap∧l.length<=cap∧((l=[]∧(a=G->cap=0))∨∃b o,a=I ⟨b,o,G⟩∧∀i,i<l.length->TO w b (o+i*4) (l.getD i Zg))
theorem Cd(w:F):Xa w (J G 0 0) []:=⟨G,0,rfl,tY _,.inl ⟨rfl,fun _=>rfl⟩⟩
theorem Xa.shape{w:F}{v:H}{l:List Rd}(h:Xa w v l):∃a cap,v=J a l.length cap:=by
 obtain⟨a,cap,rfl,_⟩:=h;exact⟨a,cap,rfl⟩
theorem Xa.grown{w w':F}{v:H}{l:List Rd}(h:Xa w v l)(hg:L w w' G):Xa w' v l:=by
 obtain⟨a,cap,rfl,hc,h⟩:=h;refine⟨a,cap,rfl,hc,?_⟩;rcases h with h|⟨b,o,rfl,h⟩;·exact .inl h
 ·exact .inr ⟨b,o,rfl,fun i hi=>(h i hi).grown hg⟩
theorem Xa.at{w:F}{a:Option sY}{n cap:Nat}{l:List Rd}(h:Xa w (J a n cap) l)(i:Nat)(hi:i<l.length):∃b o,a=I ⟨b,o,G⟩∧TO w b (o+i*4) (l.getD i Zg):=by
 obtain⟨a',cap',e,hc,h⟩:=h;simp only[tH]at e;obtain⟨rfl,rfl,rfl⟩:=e;rcases h with⟨rfl,_⟩|⟨b,o,rfl,h⟩;·simp at hi
 ·exact⟨b,o,rfl,h i hi⟩
structure gH (l : List Rd) : Prop where
  many : l.length * 80 <= 140737488355328
  each : ∀ i, i < l.length -> Pm (l.getD i Zg)
structure zS (t : Tx) : Prop where
  start : -9223372036854775808 <= t.start ∧ t.start <= 9223372036854775807
  reads : gH t.reads
  writes : kL t.writes
def GC(w:F)(v:H)(t:Tx):Prop:=∃vr vw,v=sP #[Y tC t.start,vr,vw]∧Xa w vr t.reads∧QQ w vw t.writes
theorem GC.grown{w w':F}{v:H}{t:Tx}(h:GC w v t)(hg:L w w' G):GC w' v t:=by
 obtain⟨vr,vw,rfl,h1,h2⟩:=h;exact⟨vr,vw,rfl,h1.grown hg,h2.grown hg⟩
theorem GC.agg{w:F}{v:H}{t:Tx}(h:GC w v t):∃ra rc wa wc,v=sP #[Y tC t.start,J ra t.reads.length rc,J wa t.writes.length wc]:=by
 obtain⟨vr,vw,rfl,h1,h2⟩:=h;obtain⟨ra,rc,rfl⟩:=h1.shape;obtain⟨wa,wc,rfl⟩:=h2.shape;exact⟨ra,rc,wa,wc,rfl⟩
theorem GC.parts{w:F}{t:Tx}{x y z:H}(h:GC w (sP #[x,y,z]) t):x=Y tC t.start∧Xa w y t.reads∧QQ w z t.writes:=by
 obtain⟨vr,vw,e,h1,h2⟩:=h;simp only[Value.agg.injEq,Array.mk.injEq,List.cons.injEq,and_true]at e;obtain⟨rfl,rfl,rfl⟩:=e;exact⟨rfl,h1,h2⟩
theorem v8{r:Rd}(h:Xq r=0):Pm r:=by
 obtain⟨h1,h2,h3⟩:=(RY r).1 h;refine⟨by omega,by omega,?_⟩;split at h3;·omega
 ·rw[h3];simp
abbrev RV:=Rd×H×H×H
def CO:RV:=(Zg,sI,sI,sI)
def Gc(us:List RV):List H:=us.flatMap fun x=>[x.2.1,x.2.2.1,tL x.1.wide,x.2.2.2]
theorem Ni(a b:List RV):Gc (a++b)=Gc a++Gc b:=by
 simp[Gc]
theorem EB:∀(us:List RV)(i:Nat),i<us.length->(Gc us)[i*4]?=I (us.getD i CO).2.1∧(Gc us)[i*4+1]?=I (us.getD i CO).2.2.1∧(Gc us)[i*4+2]?=I (tL (us.getD i CO).1.wide)∧(Gc us)[i*4+3]?=I (us.getD i CO).2.2.2|[],i,h=>by simp at h|x::us,0,_=>⟨rfl,rfl,rfl,rfl⟩|x::us,i+1,h=>by have:=EB us i (by simpa using h);rw[show(i+1)*4=i*4+4by omega];exact this
theorem fP:(198:Nat)≠5:=by
 decide
theorem f8:(198:Nat)≠178:=by
 decide
def ZK(rb pb:Nat)(w:F)(v:H)(l:List Rd):Prop:=∃us:List RV,us.map (·.1)=l∧w.ownsRow rb 198 4 v l.length (Gc us)∧∀x∈us,Qi pb w x.2.1 x.1.name∧Qi pb w x.2.2.1 x.1.key∧Qi pb w x.2.2.2 x.1.last
theorem Um(rb pb:Nat)(w:F):ZK rb pb w (J G 0 0) []:=⟨[],rfl,sL _ _ _ _,fun x hx=>by
 simp at hx⟩
theorem ZK.row{rb pb:Nat}{w:F}{v:H}{l:List Rd}(h:ZK rb pb w v l):v.ownBlock=G∨∃g cur fz,v.ownBlock=I g∧rb<=g∧w.heap[g]?=I (S cur 198 fz):=by
 obtain⟨us,_,h,_⟩:=h;rcases h.2with⟨rfl,_⟩|⟨g,cap,cur,rfl,hb,hg,_⟩;·exact .inl rfl
 ·exact .inr ⟨g,cur,_,rfl,hb,hg⟩
theorem ZK.lt{rb pb:Nat}{w:F}{v:H}{l:List Rd}(h:ZK rb pb w v l):∀k,v.ownBlock=I k->rb<=k∧k<w.heap.size:=by
 obtain⟨us,_,h,_⟩:=h;exact sF h
theorem ZK.ne{rb pb:Nat}{w:F}{v:H}{l:List Rd}(h:ZK rb pb w v l){b:Nat}{cs:Array H}{t:tX}{fz:Nat×Nat}(hb:w.heap[b]?=I (S cs t fz))(ht:t≠198):v.ownBlock≠I b:=by
 intro e;rcases h.row with h0|⟨g,cur,fz2,h1,_,h2⟩;·rw[h0]at e;cases e
 ·rw[h1]at e;cases e;rw[hb]at h2;simp only[tA,tW]at h2;exact ht h2.2.1
theorem ZK.kept{rb pb:Nat}{w w':F}{v:H}{l:List Rd}(h:ZK rb pb w v l){row:Option Nat}(hg:L w w' row)(hne:v.ownBlock=G∨v.ownBlock≠row)(hrow:row=G∨∃g cur t fz,row=I g∧pb<=g∧w.heap[g]?=I (S cur t fz)∧t≠5):ZK rb pb w' v l:=by
 obtain⟨us,h1,h2,h3⟩:=h;exact⟨us,h1,tU h2 hg hne,fun x hx=>⟨(h3 x hx).1.keptT hg hrow,(h3 x hx).2.1.keptT hg hrow,(h3 x hx).2.2.keptT hg hrow⟩⟩
theorem ZK.grownNone{rb pb:Nat}{w w':F}{v:H}{l:List Rd}(h:ZK rb pb w v l)(hg:L w w' G):ZK rb pb w' v l:=h.kept hg (by
 cases hv:v.ownBlock with|none=>exact .inl rfl|some k=>exact .inr (by simp)) (.inl rfl)
theorem ZK.setOther{rb pb:Nat}{w:F}{v:H}{l:List Rd}(h:ZK rb pb w v l){b i:Nat}{cs:Array H}{t:tX}{fz:Nat×Nat}(hb:w.heap[b]?=I (S cs t fz))(ht:t≠5)(ht2:t≠198)(hbb:pb<=b)(u:H):ZK rb pb (tE w ⟨b,i,G⟩ u) v l:=h.kept (YJ w b i u) (.inr (h.ne hb ht2)) (.inr ⟨b,cs,t,fz,rfl,hbb,hb,ht⟩)
theorem ZK.down{rb pb:Nat}{w:F}{v:H}{l:List Rd}(h:ZK rb pb w v l)(rb':Nat)(hb:rb'<=rb):ZK rb' pb w v l:=by
 obtain⟨us,h1,h2,h3⟩:=h;refine⟨us,h1,⟨h2.1,?_⟩,h3⟩;rcases h2.2with h|⟨g,cap,cur,e,hb2,rest⟩;·exact .inl h
 ·exact .inr ⟨g,cap,cur,e,tN hb hb2,rest⟩
theorem ZK.shape{rb pb:Nat}{w:F}{v:H}{l:List Rd}(h:ZK rb pb w v l):∃a cap,v=J a l.length cap:=by
 obtain⟨us,_,h,_⟩:=h;rcases h.2with⟨rfl,h0⟩|⟨g,cap,cur,rfl,_⟩;·exact⟨G,0,by rw[h0]⟩
 ·exact⟨_,cap,rfl⟩
theorem Hx{us:List RV}{l:List Rd}(h:us.map (·.1)=l)(i:Nat)(hi:i<l.length):(us.getD i CO).1=l.getD i Zg∧us.getD i CO∈us:=by
 subst h;have hi':i<us.length:=by simpa using hi
 refine⟨by simp[hi'],?_⟩;rw[show us.getD i CO=us[i]by simp[hi']];exact sN hi'
theorem ZK.list{rb pb:Nat}{w:F}{v:H}{l:List Rd}(h:ZK rb pb w v l):Xa w v l:=by
 obtain⟨us,hl,hr,h3⟩:=h;rcases hr.2with⟨rfl,h0⟩|⟨g,cap,cur,rfl,hb,hg,hn,hm,hs,ht⟩;·have:l=[]:=tJ h0;rw[this];exact Cd w
 ·(have hcell:∀j u,(Gc us)[j]?=I u->w.cell? ⟨g,j,G⟩=I u:=by intro j u hj;(have hlt:j<l.length*4:=by have:=(sH.1 hj).1;rw[hr.1]at this;exact this);(have e2:(cur.toList.take (l.length*4))[j]?=(Gc us)[j]?:=by rw[ht]);rw[sB,if_pos hlt,hj]at e2;simp[tS,hg];simpa using e2);refine⟨_,cap,rfl,hn,.inr ⟨g,0,rfl,fun i hi=>?_⟩⟩;obtain⟨e1,e2⟩:=Hx hl i hi;(have hlen:us.length=l.length:=by rw[<-hl];simp);obtain⟨c1,c2,c3,c4⟩:=EB us i (by omega);have hp:=h3 _ e2;rw[e1]at c3 hp;rw[sM];exact⟨_,_,_,hcell _ _ c1,hcell _ _ c2,hcell _ _ c3,hcell _ _ c4,hp.1.1,hp.2.1.1,hp.2.2.1⟩
theorem F9{rb pb:Nat}{w W w1:F}{v:H}{l:List Rd}(h:L w W G)(ho:ZK rb pb W v l)(hb:w.heap.size<=rb)(hg:L W w1 v.ownBlock):L w w1 G:=⟨hg.os.trans h.os,hg.tape.trans h.tape,hg.output.trans h.output,tN h.size hg.size,fun i hi hn=>(hg.block i (tG hi h.size) (fun e=>by
 have:=(ho.lt i e.symm).1;omega)).trans (h.block i hi hn)⟩
theorem fN:(O.info? 198).map (fun i=>(i.zero,i.size,i.bytes))=I (I (sP #[J G 0 0,J G 0 0,tL N,J G 0 0]),4,80):=by
 kernel_rfl
def Gx(w:F)(v:H)(t:Tx):Prop:=∃vr vw,v=sP #[Y tC t.start,vr,vw]∧ZK 0 0 w vr t.reads∧Q6 0 0 w vw t.writes
theorem Gx.is{w:F}{v:H}{t:Tx}(h:Gx w v t):GC w v t:=by
 obtain⟨vr,vw,rfl,h1,h2⟩:=h;exact⟨vr,vw,rfl,h1.list,h2.list⟩
theorem zQ(w:F):Gx w (sP #[Y tC 0,J G 0 0,J G 0 0]) Fb:=⟨_,_,rfl,Um 0 0 w,Xu 0 0 w⟩
def Ml(w:F)(b o:Nat)(s:kD):Prop:=∃vo,w.cell? ⟨b,o,G⟩=I (Y tC s.bit)∧w.cell? ⟨b,o+1,G⟩=I (tL s.right)∧w.cell? ⟨b,o+2,G⟩=I vo∧Qe w vo s.other
theorem Ml.grown{w w':F}{b o:Nat}{s:kD}(h:Ml w b o s)(hg:L w w' G):Ml w' b o s:=by
 obtain⟨vo,c1,c2,c3,h1⟩:=h;exact⟨vo,hg.cell c1 (by simp),hg.cell c2 (by simp),hg.cell c3 (by simp),h1.grown hg⟩
def V6(w:F)(v:H)(l:List kD):Prop:=∃a cap,v=J a l.length cap∧l.length<=cap∧((l=[]∧(a=G->cap=0))∨∃b o,a=I ⟨b,o,G⟩∧∀i,i<l.length->Ml w b (o+i*3) (l.getD i Sl))
theorem D7(w:F):V6 w (J G 0 0) []:=⟨G,0,rfl,tY _,.inl ⟨rfl,fun _=>rfl⟩⟩
theorem V6.grown{w w':F}{v:H}{l:List kD}(h:V6 w v l)(hg:L w w' G):V6 w' v l:=by
 obtain⟨a,cap,rfl,hc,h⟩:=h;refine⟨a,cap,rfl,hc,?_⟩;rcases h with h|⟨b,o,rfl,h⟩;·exact .inl h
 ·exact .inr ⟨b,o,rfl,fun i hi=>(h i hi).grown hg⟩
theorem V6.shape{w:F}{v:H}{l:List kD}(h:V6 w v l):∃a cap,v=J a l.length cap:=by
 obtain⟨a,cap,rfl,_⟩:=h;exact⟨a,cap,rfl⟩
def KH(w:F)(v:H)(p:Dj):Prop:=∃vs vk vv,v=sP #[tL p.empty,vs,vk,vv]∧V6 w vs p.steps∧Qe w vk p.pair.1∧Qe w vv p.pair.2
theorem KH.grown{w w':F}{v:H}{p:Dj}(h:KH w v p)(hg:L w w' G):KH w' v p:=by
 obtain⟨vs,vk,vv,rfl,h0,h1,h2⟩:=h;exact⟨vs,vk,vv,rfl,h0.grown hg,h1.grown hg,h2.grown hg⟩
theorem J6{w:F}{b:Nat}{x y:H}{t:tX}(h:w.heap[b]?=I (S #[x,y] t)):w.cell? ⟨b,0,G⟩=I x∧w.cell? ⟨b,1,G⟩=I y∧w.frozen? ⟨b,0,G⟩=N∧w.frozen? ⟨b,1,G⟩=N:=by
 refine⟨?_,?_,?_,?_⟩<;>simp[tS,rV,h]
theorem aP{w:F}{b:Nat}{x y:H}{t:tX}(h:w.heap[b]?=I (S #[x,y] t))(u v:H):((tE w ⟨b,0,G⟩ u).setCell ⟨b,1,G⟩ v).heap[b]?=I (S #[u,v] t):=by
 have h0:(tE w ⟨b,0,G⟩ u).heap[b]?=I (S #[u,y] t):=by simp only[tE,tV,if_true,h,rJ];first|rfl|simp
 rw[tE,tV,if_pos rfl,h0];first|rfl|simp
theorem V3{w:F}{b:Nat}{x y z:H}{t:tX}(h:w.heap[b]?=I (S #[x,y,z] t)):(w.cell? ⟨b,0,G⟩=I x∧w.cell? ⟨b,1,G⟩=I y∧w.cell? ⟨b,2,G⟩=I z)∧w.frozen? ⟨b,0,G⟩=N∧w.frozen? ⟨b,1,G⟩=N∧w.frozen? ⟨b,2,G⟩=N:=by
 refine⟨⟨?_,?_,?_⟩,?_,?_,?_⟩<;>simp[tS,rV,h]
theorem Er{w:F}{b:Nat}{x y z:H}{t:tX}(h:w.heap[b]?=I (S #[x,y,z] t))(x' y' z':H):(((tE w ⟨b,0,G⟩ x').setCell ⟨b,1,G⟩ y').setCell ⟨b,2,G⟩ z').heap[b]?=I (S #[x',y',z'] t):=by
 have h0:(tE w ⟨b,0,G⟩ x').heap[b]?=I (S #[x',y,z] t):=by simp only[tE,tV,if_true,h,rJ];first|rfl|simp
 have h1:((tE w ⟨b,0,G⟩ x').setCell ⟨b,1,G⟩ y').heap[b]?=I (S #[x',y',z] t):=by rw[tE,tV,if_pos rfl,h0];first|rfl|simp
 rw[tE,tV,if_pos rfl,h1];first|rfl|simp
theorem PC{w w1:F}(h:L w w1 G)(b:Nat)(hb:w.heap.size<=b)(x y z:H):L w (((tE w1 ⟨b,0,G⟩ x).setCell ⟨b,1,G⟩ y).setCell ⟨b,2,G⟩ z) G:=Qd (Qd (Qd h _ hb _ _) _ hb _ _) _ hb _ _
def eZ(w:F)(b:Nat):Prop:=∃cur t fz,w.heap[b]?=I (S cur t fz)∧(t=5∨∃q,cur[0]?=I (Y pJ q))
def yO(w:F)(b:Nat):Prop:=∃cur t fz,w.heap[b]?=I (S cur t fz)∧t≠5∧∀q,cur[0]?≠I (Y pJ q)
theorem eZ.ne{w:F}{a b:Nat}(h:eZ w a)(h':yO w b):a≠b:=by
 rintro rfl;obtain⟨cur,t,fz,h1,h2⟩:=h;obtain⟨cur',t',fz',h3,h4,h5⟩:=h';rw[h1]at h3;simp only[tA,tW]at h3;obtain⟨rfl,rfl,_⟩:=h3;rcases h2 with h2|⟨q,h2⟩;·exact h4 h2
 ·exact h5 q h2
theorem yO.grown{w w':F}{b:Nat}(h:yO w b)(hg:L w w' G):yO w' b:=by
 obtain⟨cur,t,fz,h1,h2⟩:=h;exact⟨cur,t,fz,by rw[hg.block b (tI.1 h1).1 (by simp)];exact h1,h2⟩
theorem yO.set{w:F}{c:Nat}(h:yO w c)(i:Nat)(u:H)(hu:∀q,u≠Y pJ q):yO (tE w ⟨c,i,G⟩ u) c:=by
 obtain⟨cur,t,fz,h1,h2,h3⟩:=h;refine⟨cur.setIfInBounds i u,t,fz,?_,h2,fun q hq=>?_⟩;·simp only[tE,tV,if_true,h1,rJ];first|rfl|simp
 ·rw[Array.getElem?_setIfInBounds]at hq;split at hq;(·split at hq;(·simp at hq;exact hu q hq);·cases hq);·exact h3 q hq
theorem Mp{w:F}{c:Nat}{x:H}{xs:List H}{t:tX}{fz:Nat×Nat}(h:w.heap[c]?=I (S ⟨x::xs⟩ t fz))(ht:t≠5)(hx:∀q,x≠Y pJ q):yO w c:=⟨_,t,fz,h,ht,fun q hq=>by
 simp at hq;exact hx q hq⟩
def XU(w:F)(v:H)(bs:List UInt8):Prop:=Qe w v bs∧(bs=[]∨∃b,v.ownBlock=I b∧b<w.heap.size∧eZ w b)
theorem fV:(124:Nat)≠5:=by
 decide
theorem Uw(w:F):XU w (J G 0 0) []:=⟨QH _,.inl rfl⟩
theorem Za.partS{base':Nat}{w:F}{v:H}{bs:List UInt8}(h:Za base' w v bs):XU w v bs:=by
 refine⟨h.slice,?_⟩;rcases h.2with⟨rfl,h0⟩|⟨g,cap,cur,rfl,hb,hg,_⟩;·exact .inl (tJ h0)
 ·exact .inr ⟨g,rfl,(tI.1 hg).1,cur,_,_,hg,.inl rfl⟩
theorem ZJ.partS{w:F}{nb:Nat}{bs:List UInt8}(h:ZJ w nb bs)(hl:bs.length=32):XU w (J (I ⟨nb,0,G⟩) 32 32) bs:=by
 refine⟨h.slice32 hl,.inr ⟨nb,rfl,Vt (h.cell 0 (by omega)),?_⟩⟩;have hc:=h.cell 0 (by omega);obtain⟨t,hb⟩:=h;refine⟨_,t,_,hb,.inr ⟨((bs.getD 0 0).toNat:Int),?_⟩⟩;·simpa[tS,hb]using hc
theorem RK{w:F}{v:H}{bs:List UInt8}(h:XU w v bs):v.oneCell'=M:=by
 obtain⟨⟨a,cap,rfl,_⟩,_⟩:=h;rfl
def gC(w:F)(row:Option Nat):Prop:=row=G∨∃g,row=I g∧yO w g
theorem XU.kept{w w':F}{v:H}{bs:List UInt8}(h:XU w v bs){row:Option Nat}(hg:L w w' row)(hrow:gC w row):XU w' v bs:=by
 obtain⟨hs,ho⟩:=h;rcases ho with rfl|⟨b,hb,hlt,hc⟩;·obtain⟨a,cap,rfl,hc,h⟩:=hs;refine⟨⟨a,cap,rfl,hc,?_⟩,.inl rfl⟩;rcases h with h|⟨b,o,rfl,h⟩;(·exact .inl h);·exact .inr ⟨b,o,rfl,fun i hi=>by simp at hi⟩
 ·(have hne:I b≠row:=by intro e;rcases hrow with rfl|⟨g,rfl,hg'⟩;(·cases e);·cases e;exact hc.ne hg' rfl);have hblk:=hg.block b hlt hne;refine⟨?_,.inr ⟨b,hb,tG hlt hg.size,?_⟩⟩;(·obtain⟨a,cap,rfl,hcp,h⟩:=hs;refine⟨a,cap,rfl,hcp,?_⟩;rcases h with h|⟨b',o,rfl,h⟩;(·exact .inl h);·refine .inr ⟨b',o,rfl,fun i hi=>?_⟩;simp[pF]at hb;subst hb;exact hg.cell (h i hi) (by simpa using hne));·obtain⟨cur,t,fz,hc,hc2⟩:=hc;exact⟨cur,t,fz,by rw[hblk];exact hc,hc2⟩
theorem XU.grown{w w':F}{v:H}{bs:List UInt8}(h:XU w v bs)(hg:L w w' G):XU w' v bs:=h.kept hg (.inl rfl)
theorem XU.set{w:F}{v:H}{bs:List UInt8}(h:XU w v bs){c:Nat}(hc:yO w c)(i:Nat)(u:H):XU (tE w ⟨c,i,G⟩ u) v bs:=h.kept (Qg (Qb _ (I c)) i u) (.inr ⟨c,rfl,hc⟩)
abbrev SV:=kD×H
def Lz:SV:=(Sl,sI)
def Uj(us:List SV):List H:=us.flatMap fun x=>[Y tC x.1.bit,tL x.1.right,x.2]
theorem Ms(a b:List SV):Uj (a++b)=Uj a++Uj b:=by
 simp[Uj]
theorem Nc:∀(us:List SV)(i:Nat),i<us.length->(Uj us)[i*3]?=I (Y tC (us.getD i Lz).1.bit)∧(Uj us)[i*3+1]?=I (tL (us.getD i Lz).1.right)∧(Uj us)[i*3+2]?=I (us.getD i Lz).2|[],i,h=>by simp at h|x::r,0,_=>by simp[Uj]|x::r,i+1,h=>by have:=Nc r i (by simpa using h);rw[show(i+1)*3=i*3+3by omega,show i*3+3+1=(i*3+1)+3by omega,show i*3+3+2=(i*3+2)+3by omega];simpa[Uj]using this
theorem LN(us:List SV):∀u∈Uj us,(∀x∈us,x.2.oneCell'=M)->u.oneCell'=M:=by
 intro u hu h;obtain⟨x,hx,hu⟩:=List.mem_flatMap.1 hu;simp only[tK,tQ,or_false]at hu;rcases hu with rfl|rfl|rfl;·rfl
 ·rfl
 ·exact h x hx
def JL(base:Nat)(w:F)(v:H)(l:List kD):Prop:=∃us:List SV,us.map (·.1)=l∧w.ownsRow base 124 3 v l.length (Uj us)∧(∀x∈us,XU w x.2 x.1.other)∧(l=[]->v=J G 0 0)
theorem kZ(base:Nat)(w:F):JL base w (J G 0 0) []:=⟨[],rfl,sL _ _ _ _,fun x hx=>by
 simp at hx,fun _=>rfl⟩
theorem JL.row{base:Nat}{w:F}{v:H}{l:List kD}(h:JL base w v l):gC w v.ownBlock:=by
 obtain⟨us,hm,h,_,h0⟩:=h;cases l with|nil=>rw[h0 rfl];exact .inl rfl|cons x r=>rcases h.2with⟨rfl,_⟩|⟨g,cap,cur,rfl,hb,hg,hn,_,_,ht⟩;(·exact .inl rfl);·refine .inr ⟨g,rfl,cur,_,_,hg,fV,fun q=>?_⟩;cases us with|nil=>simp at hm|cons u us=>simp only[List.map_cons,List.cons.injEq]at hm;(have e:(cur.toList.take ((x::r).length*3))[0]?=(Uj (u::us))[0]?:=by rw[ht]);rw[sB,if_pos (by simp)]at e;rw[<-rY,e];simp[Uj]
theorem JL.lt{base:Nat}{w:F}{v:H}{l:List kD}(h:JL base w v l):∀k,v.ownBlock=I k->base<=k∧k<w.heap.size:=by
 obtain⟨us,_,h,_⟩:=h;exact sF h
theorem JL.grownNone{base:Nat}{w w':F}{v:H}{l:List kD}(h:JL base w v l)(hg:L w w' G):JL base w' v l:=by
 obtain⟨us,h1,h2,h3,h4⟩:=h;refine⟨us,h1,tU h2 hg ?_,fun x hx=>(h3 x hx).grown hg,h4⟩;cases hv:v.ownBlock with|none=>exact .inl rfl|some k=>exact .inr (by simp)
theorem JL.alloc{base:Nat}{w:F}{v:H}{l:List kD}(h:JL base w v l)(o:Obj):JL base (w.alloc o) v l:=h.grownNone (sW _ _ _)
theorem JL.shape{base:Nat}{w:F}{v:H}{l:List kD}(h:JL base w v l):∃a cap,v=J a l.length cap:=by
 obtain⟨us,_,h,_⟩:=h;rcases h.2with⟨rfl,h0⟩|⟨g,cap,cur,rfl,_⟩;·exact⟨G,0,by rw[h0]⟩
 ·exact⟨_,cap,rfl⟩
theorem JL.cells{base:Nat}{w:F}{g n cap:Nat}{us:List SV}{k:Nat}(hr:w.ownsRow base 124 3 (J (I ⟨g,0,G⟩) n cap) k (Uj us)):∀j u,(Uj us)[j]?=I u->w.cell? ⟨g,j,G⟩=I u:=by
 intro j u hj;rcases hr.2with⟨e,_⟩|⟨g',cap',cur,e,hb,hg,hn,hm,hs,ht⟩;·cases e
 ·simp only[tH,tA,rF]at e;obtain⟨⟨rfl,_⟩,_,_⟩:=e;(have hlt:j<k*3:=by have:=(sH.1 hj).1;rw[hr.1]at this;exact this);(have e2:(cur.toList.take (k*3))[j]?=(Uj us)[j]?:=by rw[ht]);rw[sB,if_pos hlt,hj]at e2;simp[tS,hg];simpa using e2
theorem Oq{us:List SV}{l:List kD}(h:us.map (·.1)=l)(i:Nat)(hi:i<l.length):(us.getD i Lz).1=l.getD i Sl∧us.getD i Lz∈us:=by
 subst h;have hi':i<us.length:=by simpa using hi
 constructor;·simp[hi']
 ·rw[show us.getD i Lz=us[i]by simp[hi']];exact sN _
theorem JL.list{base:Nat}{w:F}{v:H}{l:List kD}(h:JL base w v l):V6 w v l:=by
 obtain⟨us,hl,hr,h3,_⟩:=h;have hul:us.length=l.length:=by rw[<-hl];simp
 rcases hr.2with⟨rfl,h0⟩|⟨g,cap,cur,rfl,hb,hg,hn,hm,hs,ht⟩;·have:l=[]:=tJ h0;subst this;exact D7 w
 ·refine⟨_,cap,rfl,hn,.inr ⟨g,0,rfl,fun i hi=>?_⟩⟩;obtain⟨e1,e2⟩:=Oq hl i hi;obtain⟨c1,c2,c3⟩:=Nc us i (by omega);have hp:=h3 _ e2;rw[e1]at c1 c2 hp;rw[sM];exact⟨_,JL.cells hr _ _ c1,JL.cells hr _ _ c2,JL.cells hr _ _ c3,hp.1⟩
theorem JL.set{base:Nat}{w:F}{v:H}{l:List kD}(h:JL base w v l){c:Nat}(hc:yO w c)(hne:c<base)(i:Nat)(u:H):JL base (tE w ⟨c,i,G⟩ u) v l:=by
 have hlt:=h.lt;obtain⟨us,h1,h2,h3,h4⟩:=h;refine⟨us,h1,tU h2 (Qg (Qb _ (I c)) i u) ?_,fun x hx=>(h3 x hx).set hc i u,h4⟩;cases hv:v.ownBlock with|none=>exact .inl rfl|some k=>exact .inr (by have:=(hlt k hv).1;simp;omega)
theorem eL:(46:Nat)≠5:=by
 decide
theorem gG:(44:Nat)≠5:=by
 decide
theorem Vo{W:F}{pb:Nat}{x y:H}(h:W.heap[pb]?=I (S #[x,y] 44))(hx:∀q,x≠Y pJ q)(ua va:Option sY)(un uc vn vc:Nat){z:H}{bs:List UInt8}(hz:XU W z bs):XU ((tE W ⟨pb,0,G⟩ (J ua un uc)).setCell ⟨pb,1,G⟩ (J va vn vc)) z bs:=have h0:yO W pb:=Mp (xs:=[y]) h gG hx;have h1:=h0.set 0 (J ua un uc) (fun q=>by
 simp);(hz.set h0 0 _).set h1 1 _
theorem XU.quad{w:F}{v:H}{bs:List UInt8}(h:XU w v bs){c:Nat}(hc:yO w c){e:Bool}{sa:Option sY}{sn sc:Nat}{ka va:Option sY}{kn kc vn vc:Nat}:XU ((((tE w ⟨c,0,G⟩ (tL e)).setCell ⟨c,1,G⟩ (J sa sn sc)).setCell ⟨c,2,G⟩ (J ka kn kc)).setCell ⟨c,3,G⟩ (J va vn vc)) v bs:=have h1:=hc.set 0 (tL e) (fun q=>by
 simp);have h2:=h1.set 1 (J sa sn sc) (fun q=>by
 simp);have h3:=h2.set 2 (J ka kn kc) (fun q=>by
 simp);(((h.set hc 0 _).set h1 1 _).set h2 2 _).set h3 3 _
theorem JL.quad{base:Nat}{w:F}{v:H}{l:List kD}(h:JL base w v l){c:Nat}(hc:yO w c)(hne:c<base){e:Bool}{sa:Option sY}{sn sc:Nat}{ka va:Option sY}{kn kc vn vc:Nat}:JL base ((((tE w ⟨c,0,G⟩ (tL e)).setCell ⟨c,1,G⟩ (J sa sn sc)).setCell ⟨c,2,G⟩ (J ka kn kc)).setCell ⟨c,3,G⟩ (J va vn vc)) v l:=have h1:=hc.set 0 (tL e) (fun q=>by
 simp);have h2:=h1.set 1 (J sa sn sc) (fun q=>by
 simp);have h3:=h2.set 2 (J ka kn kc) (fun q=>by
 simp);(((h.set hc hne 0 _).set h1 hne 1 _).set h2 hne 2 _).set h3 hne 3 _
def Zw(n:Nat)(w:F)(v:H)(p:Dj):Prop:=∃base vs vk vv,v=sP #[tL p.empty,vs,vk,vv]∧n<=base∧base<=w.heap.size∧JL base w vs p.steps∧XU w vk p.pair.1∧XU w vv p.pair.2
theorem Zw.is{n:Nat}{w:F}{v:H}{p:Dj}(h:Zw n w v p):KH w v p:=by
 obtain⟨base,vs,vk,vv,rfl,_,_,h1,h2,h3⟩:=h;exact⟨vs,vk,vv,rfl,h1.list,h2.1,h3.1⟩
theorem Ai{base:Nat}{w W w1:F}{v:H}{l:List kD}(h:L w W G)(ho:JL base W v l)(hb:w.heap.size<=base)(hg:L W w1 v.ownBlock):L w w1 G:=⟨hg.os.trans h.os,hg.tape.trans h.tape,hg.output.trans h.output,tN h.size hg.size,fun i hi hn=>(hg.block i (tG hi h.size) (fun e=>by
 have:=(ho.lt i e.symm).1;omega)).trans (h.block i hi hn)⟩
theorem IC:(O.info? 124).map (fun i=>(i.zero,i.size,i.bytes))=I (I (sP #[Y tC 0,tL N,J G 0 0]),3,40):=by
 kernel_rfl
theorem TN{w:F}{o:rK}{a:Act}{K:Act->F->Prop}{Q:Exit->Act->F->Prop}(s x:rG)(ho:o.op=.call {callee:=.builtin .append,args:=#[s,x],argTypes:=#[42,42]})(base:Nat)(v:H)(l:List kD)(hs:a.eval s=v)(hown:JL base w v l)(vo:H)(p:kD)(hk:XU w vo p.other)(nb:Nat)(hb:∀j u,[Y tC p.bit,tL p.right,vo][j]?=I u->w.cell? ⟨nb,j,G⟩=I u)(hx:a.eval x=J (I ⟨nb,0,G⟩) 1 1)(hl:(l.length+1)*40<=140737488355328)(hbase:base<=w.heap.size)(h:∀v' w',JL base w' v' (l++[p])->L w w' v.ownBlock->K (a.put o.dst v') w'):o.wp O a w K Q:=by
 obtain⟨i0,hi,hz0,hz1,hz2⟩:=r7 IC;have hrow:=hown.row;obtain⟨us,hul,hr,hp,_⟩:=hown;refine wp_append_own w s x 42 ho base 124 i0 (sP #[Y tC 0,tL N,J G 0 0]) 3 40 Tryz.underlying42 hi hz0 hz1 hz2 rfl (by decide) v l.length (Uj us) hs hr ⟨nb,0,G⟩ 1 1 (Uj [(p,vo)]) hx rfl ?_ ?_ (by unfold r8;omega) hl hbase ?_;·intro j u hj;rw[Z7,sM];exact hb j u (by simpa[Uj]using hj)
 ·intro u hu;exact LN _ u hu fun y hy=>by simp at hy;subst hy;exact RK hk
 ·intro v' w' h1 h2 _;refine h _ w' ⟨us++[(p,vo)],by simp[hul],?_,?_,fun e=>by simp at e⟩ h2;(·rw[Ms,tB];exact h1);·intro y hy;rcases tZ.1 hy with hy|hy;(·exact(hp y hy).kept h2 hrow);·simp at hy;subst hy;exact hk.kept h2 hrow
theorem jX{w:F}{ops:Array rK}{rest:List rK}{o:rK}{a:Act}{Q:Exit->Act->F->Prop}(hgd:o.guard=G)(s x:rG)(ho:o.op=.call {callee:=.builtin .append,args:=#[s,x],argTypes:=#[42,42]})(base:Nat)(v:H)(l:List kD)(hs:a.eval s=v)(hown:JL base w v l)(vo:H)(p:kD)(hk:XU w vo p.other)(nb:Nat)(hb:∀j u,[Y tC p.bit,tL p.right,vo][j]?=I u->w.cell? ⟨nb,j,G⟩=I u)(hx:a.eval x=J (I ⟨nb,0,G⟩) 1 1)(hl:(l.length+1)*40<=140737488355328)(hbase:base<=w.heap.size)(h:∀v' w',JL base w' v' (l++[p])->L w w' v.ownBlock->wpList O ops Q rest (a.put o.dst v') w'):wpList O ops Q (o::rest) a w:=wpList_plain hgd fun _ hK=>TN s x ho base v l hs hown vo p hk nb hb hx hl hbase fun v' w' h1 h2=>hK _ _ (h v' w' h1 h2)
theorem LQ{w:F}{nb:Nat}{p:kD}{vo:H}{t:tX}(h:w.heap[nb]?=I (S #[Y tC p.bit,tL p.right,vo] t)):∀j u,[Y tC p.bit,tL p.right,vo][j]?=I u->w.cell? ⟨nb,j,G⟩=I u:=by
 intro j u hj;simp[tS,h];simpa using hj
def dQ:H->Nat|J _ n _=>n|_=>0
def vP(t:tX):Prop:=t=90∨t=48∨t=188∨t=31∨t=3
def Sm(B:Nat)(w:F)(i:Nat):Prop:=i<B∨∀cs t fz,w.heap[i]?=I (S cs t fz)->(¬vP t∨∃q,cs[0]?=I (Y pJ q))
structure Kp (B : Nat) (w w' : F) : Prop where
  os : w'.os = w.os
  tape : w'.tape = w.tape
  output : w'.output = w.output
  size : w.heap.size <= w'.heap.size
  keep : ∀ i, i < w.heap.size -> Sm B w i -> w'.heap[i]? = w.heap[i]?
theorem Kp.refl(B:Nat)(w:F):Kp B w w:=⟨rfl,rfl,rfl,tY _,fun _ _ _=>rfl⟩
theorem Sm.same{B:Nat}{w w':F}{i:Nat}(h:Sm B w i)(e:w'.heap[i]?=w.heap[i]?):Sm B w' i:=by
 rcases h with h|h;·exact .inl h
 ·exact .inr fun cs t fz hc=>h cs t fz (by rw[<-e];exact hc)
theorem Kp.trans{B:Nat}{w w1 w2:F}(h:Kp B w w1)(k:Kp B w1 w2):Kp B w w2:=⟨k.os.trans h.os,k.tape.trans h.tape,k.output.trans h.output,tN h.size k.size,fun i hi hs=>by
 have e:=h.keep i hi hs;exact(k.keep i (tG hi h.size) (hs.same e)).trans e⟩
theorem Kp.grown{B:Nat}{w w':F}(h:L w w' G):Kp B w w':=⟨h.os,h.tape,h.output,h.size,fun i hi _=>h.block i hi (by
 simp)⟩
theorem Kp.turn{B:Nat}{w w':F}{g:Nat}{cs:Array H}{t:tX}{fz:Nat×Nat}(h:L w w' (I g))(hB:B<=g)(hb:w.heap[g]?=I (S cs t fz))(ht:vP t)(h0:∀q,cs[0]?≠I (Y pJ q)):Kp B w w':=⟨h.os,h.tape,h.output,h.size,fun i hi hs=>by
 refine h.block i hi fun e=>?_;cases e;rcases hs with hs|hs;·omega
 ·rcases hs cs t fz hb with h1|⟨q,h1⟩;(·exact h1 ht);·exact h0 q h1⟩
theorem Kp.low{B:Nat}{w w':F}(h:Kp B w w')(w0:F)(hg:L w0 w G)(hB:w0.heap.size<=B):L w0 w' G:=⟨h.os.trans hg.os,h.tape.trans hg.tape,h.output.trans hg.output,tN hg.size h.size,fun i hi hn=>(h.keep i (tG hi hg.size) (.inl (by
 omega))).trans (hg.block i hi hn)⟩
def VJ(t:tX):Prop:=t=5∨t=44∨t=64∨t=178∨t=198∨t=124
def qW(t:tX):Prop:=¬VJ t
theorem vP.two{t:tX}(h:vP t):qW t:=by
 rcases h with rfl|rfl|rfl|rfl|rfl<;>simp[qW,VJ]
def Me(B:Nat)(w:F)(i:Nat):Prop:=i<B∨∀cs t fz,w.heap[i]?=I (S cs t fz)->(¬qW t∨∃q,cs[0]?=I (Y pJ q))
structure CJ (B : Nat) (w w' : F) : Prop where
  os : w'.os = w.os
  tape : w'.tape = w.tape
  output : w'.output = w.output
  size : w.heap.size <= w'.heap.size
  keep : ∀ i, i < w.heap.size -> Me B w i -> w'.heap[i]? = w.heap[i]?
theorem Kp.two{B C:Nat}{w w':F}(h:Kp B w w')(hC:C<=B):CJ C w w':=⟨h.os,h.tape,h.output,h.size,fun i hi hs=>h.keep i hi (by
 rcases hs with hs|hs;·exact .inl (tG hs hC)
 ·exact .inr fun cs t fz hc=>(hs cs t fz hc).imp (fun h1 h2=>h1 h2.two) id)⟩
theorem CJ.refl(B:Nat)(w:F):CJ B w w:=⟨rfl,rfl,rfl,tY _,fun _ _ _=>rfl⟩
theorem Me.same{B:Nat}{w w':F}{i:Nat}(h:Me B w i)(e:w'.heap[i]?=w.heap[i]?):Me B w' i:=by
 rcases h with h|h;·exact .inl h
 ·exact .inr fun cs t fz hc=>h cs t fz (by rw[<-e];exact hc)
theorem CJ.trans{B:Nat}{w w1 w2:F}(h:CJ B w w1)(k:CJ B w1 w2):CJ B w w2:=⟨k.os.trans h.os,k.tape.trans h.tape,k.output.trans h.output,tN h.size k.size,fun i hi hs=>by
 have e:=h.keep i hi hs;exact(k.keep i (tG hi h.size) (hs.same e)).trans e⟩
theorem CJ.grown{B:Nat}{w w':F}(h:L w w' G):CJ B w w':=⟨h.os,h.tape,h.output,h.size,fun i hi _=>h.block i hi (by
 simp)⟩
def SI(w:F)(i:Nat):Prop:=∀cs t fz,w.heap[i]?=I (S cs t fz)->(VJ t∨t=48∨∃q,cs[0]?=I (Y pJ q))
structure KL (w w' : F) : Prop where
  os : w'.os = w.os
  tape : w'.tape = w.tape
  output : w'.output = w.output
  size : w.heap.size <= w'.heap.size
  keep : ∀ i, i < w.heap.size -> SI w i -> w'.heap[i]? = w.heap[i]?
theorem KL.two{w w':F}(h:KL w w'):CJ 0 w w':=⟨h.os,h.tape,h.output,h.size,fun i hi hs=>h.keep i hi fun cs t fz hc=>by
 rcases hs with hs|hs;·omega
 ·rcases hs cs t fz hc with h1|h1;(·exact .inl (sQ h1));·exact .inr (.inr h1)⟩
theorem KL.refl(w:F):KL w w:=⟨rfl,rfl,rfl,tY _,fun _ _ _=>rfl⟩
theorem SI.same{w w':F}{i:Nat}(h:SI w i)(e:w'.heap[i]?=w.heap[i]?):SI w' i:=fun cs t fz hc=>h cs t fz (by
 rw[<-e];exact hc)
theorem KL.trans{w w1 w2:F}(h:KL w w1)(k:KL w1 w2):KL w w2:=⟨k.os.trans h.os,k.tape.trans h.tape,k.output.trans h.output,tN h.size k.size,fun i hi hs=>by
 have e:=h.keep i hi hs;exact(k.keep i (tG hi h.size) (hs.same e)).trans e⟩
theorem KL.grown{w w':F}(h:L w w' G):KL w w':=⟨h.os,h.tape,h.output,h.size,fun i hi _=>h.block i hi (by
 simp)⟩
theorem KL.turn{w w':F}{row:Option Nat}(h:L w w' row)(hr:∀g,row=I g->∃cs t fz,w.heap[g]?=I (S cs t fz)∧¬VJ t∧t≠48∧∀q,cs[0]?≠I (Y pJ q)):KL w w':=⟨h.os,h.tape,h.output,h.size,fun i hi hs=>by
 refine h.block i hi fun e=>?_;obtain⟨cs,t,fz,hb,h1,h2,h3⟩:=hr i e.symm;rcases hs cs t fz hb with h4|h4|⟨q,h4⟩;·exact h1 h4
 ·exact h2 h4
 ·exact h3 q h4⟩
def JZ(w:F)(P:F->Prop):Prop:=∀w',KL w w'->P w'
theorem JZ.now{w:F}{P:F->Prop}(h:JZ w P):P w:=h w (KL.refl w)
theorem JZ.later{w w':F}{P:F->Prop}(h:JZ w P)(k:KL w w'):JZ w' P:=fun w2 k2=>h w2 (k.trans k2)
theorem JZ.grown{w w':F}{P:F->Prop}(h:JZ w P)(k:L w w' G):JZ w' P:=h.later (KL.grown k)
def Jm(w:F)(P:F->Prop):Prop:=∀w',L w w' G->P w'
theorem Jm.now{w:F}{P:F->Prop}(h:Jm w P):P w:=h w (Qb w G)
theorem Jm.grown{w w':F}{P:F->Prop}(h:Jm w P)(k:L w w' G):Jm w' P:=fun w2 k2=>h w2 (Qa k k2)
def Zc(B:Nat)(w:F)(P:F->Prop):Prop:=∀w',CJ B w w'->P w'
theorem Zc.now{B:Nat}{w:F}{P:F->Prop}(h:Zc B w P):P w:=h w (CJ.refl B w)
theorem Zc.later{B C:Nat}{w w':F}{P:F->Prop}(h:Zc C w P)(k:Kp B w w')(hC:C<=B:=by
 first|exact Nat.zero_le _|exact Nat.le_refl _):Zc C w' P:=fun w2 k2=>h w2 ((k.two hC).trans k2)
theorem Zc.later2{C:Nat}{w w':F}{P:F->Prop}(h:Zc C w P)(k:CJ C w w'):Zc C w' P:=fun w2 k2=>h w2 (k.trans k2)
theorem Zc.grown{C:Nat}{w w':F}{P:F->Prop}(h:Zc C w P)(k:L w w' G):Zc C w' P:=h.later2 (CJ.grown k)
theorem Zc.mono{B:Nat}{w:F}{P Q:F->Prop}(h:Zc B w P)(k:∀w',P w'->Q w'):Zc B w Q:=fun w' h'=>k w' (h w' h')
theorem Vl{w w':F}{v:H}{bs:List UInt8}(h:Qe w v bs)(hb:bs=[]∨∃b,v.ownBlock=I b∧w'.heap[b]?=w.heap[b]?):Qe w' v bs:=by
 obtain⟨a,cap,rfl,hc,h⟩:=h;refine⟨a,cap,rfl,hc,?_⟩;rcases h with h|⟨b,o,rfl,h⟩;·exact .inl h
 ·refine .inr ⟨b,o,rfl,fun i hi=>?_⟩;rcases hb with rfl|⟨b',e,hb⟩;(·simp at hi);·simp[pF]at e;subst e;rw[sJ hb];exact h i hi
theorem gD:¬qW 5:=by
 simp[qW,VJ]
theorem ZY{B:Nat}{w:F}{v:H}{bs:List UInt8}(h:Qi 0 w v bs):Zc B w (fun w=>Qi 0 w v bs):=fun w' k=>by
 obtain⟨h1,h2⟩:=h;rcases h2 with h2|⟨b,e,hl,h2⟩;·exact⟨Vl h1 (.inl h2),.inl h2⟩
 ·(obtain⟨cur,fz,h2⟩:∃cur fz,w.heap[b]?=I (S cur 5 fz):=by rcases h2 with h2|h2;(·omega);·exact h2);have hs:w'.heap[b]?=w.heap[b]?:=k.keep b hl (.inr fun cs t f hc=>.inl (by rw[h2]at hc;simp only[tA,tW]at hc;rw[<-hc.2.1];exact gD));exact⟨Vl h1 (.inr ⟨b,e,hs⟩),.inr ⟨b,e,tG hl k.size,.inr ⟨cur,fz,by rw[hs];exact h2⟩⟩⟩
theorem Gd{B:Nat}{w:F}{v:H}{bs:List UInt8}(h:XU w v bs):Zc B w (fun w=>XU w v bs):=fun w' k=>by
 obtain⟨h1,h2⟩:=h;rcases h2 with h2|⟨b,e,hl,cur,t,fz,h2,h3⟩;·exact⟨Vl h1 (.inl h2),.inl h2⟩
 ·have hs:w'.heap[b]?=w.heap[b]?:=k.keep b hl (.inr fun cs t' f hc=>by rw[h2]at hc;simp only[tA,tW]at hc;obtain⟨rfl,rfl,_⟩:=hc;rcases h3 with rfl|h3;(·exact .inl gD);·exact .inr h3);exact⟨Vl h1 (.inr ⟨b,e,hs⟩),.inr ⟨b,e,tG hl k.size,cur,t,fz,by rw[hs];exact h2,h3⟩⟩
theorem UK{B base:Nat}{w:F}{t:tX}{n m:Nat}{v:H}{xs:List H}(h:w.ownsRow base t n v m xs)(ht:¬qW t):Zc B w (fun w=>w.ownsRow base t n v m xs):=fun w' k=>by
 refine⟨h.1,?_⟩;rcases h.2with h|⟨g,cap,cur,e,hb,hg,rest⟩;·exact .inl h
 ·refine .inr ⟨g,cap,cur,e,hb,?_,rest⟩;rw[k.keep g (tI.1 hg).1 (.inr fun cs t' f hc=>.inl (by rw[hg]at hc;simp only[tA,tW]at hc;rw[<-hc.2.1];exact ht))];exact hg
theorem BN{B rb:Nat}{w:F}{v:H}{l:List Rd}(h:ZK rb 0 w v l):Zc B w (fun w=>ZK rb 0 w v l):=fun w' k=>by
 obtain⟨us,h1,h2,h3⟩:=h;exact⟨us,h1,UK h2 (by simp[qW,VJ]) w' k,fun x hx=>⟨ZY (h3 x hx).1 w' k,ZY (h3 x hx).2.1 w' k,ZY (h3 x hx).2.2 w' k⟩⟩
theorem Bh{B rb:Nat}{w:F}{v:H}{l:List Zf}(h:Q6 rb 0 w v l):Zc B w (fun w=>Q6 rb 0 w v l):=fun w' k=>by
 obtain⟨us,h1,h2,h3⟩:=h;exact⟨us,h1,UK h2 (by simp[qW,VJ]) w' k,fun x hx=>⟨ZY (h3 x hx).1 w' k,ZY (h3 x hx).2.1 w' k,ZY (h3 x hx).2.2 w' k⟩⟩
theorem Vp{B:Nat}{w:F}{v:H}{l:PL}(h:QN 0 w v l):Zc B w (fun w=>QN 0 w v l):=fun w' k=>by
 obtain⟨a,cap,rfl,hc,h⟩:=h;refine⟨a,cap,rfl,hc,?_⟩;rcases h with h|⟨b,o,rfl,hb,h⟩;·exact .inl h
 ·(obtain⟨cur,fz,hb⟩:∃cur fz,w.heap[b]?=I (S cur 44 fz):=by rcases hb with hb|hb;(·omega);·exact hb);have hs:w'.heap[b]?=w.heap[b]?:=k.keep b (tI.1 hb).1 (.inr fun cs t f hc=>.inl (by rw[hb]at hc;simp only[tA,tW]at hc;rw[<-hc.2.1];simp[qW,VJ]));refine .inr ⟨b,o,rfl,.inr ⟨cur,fz,by rw[hs];exact hb⟩,fun i hi=>?_⟩;obtain⟨vk,vv,c1,c2,h1,h2⟩:=h i hi;exact⟨vk,vv,by rw[sJ hs];exact c1,by rw[sJ hs];exact c2,ZY h1 w' k,ZY h2 w' k⟩
theorem Bp{B rb:Nat}{w:F}{v:H}{l:FL}(h:Zy rb w v l):Zc B w (fun w=>Zy rb w v l):=fun w' k=>by
 obtain⟨vs,h1,h2,h3⟩:=h;exact⟨vs,h1,UK h2 (by simp[qW,VJ]) w' k,fun i hi=>⟨ZY (h3 i hi).1 w' k,Vp (h3 i hi).2 w' k⟩⟩
theorem Rt{B:Nat}{w:F}{v:H}{l:List Zf}(h:Xm 0 w v l):Zc B w (fun w=>Xm 0 w v l):=fun w' k=>by
 obtain⟨a,cap,rfl,hc,h⟩:=h;refine⟨a,cap,rfl,hc,?_⟩;rcases h with h|⟨b,o,rfl,hb,h⟩;·exact .inl h
 ·(obtain⟨cur,fz,hb⟩:∃cur fz,w.heap[b]?=I (S cur 178 fz):=by rcases hb with hb|hb;(·omega);·exact hb);have hs:w'.heap[b]?=w.heap[b]?:=k.keep b (tI.1 hb).1 (.inr fun cs t f hc=>.inl (by rw[hb]at hc;simp only[tA,tW]at hc;rw[<-hc.2.1];simp[qW,VJ]));refine .inr ⟨b,o,rfl,.inr ⟨cur,fz,by rw[hs];exact hb⟩,fun i hi=>?_⟩;obtain⟨vn,vk,vv,c1,c2,c3,c4,h1,h2,h3⟩:=h i hi;exact⟨vn,vk,vv,by rw[sJ hs];exact c1,by rw[sJ hs];exact c2,by rw[sJ hs];exact c3,by rw[sJ hs];exact c4,ZY h1 w' k,ZY h2 w' k,ZY h3 w' k⟩
theorem vR{B:Nat}{w:F}{v:H}{t:Tx}(h:Gx w v t):Zc B w (fun w=>Gx w v t):=fun w' k=>by
 obtain⟨vr,vw,rfl,h1,h2⟩:=h;exact⟨vr,vw,rfl,BN h1 w' k,Bh h2 w' k⟩
theorem Ay{B base:Nat}{w:F}{v:H}{l:List kD}(h:JL base w v l):Zc B w (fun w=>JL base w v l):=fun w' k=>by
 obtain⟨us,h1,h2,h3,h4⟩:=h;exact⟨us,h1,UK h2 (by simp[qW,VJ]) w' k,fun x hx=>Gd (h3 x hx) w' k,h4⟩
theorem xN{B n:Nat}{w:F}{v:H}{p:Dj}(h:Zw n w v p):Zc B w (fun w=>KH w v p):=fun w' k=>by
 obtain⟨base,vs,vk,vv,rfl,_,_,h1,h2,h3⟩:=h;exact⟨vs,vk,vv,rfl,(Ay h1 w' k).list,(Gd h2 w' k).1,(Gd h3 w' k).1⟩
section
section
variable{α:Type}{T:tX}{k:Nat}{P:F->List H->α->Prop}{B:Nat}{w w':F}{v:H}{l:List α}
def JA(T:tX)(k:Nat)(P:F->List H->α->Prop)(B:Nat)(w:F)(v:H)(l:List α):Prop:=∃us:List (List H×α),us.map (·.2)=l∧w.ownsRow B T k v l.length (us.flatMap (·.1))∧(l=[]->v=J G 0 0)∧∀x∈us,x.1.length=k∧(∀u∈x.1,u.oneCell'=M)∧(∀q,x.1[0]?≠I (Y pJ q))∧Zc 0 w (fun w=>P w x.1 x.2)
theorem uS(T:tX)(k:Nat)(P:F->List H->α->Prop)(B:Nat)(w:F):JA T k P B w (J G 0 0) []:=⟨[],rfl,sL _ _ _ _,fun _=>rfl,fun x hx=>by
 simp at hx⟩
theorem JA.kept(h:JA T k P B w v l)(hk:Kp B w w')(hs:∀g,v.ownBlock=I g->w'.heap[g]?=w.heap[g]?):JA T k P B w' v l:=by
 obtain⟨us,h1,h2,h3,h4⟩:=h;refine⟨us,h1,⟨h2.1,?_⟩,h3,fun x hx=>⟨(h4 x hx).1,(h4 x hx).2.1,(h4 x hx).2.2.1,(h4 x hx).2.2.2.later hk⟩⟩;rcases h2.2with h|⟨g,cap,cur,rfl,hb,hg,rest⟩;·exact .inl h
 ·exact .inr ⟨g,cap,cur,rfl,hb,by rw[hs g rfl];exact hg,rest⟩
theorem JA.kept2(h:JA T k P B w v l)(hk:CJ 0 w w')(hs:∀g,v.ownBlock=I g->w'.heap[g]?=w.heap[g]?):JA T k P B w' v l:=by
 obtain⟨us,h1,h2,h3,h4⟩:=h;refine⟨us,h1,⟨h2.1,?_⟩,h3,fun x hx=>⟨(h4 x hx).1,(h4 x hx).2.1,(h4 x hx).2.2.1,(h4 x hx).2.2.2.later2 hk⟩⟩;rcases h2.2with h|⟨g,cap,cur,rfl,hb,hg,rest⟩;·exact .inl h
 ·exact .inr ⟨g,cap,cur,rfl,hb,by rw[hs g rfl];exact hg,rest⟩
theorem JA.lt(h:JA T k P B w v l):∀g,v.ownBlock=I g->B<=g∧g<w.heap.size:=by
 obtain⟨us,h1,h2,h3,h4⟩:=h;exact sF h2
theorem JA.grown(h:JA T k P B w v l)(hg:L w w' G):JA T k P B w' v l:=h.kept (Kp.grown hg) fun g e=>hg.block g (h.lt g e).2 (by
 simp)
theorem JA.shape(h:JA T k P B w v l):∃a cap,v=J a l.length cap:=by
 obtain⟨us,_,h,_⟩:=h;rcases h.2with⟨rfl,h0⟩|⟨g,cap,cur,rfl,_⟩;·exact⟨G,0,by rw[h0]⟩
 ·exact⟨_,cap,rfl⟩
theorem SD{k:Nat}:∀(us:List (List H×α))(_:∀x∈us,x.1.length=k)(i:Nat)(hi:i<us.length)(j:Nat),j<k->(us.flatMap (·.1))[i*k+j]?=us[i].1[j]?|[],_,i,hi,_,_=>by simp at hi|x::us,hk,0,_,j,hj=>by have:=hk x (by simp);simp[pH (show j<x.1.length by omega)]|x::us,hk,i+1,hi,j,hj=>by have hx:=hk x (by simp);have:=SD us (fun y hy=>hk y (by simp[hy])) i (by simpa using hi) j hj;rw[tM,List.getElem?_append_right (by rw[hx,rX];omega),hx,show(i+1)*k+j-k=i*k+j by rw[rX];omega,this];simp
theorem JA.blk(hk0:0<k)(h:JA T k P B w v l):v.ownBlock=G∨∃g cs,v.ownBlock=I g∧B<=g∧w.heap[g]?=I (S cs T (0,0))∧∀q,cs[0]?≠I (Y pJ q):=by
 obtain⟨us,h1,h2,h3,h4⟩:=h;rcases h2.2with⟨rfl,_⟩|⟨g,cap,cur,rfl,hb,hg,hn,_,hcs,ht⟩;·exact .inl rfl
 ·refine .inr ⟨g,cur,rfl,hb,hg,fun q hq=>?_⟩;cases us with|nil=>subst h1;have:=h3 rfl;cases this|cons x us=>(have hl:l.length=us.length+1:=by rw[<-h1];simp);(have e:(cur.toList.take (l.length*k))[0]?=((x::us).flatMap (·.1))[0]?:=by rw[ht]);have hx:=(h4 x (by simp)).1;rw[sB,if_pos (by rw[hl,rX];omega),tM,pH (by omega),rY,hq]at e;exact(h4 x (by simp)).2.2.1 q e.symm
theorem JA.turn(hk0:0<k)(hT:vP T)(h:JA T k P B w v l)(hg:L w w' v.ownBlock):Kp B w w':=by
 rcases h.blk hk0 with e|⟨g,cs,e,hb,hc,h0⟩;·rw[e]at hg;exact Kp.grown hg
 ·rw[e]at hg;exact Kp.turn hg hb hc hT h0
theorem JA.other(hk0:0<k)(h:JA T k P B w v l){row:Option Nat}(hk:Kp B w w')(hg:L w w' row)(hr:row=G∨∃g cs t fz,row=I g∧w.heap[g]?=I (S cs t fz)∧t≠T):JA T k P B w' v l:=by
 refine h.kept hk fun g e=>?_;refine hg.block g (h.lt g e).2 fun e2=>?_;rcases hr with rfl|⟨g',cs,t,fz,rfl,hc,ht⟩;·cases e2
 ·cases e2;rcases h.blk hk0 with e3|⟨g2,cs2,e3,_,hc2,_⟩;(·rw[e3]at e;cases e);·rw[e3]at e;cases e;rw[hc]at hc2;simp only[tA,tW]at hc2;exact ht hc2.2.1
theorem JA.at(h:JA T k P B w v l)(d:α)(i:Nat)(hi:i<l.length):∃g cap cs,v=J (I ⟨g,0,G⟩) l.length cap∧cs.length=k∧l.length<=cap∧(∀j,j<k->w.cell? ⟨g,i*k+j,G⟩=cs[j]?)∧Zc 0 w (fun w=>P w cs (l.getD i d)):=by
 obtain⟨us,h1,h2,h3,h4⟩:=h;have hul:us.length=l.length:=by rw[<-h1];simp
 rcases h2.2with⟨rfl,h0⟩|⟨g,cap,cur,rfl,hb,hg,hn,_,hcs,ht⟩;·omega
 ·have hx:=h4 us[i] (sN (by omega));refine⟨g,cap,us[i].1,rfl,hx.1,hn,fun j hj=>?_,?_⟩;(·(have e:(cur.toList.take (l.length*k))[i*k+j]?=(us.flatMap (·.1))[i*k+j]?:=by rw[ht]);(have hlt:i*k+j<l.length*k:=by have:(i+1)*k<=l.length*k:=pB k hi;rw[rX]at this;omega);rw[SD us (fun x hx=>(h4 x hx).1) i (by omega) j hj,sB,if_pos hlt,rY]at e;simp[tS,hg,e]);·(have e:l.getD i d=us[i].2:=by subst h1;simp[List.getD,show i<us.length by omega]);rw[e];exact hx.2.2.2
theorem xM{o:rK}{a:Act}{K:Act->F->Prop}{Q:Exit->Act->F->Prop}(s x:rG)(t:tX)(ho:o.op=.call {callee:=.builtin .append,args:=#[s,x],argTypes:=#[t,t]})(i:TypeInfo)(z:H)(bytes:Nat)(ht:O.underlying t=I (.slice T))(hi:O.info? T=I i)(hz:i.zero=I z)(hsize:i.size=k)(hby:i.bytes=bytes)(hzs:z.cells.size=k)(hsz:0<k)(hT:vP T)(hs:a.eval s=v)(hown:JA T k P B w v l)(nb:Nat)(cs:List H)(y:α)(hx:a.eval x=J (I ⟨nb,0,G⟩) 1 1)(hcl:cs.length=k)(hc:∀j u,cs[j]?=I u->w.cell? ⟨nb,j,G⟩=I u)(h1:∀u∈cs,u.oneCell'=M)(h0:∀q,cs[0]?≠I (Y pJ q))(hP:Zc 0 w (fun w=>P w cs y))(h63:l.length+1<=r8)(hbytes:(l.length+1)*bytes<=140737488355328)(hbase:B<=w.heap.size)(h:∀v' w',JA T k P B w' v' (l++[y])->Kp B w w'->L w w' v.ownBlock->K (a.put o.dst v') w'):o.wp O a w K Q:=by
 have hown0:=hown;obtain⟨us,e1,h2,h3,h4⟩:=hown;refine wp_append_lies w s x t ho B T i z k bytes ht hi hz hsize hby hzs hsz v l.length (us.flatMap (·.1)) hs h2 ⟨nb,0,G⟩ 1 1 cs hx (by omega) (fun j u hj=>by rw[Z7,sM];exact hc j u hj) h1 (by omega) h63 hbytes hbase _ rfl ?_;intro g cap w' hr hg hgg hlt;have hk:=hown0.turn hsz hT hg;refine h _ w' ⟨us++[(cs,y)],by simp[e1],?_,fun e=>by simp at e,fun x hx=>?_⟩ hk hg;·simpa[List.flatMap_append]using hr
 ·rcases tZ.1 hx with hx|hx;(·exact⟨(h4 x hx).1,(h4 x hx).2.1,(h4 x hx).2.2.1,(h4 x hx).2.2.2.later hk⟩);·(obtain rfl:x=(cs,y):=by simpa using hx);exact⟨hcl,h1,h0,hP.later hk⟩
theorem JA.take(h:JA T k P B w v l){a:Option sY}{n cap:Nat}(hv:v=J a n cap)(m:Nat)(hm:m<=l.length)(h0:0<m):JA T k P B w (J a m cap) (l.take m):=by
 subst hv;obtain⟨us,h1,h2,h3,h4⟩:=h;have hul:us.length=l.length:=by rw[<-h1];simp
 have hlm:(l.take m).length=m:=by simp;omega
 rcases h2.2with⟨e,h0'⟩|⟨g,cp,cur,e,hb,hg,hn,hmx,hcs,ht⟩;·omega
 ·simp only[tH]at e;obtain⟨rfl,rfl,rfl⟩:=e;(have hfl:(us.take m).flatMap (·.1)=(us.flatMap (·.1)).take (m*k):=by(have hk:∀(vs:List (List H×α)),(∀x∈vs,x.1.length=k)->∀m,(vs.take m).flatMap (·.1)=(vs.flatMap (·.1)).take (m*k):=by intro vs;induction vs with|nil=>intro _ m;simp|cons x vs ih=>intro hx m;cases m with|zero=>simp|succ m=>have:=hx x (by simp);rw[rB,tM,tM,ih (fun y hy=>hx y (by simp[hy])) m,List.take_append,this,rX,show m*k+k-k=m*k by omega,List.take_of_length_le (l:=x.1) (by omega)]);exact hk us (fun x hx=>(h4 x hx).1) m);refine⟨us.take m,by rw[<-h1,List.map_take],⟨?_,.inr ⟨g,cap,cur,by rw[hlm],hb,hg,by omega,hmx,hcs,?_⟩⟩,fun e=>?_,fun x hx=>h4 x (List.mem_of_mem_take hx)⟩;(·rw[hfl,rW,h2.1,hlm];have:m*k<=l.length*k:=pB k hm;omega);(·rw[hlm,hfl,<-ht,pX];have:m*k<=l.length*k:=pB k hm;rw[pY this]);·rw[e]at hlm;simp at hlm;omega
end
end
theorem PM:(188:Nat)≠5:=by
 decide
theorem yT:(188:Nat)≠178:=by
 decide
def Dm(w:F)(b o:Nat)(c:XA):Prop:=∃vs,w.cell? ⟨b,o,G⟩=I (Y tC c.turn)∧w.cell? ⟨b,o+1,G⟩=I vs∧QQ w vs c.writes
theorem Dm.grown{w w':F}{b o:Nat}{c:XA}(h:Dm w b o c)(hg:L w w' G):Dm w' b o c:=by
 obtain⟨vs,c1,c2,h⟩:=h;exact⟨vs,hg.cell c1 (by simp),hg.cell c2 (by simp),h.grown hg⟩
def Jc(w:F)(v:H)(l:List XA):Prop:=∃a cap,v=J a l.length cap∧l.length<=cap∧((l=[]∧(a=G->cap=0))∨∃b o,a=I ⟨b,o,G⟩∧∀i,i<l.length->Dm w b (o+i*2) (l.getD i Zl))
theorem RG(w:F):Jc w (J G 0 0) []:=⟨G,0,rfl,tY _,.inl ⟨rfl,fun _=>rfl⟩⟩
theorem Jc.shape{w:F}{v:H}{l:List XA}(h:Jc w v l):∃a cap,v=J a l.length cap:=by
 obtain⟨a,cap,rfl,_⟩:=h;exact⟨a,cap,rfl⟩
theorem Jc.grown{w w':F}{v:H}{l:List XA}(h:Jc w v l)(hg:L w w' G):Jc w' v l:=by
 obtain⟨a,cap,rfl,hc,h⟩:=h;refine⟨a,cap,rfl,hc,?_⟩;rcases h with h|⟨b,o,rfl,h⟩;·exact .inl h
 ·exact .inr ⟨b,o,rfl,fun i hi=>(h i hi).grown hg⟩
theorem Jc.at{w:F}{a:Option sY}{n cap:Nat}{l:List XA}(h:Jc w (J a n cap) l)(i:Nat)(hi:i<l.length):∃b o,a=I ⟨b,o,G⟩∧Dm w b (o+i*2) (l.getD i Zl):=by
 obtain⟨a',cap',e,hc,h⟩:=h;simp only[tH]at e;obtain⟨rfl,rfl,rfl⟩:=e;rcases h with⟨rfl,_⟩|⟨b,o,rfl,h⟩;·simp at hi
 ·exact⟨b,o,rfl,h i hi⟩
structure Bi (l : List XA) : Prop where
  many : l.length * 32 <= 140737488355328
  each : ∀ i, i < l.length -> EO (l.getD i Zl)
abbrev CV:=XA×H
def jC(us:List CV):List H:=us.flatMap fun x=>[Y tC x.1.turn,x.2]
theorem Nm(a b:List CV):jC (a++b)=jC a++jC b:=by
 simp[jC]
theorem cR:(O.info? 188).map (fun i=>(i.zero,i.size,i.bytes))=I (I (sP #[Y tC 0,J G 0 0]),2,32):=by
 kernel_rfl
def Y6(base:Nat)(w:F)(v:H)(l:List XA):Prop:=∃us:List CV,us.map (·.1)=l∧w.ownsRow base 188 2 v l.length (jC us)∧(l=[]->v=J G 0 0)∧∀x∈us,Xm 0 w x.2 x.1.writes
theorem Dr(base:Nat)(w:F):Y6 base w (J G 0 0) []:=⟨[],rfl,sL _ _ _ _,fun _=>rfl,fun x hx=>by
 simp at hx⟩
theorem Y6.row{base:Nat}{w:F}{v:H}{l:List XA}(h:Y6 base w v l):v.ownBlock=G∨∃g cur t fz,v.ownBlock=I g∧base<=g∧w.heap[g]?=I (S cur t fz)∧t≠5∧t≠178:=by
 obtain⟨us,_,h,_⟩:=h;rcases h.2with⟨rfl,_⟩|⟨g,cap,cur,rfl,hb,hg,_⟩;·exact .inl rfl
 ·exact .inr ⟨g,cur,_,_,rfl,hb,hg,PM,yT⟩
theorem Y6.row0{base:Nat}{w:F}{v:H}{l:List XA}(h:Y6 base w v l):v.ownBlock=G∨∃g cur t fz,v.ownBlock=I g∧0<=g∧w.heap[g]?=I (S cur t fz)∧t≠5∧t≠178:=by
 rcases h.row with h|⟨g,cur,t,fz,h1,_,h2⟩;·exact .inl h
 ·exact .inr ⟨g,cur,t,fz,h1,tR _,h2⟩
theorem Y6.lt{base:Nat}{w:F}{v:H}{l:List XA}(h:Y6 base w v l):∀k,v.ownBlock=I k->base<=k∧k<w.heap.size:=by
 obtain⟨us,_,h,_⟩:=h;exact sF h
theorem Y6.grownNone{base:Nat}{w w':F}{v:H}{l:List XA}(h:Y6 base w v l)(hg:L w w' G):Y6 base w' v l:=by
 obtain⟨us,h1,h2,h0,h3⟩:=h;refine⟨us,h1,tU h2 hg ?_,h0,fun x hx=>(h3 x hx).kept hg (.inl rfl)⟩;cases hv:v.ownBlock with|none=>exact .inl rfl|some k=>exact .inr (by simp)
theorem Y6.shape{base:Nat}{w:F}{v:H}{l:List XA}(h:Y6 base w v l):∃a cap,v=J a l.length cap:=by
 obtain⟨us,_,h,_⟩:=h;rcases h.2with⟨rfl,h0⟩|⟨g,cap,cur,rfl,_⟩;·exact⟨G,0,by rw[h0]⟩
 ·exact⟨_,cap,rfl⟩
theorem By{base:Nat}{w W w1:F}{v:H}{l:List XA}(h:L w W G)(ho:Y6 base W v l)(hb:w.heap.size<=base)(hg:L W w1 v.ownBlock):L w w1 G:=⟨hg.os.trans h.os,hg.tape.trans h.tape,hg.output.trans h.output,tN h.size hg.size,fun i hi hn=>(hg.block i (tG hi h.size) (fun e=>by
 have:=(ho.lt i e.symm).1;omega)).trans (h.block i hi hn)⟩
theorem Re{w:F}{o:rK}{a:Act}{K:Act->F->Prop}{Q:Exit->Act->F->Prop}(s x:rG)(ho:o.op=.call {callee:=.builtin .append,args:=#[s,x],argTypes:=#[81,81]})(base:Nat)(v:H)(l:List XA)(hs:a.eval s=v)(hown:Y6 base w v l)(vw:H)(c:XA)(hw:Xm 0 w vw c.writes)(nb:Nat)(hb:w.heap[nb]?=I (S #[Y tC c.turn,vw] 188))(hx:a.eval x=J (I ⟨nb,0,G⟩) 1 1)(hl:(l.length+1)*32<=140737488355328)(hbase:base<=w.heap.size)(h:∀v' w',Y6 base w' v' (l++[c])->L w w' v.ownBlock->K (a.put o.dst v') w'):o.wp O a w K Q:=by
 obtain⟨i0,hi,hz0,hz1,hz2⟩:=r7 cR;have hrow:=hown.row0;obtain⟨us,hul,hr,_,hp⟩:=hown;refine wp_append_lies w s x 81 ho base 188 i0 (sP #[Y tC 0,J G 0 0]) 2 32 Tryz.underlying81 hi hz0 hz1 hz2 rfl (by decide) v l.length (jC us) hs hr ⟨nb,0,G⟩ 1 1 (jC [(c,vw)]) hx rfl (rA (cs:=#[Y tC c.turn,vw]) hb) ?_ (by omega) (by unfold r8;omega) hl hbase _ rfl ?_;·intro u hu;simp only[jC,tM,rI,rN,tK,tQ,or_false]at hu;rcases hu with rfl|rfl;(·rfl);·exact hw.oneCell
 ·intro g cap w' q1 q2 _ _;refine h _ w' ⟨us++[(c,vw)],by simp[hul],?_,fun e=>by simp at e,?_⟩ q2;(·rw[Nm,tB];exact q1);·intro y hy;rcases tZ.1 hy with hy|hy;(·exact(hp y hy).kept q2 hrow);·simp only[tK,tQ,or_false]at hy;subst hy;exact hw.kept q2 hrow
theorem jR{w:F}{ops:Array rK}{rest:List rK}{o:rK}{a:Act}{Q:Exit->Act->F->Prop}(hgd:o.guard=G)(s x:rG)(ho:o.op=.call {callee:=.builtin .append,args:=#[s,x],argTypes:=#[81,81]})(base:Nat)(v:H)(l:List XA)(hs:a.eval s=v)(hown:Y6 base w v l)(vw:H)(c:XA)(hw:Xm 0 w vw c.writes)(nb:Nat)(hb:w.heap[nb]?=I (S #[Y tC c.turn,vw] 188))(hx:a.eval x=J (I ⟨nb,0,G⟩) 1 1)(hl:(l.length+1)*32<=140737488355328)(hbase:base<=w.heap.size)(h:∀v' w',Y6 base w' v' (l++[c])->L w w' v.ownBlock->wpList O ops Q rest (a.put o.dst v') w'):wpList O ops Q (o::rest) a w:=wpList_plain hgd fun _ hK=>Re s x ho base v l hs hown vw c hw nb hb hx hl hbase fun v' w' h1 h2=>hK _ _ (h v' w' h1 h2)
theorem Y6.ne{base:Nat}{w:F}{v:H}{l:List XA}(h:Y6 base w v l){b:Nat}{cs:Array H}{t:tX}{fz:Nat×Nat}(hb:w.heap[b]?=I (S cs t fz))(ht:t≠188):v.ownBlock≠I b:=by
 intro e;obtain⟨us,_,h,_⟩:=h;rcases h.2with⟨rfl,_⟩|⟨g,cap,cur,rfl,_,hg,_⟩;·cases e
 ·cases e;rw[hb]at hg;simp only[tA,tW]at hg;exact ht hg.2.1
theorem Y6.setOther{base:Nat}{w:F}{v:H}{l:List XA}(h:Y6 base w v l){b i:Nat}{cs:Array H}{t:tX}{fz:Nat×Nat}(hb:w.heap[b]?=I (S cs t fz))(ht:t≠5)(ht2:t≠178)(ht3:t≠188)(u:H):Y6 base (tE w ⟨b,i,G⟩ u) v l:=by
 have hne:=h.ne hb ht3;obtain⟨us,h1,h2,h0,h3⟩:=h;exact⟨us,h1,tU h2 (YJ w b i u) (.inr hne),h0,fun x hx=>(h3 x hx).kept (YJ w b i u) (.inr ⟨b,cs,t,fz,rfl,tR _,hb,ht,ht2⟩)⟩
theorem Y6.other{base:Nat}{w w':F}{v:H}{l:List XA}(h:Y6 base w v l)(hg:L w w' v.ownBlock){b:Nat}{cs:Array H}{t:tX}{fz:Nat×Nat}(hb:w.heap[b]?=I (S cs t fz))(ht:t≠188):w'.heap[b]?=I (S cs t fz):=by
 rw[hg.block b (tI.1 hb).1 (fun e=>h.ne hb ht e.symm)];exact hb
def Wa:Prop:=∀(w:F)(v u:H)(t:Tx)(r:Rd),GC w v t->zS t->Yq w u r->Pm r->sS O 107 #[v,u] w fun e w'=>∃x,e=tD (sE #[x,Y tC (Xj t r)])∧Gx w' x (XT t r)∧L w w' G
theorem Qf(w:F)(o:Obj):∃W:F,Hid (W=w.alloc o)∧L w W G∧Hid (W.heap[w.heap.size]?=I o):=⟨w.alloc o,rfl,sW _ _ _,oE w o⟩
theorem ZZ{x y:Int}(h:x=y):tD (Y tC y)=tD (Y tC x):=by
 rw[h]
theorem YL{x y:Bool}(h:x=y):tD (tL y)=tD (tL x):=by
 rw[h]
theorem Xz{W w:F}{b:Nat}{x y z:H}{t:tX}(hg:L W w G)(h:W.heap[b]?=I (S #[x,y,z] t)):w.cell? ⟨b,0,G⟩=I x∧w.cell? ⟨b,1,G⟩=I y∧w.cell? ⟨b,2,G⟩=I z:=by
 have hb:w.heap[b]?=I (S #[x,y,z] t):=by rw[hg.block b (tI.1 h).1 (by simp)];exact h
 refine⟨?_,?_,?_⟩<;>simp[tS,hb]
def Nx(p:List Rd)(r:Rd):Int:=if Xq r=0then(if p.any (fun q=>XE q r)=M then 3 else 0)else Xq r
def Mt(p:List Zf)(w:Zf):Int:=if QA w=0then(if p.any (fun q=>ZM q w)=M then 3 else 0)else QA w
theorem OP(l:List Rd)(m:Nat)(h:m<l.length):GA (l.take m) (l.drop m)=if Nx (l.take m) (l.getD m Zg)=0then GA (l.take (m+1)) (l.drop (m+1))else Nx (l.take m) (l.getD m Zg):=by
 rw[sR h,GA,sV h,show l[m]=l.getD m Zg by simp[h]];unfold Nx;by_cases h1:Xq (l.getD m Zg)=0;·rw[if_pos h1,if_pos h1];by_cases h2:(l.take m).any (fun q=>XE q (l.getD m Zg))=M;(·rw[if_pos h2,if_pos h2,if_neg (by omega)]);·rw[if_neg h2,if_neg h2,if_pos rfl]
 ·rw[if_neg h1,if_neg h1,if_neg h1]
theorem O6(l:List Zf)(m:Nat)(h:m<l.length):xA (l.take m) (l.drop m)=if Mt (l.take m) (l.getD m Qp)=0then xA (l.take (m+1)) (l.drop (m+1))else Mt (l.take m) (l.getD m Qp):=by
 rw[sR h,xA,sV h,show l[m]=l.getD m Qp by simp[h]];unfold Mt;by_cases h1:QA (l.getD m Qp)=0;·rw[if_pos h1,if_pos h1];by_cases h2:(l.take m).any (fun q=>ZM q (l.getD m Qp))=M;(·rw[if_pos h2,if_pos h2,if_neg (by omega)]);·rw[if_neg h2,if_neg h2,if_pos rfl]
 ·rw[if_neg h1,if_neg h1,if_neg h1]
theorem Pl{α:Type}(d:α)(f:α->Bool)(l:List α)(k:Nat)(h:k<l.length):(l.take (k+1)).any f=((l.take k).any f||f (l.getD k d)):=by
 rw[sV h,List.any_append,show l[k]=l.getD k d by simp[h]];simp
theorem Eb{α:Type}(d:α)(f:α->Bool)(l:List α)(k m:Nat)(hk:k<m)(hm:m<=l.length)(h:f (l.getD k d)=M):(l.take m).any f=M:=by
 rw[sZ];refine⟨l.getD k d,?_,h⟩;rw[show l.getD k d=(l.take m)[k]'(by rw[rW];omega)by rw[List.getElem_take];simp[show k<l.length by omega]];exact sN _
theorem zD{w:F}{a:Option sY}{n cap:Nat}{l:List Rd}(h:Xa w (J a n cap) l)(i:Nat)(hi:i<l.length):∃b o,a=I ⟨b,o,G⟩∧∃u1 u2 u3 u4 u5 u6,(w.cell? ⟨b,o+i*4,G⟩=I (J u1 (l.getD i Zg).name.length u2)∧w.cell? ⟨b,o+i*4+1,G⟩=I (J u3 (l.getD i Zg).key.length u4)∧w.cell? ⟨b,o+i*4+2,G⟩=I (tL (l.getD i Zg).wide)∧w.cell? ⟨b,o+i*4+3,G⟩=I (J u5 (l.getD i Zg).last.length u6))∧Yq w (sP #[J u1 (l.getD i Zg).name.length u2,J u3 (l.getD i Zg).key.length u4,tL (l.getD i Zg).wide,J u5 (l.getD i Zg).last.length u6]) (l.getD i Zg):=by
 obtain⟨b,o,rfl,hat⟩:=h.at i hi;obtain⟨vn,vk,vl,c1,c2,c3,c4,s1,s2,s3⟩:=hat;obtain⟨u1,u2,rfl⟩:=s1.shape;obtain⟨u3,u4,rfl⟩:=s2.shape;obtain⟨u5,u6,rfl⟩:=s3.shape;exact⟨b,o,rfl,u1,u2,u3,u4,u5,u6,⟨c1,c2,c3,c4⟩,⟨_,_,_,rfl,s1,s2,s3⟩⟩
theorem Ya{w:F}{a:Option sY}{n cap:Nat}{l:List Zf}(h:QQ w (J a n cap) l)(i:Nat)(hi:i<l.length):∃b o,a=I ⟨b,o,G⟩∧∃u1 u2 u3 u4 u5 u6,(w.cell? ⟨b,o+i*4,G⟩=I (J u1 (l.getD i Qp).name.length u2)∧w.cell? ⟨b,o+i*4+1,G⟩=I (J u3 (l.getD i Qp).key.length u4)∧w.cell? ⟨b,o+i*4+2,G⟩=I (tL (l.getD i Qp).gone)∧w.cell? ⟨b,o+i*4+3,G⟩=I (J u5 (l.getD i Qp).value.length u6))∧Xb w (sP #[J u1 (l.getD i Qp).name.length u2,J u3 (l.getD i Qp).key.length u4,tL (l.getD i Qp).gone,J u5 (l.getD i Qp).value.length u6]) (l.getD i Qp):=by
 obtain⟨b,o,rfl,hat⟩:=h.at i hi;obtain⟨vn,vk,vl,c1,c2,c3,c4,s1,s2,s3⟩:=hat;obtain⟨u1,u2,rfl⟩:=s1.shape;obtain⟨u3,u4,rfl⟩:=s2.shape;obtain⟨u5,u6,rfl⟩:=s3.shape;exact⟨b,o,rfl,u1,u2,u3,u4,u5,u6,⟨c1,c2,c3,c4⟩,⟨_,_,_,rfl,s1,s2,s3⟩⟩
theorem Rm{x y:Bool}{a b:Int}(h:x=y)(k:a=b):tD (sE #[tL y,Y tC b])=tD (sE #[tL x,Y tC a]):=by
 rw[h,k]
theorem Ix{α:Type}(f:α->Bool)(l:List α)(d:α)(i:Nat)(hi:i<l.length)(h:f (l.getD i d)=M):l.any f=M:=by
 have:=Eb d f l i l.length hi (tY _) h;rw[sC]at this;exact this
theorem qL:(85:Nat)≠5:=by
 decide
theorem jG:(85:Nat)≠198:=by
 decide
theorem GG:(85:Nat)≠178:=by
 decide
theorem ZK.block{rb pb:Nat}{W w':F}{v:H}{l:List Rd}(ho:ZK rb pb W v l)(hg:L W w' v.ownBlock){b:Nat}{cs:Array H}{t:tX}{fz:Nat×Nat}(h:W.heap[b]?=I (S cs t fz))(ht:t≠198):w'.heap[b]?=I (S cs t fz):=by
 rw[hg.block b (tI.1 h).1 (fun e=>ho.ne h ht e.symm)];exact h
theorem Q6.block{rb pb:Nat}{W w':F}{v:H}{l:List Zf}(ho:Q6 rb pb W v l)(hg:L W w' v.ownBlock){b:Nat}{cs:Array H}{t:tX}{fz:Nat×Nat}(h:W.heap[b]?=I (S cs t fz))(ht:t≠178):w'.heap[b]?=I (S cs t fz):=by
 rw[hg.block b (tI.1 h).1 (fun e=>ho.ne h ht e.symm)];exact h
theorem ZK.keptV{rb rb':Nat}{W w':F}{v u:H}{l:List Rd}{k:List Zf}(hR:ZK rb 0 W v l)(hV:Q6 rb' 0 W u k)(hg:L W w' u.ownBlock):ZK rb 0 w' v l:=by
 refine hR.kept hg ?_ ?_;·rcases hR.row with h|⟨g,cur,fz,e,_,h⟩;(·exact .inl h);·refine .inr ?_;rw[e];exact fun e2=>hV.ne h (fun e=>f8 e) e2.symm
 ·rcases hV.row with h|⟨g,cur,fz,e,_,h⟩;(·exact .inl h);·exact .inr ⟨g,cur,_,fz,e,tR _,h,kE⟩
theorem QI{w:F}{b:Nat}{x y z:H}{t:tX}(h:w.heap[b]?=I (S #[x,y,z] t)):(w.cell? ⟨b,0,G⟩=I x∧w.cell? ⟨b,1,G⟩=I y∧w.cell? ⟨b,2,G⟩=I z)∧w.frozen? ⟨b,0,G⟩=N∧w.frozen? ⟨b,1,G⟩=N∧w.frozen? ⟨b,2,G⟩=N:=by
 refine⟨⟨?_,?_,?_⟩,?_,?_,?_⟩<;>simp[tS,rV,h]
theorem UN{rb:Nat}{w wr:F}{RB:Nat}{x y z:H}{st:Int}{va ua:Option sY}{n m vc uc:Nat}{R:List Rd}{V:List Zf}(h:wr.heap[RB]?=I (S #[x,y,z] 85))(hR:ZK rb 0 wr (J va n vc) R)(hV:Q6 rb 0 wr (J ua m uc) V)(hg:L w wr G)(hw:w.heap.size<=RB):((((tE wr ⟨RB,0,G⟩ (Y tC st)).setCell ⟨RB,1,G⟩ (J va n vc)).setCell ⟨RB,2,G⟩ (J ua m uc)).cell? ⟨RB,0,G⟩=I (Y tC st)∧(((tE wr ⟨RB,0,G⟩ (Y tC st)).setCell ⟨RB,1,G⟩ (J va n vc)).setCell ⟨RB,2,G⟩ (J ua m uc)).cell? ⟨RB,1,G⟩=I (J va n vc)∧(((tE wr ⟨RB,0,G⟩ (Y tC st)).setCell ⟨RB,1,G⟩ (J va n vc)).setCell ⟨RB,2,G⟩ (J ua m uc)).cell? ⟨RB,2,G⟩=I (J ua m uc))∧ZK rb 0 (((tE wr ⟨RB,0,G⟩ (Y tC st)).setCell ⟨RB,1,G⟩ (J va n vc)).setCell ⟨RB,2,G⟩ (J ua m uc)) (J va n vc) R∧Q6 rb 0 (((tE wr ⟨RB,0,G⟩ (Y tC st)).setCell ⟨RB,1,G⟩ (J va n vc)).setCell ⟨RB,2,G⟩ (J ua m uc)) (J ua m uc) V∧L w (((tE wr ⟨RB,0,G⟩ (Y tC st)).setCell ⟨RB,1,G⟩ (J va n vc)).setCell ⟨RB,2,G⟩ (J ua m uc)) G:=by
 have b1:=Ql (i:=0) (u:=Y tC st) h;have b2:=Ql (i:=1) (u:=J va n vc) b1;have b3:=Ql (i:=2) (u:=J ua m uc) b2;exact⟨(QI (x:=Y tC st) (y:=J va n vc) (z:=J ua m uc) b3).1,((hR.setOther h qL jG (tR _) _).setOther b1 qL jG (tR _) _).setOther b2 qL jG (tR _) _,((hV.setOther h qL GG (tR _) _).setOther b1 qL GG (tR _) _).setOther b2 qL GG (tR _) _,Qd (Qd (Qd hg _ hw _ _) _ hw _ _) _ hw _ _⟩
theorem Q6.keptR{rb rb':Nat}{W w':F}{v u:H}{l:List Zf}{k:List Rd}(hV:Q6 rb 0 W v l)(hR:ZK rb' 0 W u k)(hg:L W w' u.ownBlock):Q6 rb 0 w' v l:=by
 refine hV.kept hg ?_ ?_;·rcases hV.row with h|⟨g,cur,fz,e,_,h⟩;(·exact .inl h);·refine .inr ?_;rw[e];exact fun e2=>hR.ne h (fun e=>f8 e.symm) e2.symm
 ·rcases hR.row with h|⟨g,cur,fz,e,_,h⟩;(·exact .inl h);·exact .inr ⟨g,cur,_,fz,e,tR _,h,fP⟩
theorem Gn{w:F}{v1 v2:H}{st:Int}{R:List Rd}{V:List Zf}{rb:Nat}{t:Tx}(e:t=⟨st,R,V⟩)(h1:ZK rb 0 w v1 R)(h2:Q6 rb 0 w v2 V):Gx w (sP #[Y tC st,v1,v2]) t:=by
 subst e;exact⟨_,_,rfl,h1.down 0 (tR _),h2.down 0 (tR _)⟩
theorem UL{v:H}{a b:Int}(h:a=b):tD (sE #[v,Y tC b])=tD (sE #[v,Y tC a]):=by
 rw[h]
theorem SO:∀(l:List Zf)(w:Zf)(m:Nat),m<l.length->(l.take m).any (fun q=>ZM q w)=N->ZM (l.getD m Qp) w=M->zJ l w=l.set m w|[],_,_,h,_,_=>by simp at h|a::l,w,0,_,_,h=>by have h':ZM a w=M:=h;rw[zJ,if_pos h'];rfl|a::l,w,m+1,h0,h1,h2=>by rw[rB,pC,rM]at h1;rw[zJ,if_neg (by rw[h1.1];decide),pM,SO l w m (by simpa using h0) h1.2 (by simpa using h2)]
theorem MI:∀(l:List Zf)(w:Zf),l.any (fun q=>ZM q w)=N->zJ l w=l++[w]|[],_,_=>rfl|a::l,w,h=>by rw[pC,rM]at h;rw[zJ,if_neg (by rw[h.1];decide),MI l w h.2];rfl
theorem Q6.zero{rb:Nat}{w:F}{b o n cap:Nat}{l:List Zf}(h:Q6 rb 0 w (J (I ⟨b,o,G⟩) n cap) l):o=0:=by
 obtain⟨us,hl,hr,h3⟩:=h;rcases hr.2with⟨e,_⟩|⟨g',cap',cur,e,_⟩;·cases e
 ·simp only[tH,tA,rF]at e;exact e.1.2.1
theorem Q6.frozenT{rb:Nat}{w:F}{g n cap:Nat}{l:List Zf}(h:Q6 rb 0 w (J (I ⟨g,0,G⟩) n cap) l)(j:Nat):w.frozen? ⟨g,j,G⟩=N:=by
 obtain⟨us,hl,hr,h3⟩:=h;rcases hr.2with⟨e,_⟩|⟨g',cap',cur,e,hb,hg,_⟩;·cases e
 ·simp only[tH,tA,rF]at e;obtain⟨⟨rfl,_⟩,_⟩:=e;simp[rV,hg]
theorem Ro:∀(us:List WV)(i:Nat)(x:WV),Y5 (us.set i x)=((((Y5 us).set (i*4) x.2.1).set (i*4+1) x.2.2.1).set (i*4+2) (tL x.1.gone)).set (i*4+3) x.2.2.2|[],i,x=>by simp[Y5]|y::us,0,x=>by simp[Y5]|y::us,i+1,x=>by have ih:=Ro us i x;(have e:∀us:List WV,Y5 (y::us)=y.2.1::y.2.2.1::tL y.1.gone::y.2.2.2::Y5 us:=fun us=>by simp[Y5]);rw[pM,e,e,ih,show(i+1)*4=i*4+4by omega];rfl
theorem Q6.setT{rb:Nat}{w:F}{g n cap:Nat}{l:List Zf}(h:Q6 rb 0 w (J (I ⟨g,0,G⟩) n cap) l)(i:Nat)(vn vk vv:H)(p:Zf)(h1:Qi 0 w vn p.name)(h2:Qi 0 w vk p.key)(h3:Qi 0 w vv p.value):Q6 rb 0 ((((tE w ⟨g,i*4,G⟩ vn).setCell ⟨g,i*4+1,G⟩ vk).setCell ⟨g,i*4+2,G⟩ (tL p.gone)).setCell ⟨g,i*4+3,G⟩ vv) (J (I ⟨g,0,G⟩) n cap) (l.set i p):=by
 obtain⟨us,hul,hr,hp⟩:=h;have hgr:L w ((((tE w ⟨g,i*4,G⟩ vn).setCell ⟨g,i*4+1,G⟩ vk).setCell ⟨g,i*4+2,G⟩ (tL p.gone)).setCell ⟨g,i*4+3,G⟩ vv) (I g):=Qg (Qg (Qg (Qg (Qb _ _) _ _) _ _) _ _) _ _;rcases hr.2with⟨e,_⟩|⟨g',cap',cur,e,hb,hg,hn,hm,hs,ht⟩;·cases e
 ·simp only[tH,tA,rF]at e;obtain⟨⟨rfl,_⟩,rfl,rfl⟩:=e;have hrow:(I g:Option Nat)=G∨∃g' cur t fz,(I g:Option Nat)=I g'∧0<=g'∧w.heap[g']?=I (S cur t fz)∧t≠5:=.inr ⟨g,cur,_,_,rfl,tR _,hg,kE⟩;(have hus:us.length=l.length:=by rw[<-hul];simp);refine⟨us.set i (p,vn,vk,vv),by rw[List.map_set,hul],⟨by rw[LG,rO,rO,hus],.inr ⟨g,cap,_,by rw[rO],hb,Ql (Ql (Ql (Ql hg))),by rw[rO];exact hn,hm,by simpa using hs,?_⟩⟩,?_⟩;(·rw[Ro,rO];simp only[Array.toList_setIfInBounds];rw[pD,pD,pD,pD,ht]);·intro x hx;rcases List.mem_or_eq_of_mem_set hx with hx|rfl;(·exact⟨(hp x hx).1.keptT hgr hrow,(hp x hx).2.1.keptT hgr hrow,(hp x hx).2.2.keptT hgr hrow⟩);·exact⟨h1.keptT hgr hrow,h2.keptT hgr hrow,h3.keptT hgr hrow⟩
def Ub(n k:List UInt8)(q:Zf):Bool:=tP (q.name=n)&&tP (q.key=k)
theorem Cp{α:Type}(p:α->Bool)(d:α):∀(l:List α)(m:Nat),m<l.length->(l.take m).any p=N->p (l.getD m d)=M->l.find? p=I (l.getD m d)|[],_,h,_,_=>by simp at h|a::l,0,_,_,h=>by have h':p a=M:=h;rw[List.find?_cons_of_pos h'];rfl|a::l,m+1,h0,h1,h2=>by rw[rB,pC,rM]at h1;rw[List.find?_cons_of_neg (by rw[h1.1];decide),Cp p d l m (by simpa using h0) h1.2 (by simpa using h2)];simp
theorem S5{α:Type}(p:α->Bool)(l:List α)(h:l.any p=N):l.find? p=G:=by
 rw[List.find?_eq_none];intro x hx hp;rw[List.any_eq_false]at h;exact h x hx hp
theorem eS{l:List Zf}{n k:List UInt8}{m:Nat}(h:m<l.length)(h1:(l.take m).any (Ub n k)=N)(h2:Ub n k (l.getD m Qp)=M):eG l n k=I (l.getD m Qp):=Cp (Ub n k) Qp l m h h1 h2
theorem bC{l:List Zf}{n k:List UInt8}(h:l.any (Ub n k)=N):eG l n k=G:=S5 (Ub n k) l h
theorem Ii{l:FL}{t:Tx}{n k:List UInt8}(h:Kj l t n k≠0):Uv l t n k=N∧K8 l t n k=N∧KW l t n k=[]:=by
 rw[Uv,K8,KW,if_neg h,if_neg h,if_neg h];exact⟨rfl,rfl,rfl⟩
theorem cG{l:FL}{t:Tx}{n k:List UInt8}(h:zB l t≠0):Kj l t n k=zB l t:=by
 rw[Kj,if_neg h]
theorem MQ{l:FL}{t:Tx}(h:zB l t=0):ZQ l∧GU t:=by
 unfold zB at h;by_cases hf:Q8 l=0;·rw[if_pos hf]at h;exact⟨(XJ l).1 hf,(qK t).1 h⟩
 ·rw[if_neg hf]at h;exact absurd h hf
theorem OL{l:FL}{t:Tx}{n k:List UInt8}(h:zB l t=0){m:Nat}(hm:m<t.writes.length)(h1:(t.writes.take m).any (Ub n k)=N)(h2:Ub n k (t.writes.getD m Qp)=M):Kj l t n k=0∧Uv l t n k=M∧K8 l t n k=!(t.writes.getD m Qp).gone∧KW l t n k=(t.writes.getD m Qp).value:=by
 obtain⟨hf,ht⟩:=MQ h;have ha:=eS hm h1 h2;have hs:=It ha;have hw:=(XI _).1 (ht.wrs _ hs.1);rw[hs.2.1,hs.2.2]at hw;have h0:=Nh hf ht hw.1 hw.2.1;refine⟨h0,?_,?_,?_⟩;·rw[Uv,if_pos h0,ha];rfl
 ·rw[K8,if_pos h0,ha]
 ·rw[KW,if_pos h0,ha]
theorem OI{l:FL}{t:Tx}{n k:List UInt8}(h:zB l t=0)(h1:t.writes.any (Ub n k)=N):Kj l t n k=Uu l n k∧Uv l t n k=N∧K8 l t n k=Kl l n k∧KW l t n k=Km l n k:=by
 obtain⟨hf,ht⟩:=MQ h;have ha:=bC h1;have hfo:=(XJ l).2 hf;have hE:Kj l t n k=Uu l n k:=by rw[Kj,if_pos h,Uu,Gq,if_pos hfo];by_cases hn:Qt n.length=0;(·rw[if_pos hn,if_pos hn,Xc,if_pos ((YQ _).2 (KD hf n))]);·rw[if_neg hn,if_neg hn]
 refine⟨hE,?_,?_,?_⟩;·rw[Uv,ha];by_cases h0:Kj l t n k=0;(·rw[if_pos h0];rfl);·rw[if_neg h0]
 ·rw[K8,ha];by_cases h0:Kj l t n k=0;(·rw[if_pos h0]);·rw[if_neg h0];rw[hE]at h0;rw[Kl];by_cases hn:Gq l n=0;(·rw[Uu,if_pos hn]at h0;rw[if_pos hn,F4];simp[h0]);·rw[if_neg hn]
 ·rw[KW,ha];by_cases h0:Kj l t n k=0;(·rw[if_pos h0]);·rw[if_neg h0];rw[hE]at h0;rw[Km];by_cases hn:Gq l n=0;(·rw[Uu,if_pos hn]at h0;rw[if_pos hn,Tr,if_neg h0]);·rw[if_neg hn]
theorem Ww{X:PL}(h:Zz X)(k:List UInt8):Zz (jM X k):=⟨tN (Sc X k) h.room,fun p hp=>h.pairs p (pW.1 hp).1,EI X k h.rises⟩
theorem MJ{X:PL}(h:Zz X)(f u:List UInt8):Zz (U8 X f u):=⟨tN (Hi X f u) h.room,fun p hp=>h.pairs p (pW.1 hp).1,Ci X f u h.rises⟩
theorem Le{X:PL}(h:Zz X){p:Pr}(hp:(1<=p.1.length∧p.1.length<=16)∧p.2.length<=32)(hl:(J8 X p).length<=60):Zz (J8 X p):=⟨hl,Ej X p h.pairs hp,vN X p h.rises⟩
theorem jH(n a b:List UInt8)(w:Zf):XH ⟨n,a,M,b⟩ w=M↔w.name=n∧gB a b w.key=M:=by
 show(tP (n=w.name)&&gB a b w.key)=M↔_;rw[rH,decide_eq_true_iff];exact⟨fun h=>⟨h.1.symm,h.2⟩,fun h=>⟨h.1.symm,h.2⟩⟩
theorem WX{n a b:List UInt8}{w:Zf}(h:XH ⟨n,a,M,b⟩ w=N)(X:PL):KV n a b X w=X:=by
 rw[KV,if_neg];intro e;rw[(jH n a b w).2 e]at h;cases h
theorem Oh{n a b:List UInt8}{w:Zf}(h:XH ⟨n,a,M,b⟩ w=M)(hg:w.gone=M){X:PL}(hX:Zz X)(hw:QA w=0):Xc X w.key=0∧zA X w.key=KV n a b X w∧Zz (KV n a b X w):=by
 have hk:=((XI w).1 hw).2.1;have h0:=yK hX hk;have e:KV n a b X w=jM X w.key:=by rw[KV,if_pos ((jH n a b w).1 h),if_pos hg]
 refine⟨h0,by rw[e,zA,if_pos h0],by rw[e];exact Ww hX _⟩
theorem OG{n a b:List UInt8}{w:Zf}(h:XH ⟨n,a,M,b⟩ w=M)(hg:w.gone=N){X:PL}(hX:Zz X)(hw:QA w=0):KV n a b X w=J8 X (w.key,w.value)∧(60<(KV n a b X w).length->Kd X (w.key,w.value)=11)∧(¬60<(KV n a b X w).length->Kd X (w.key,w.value)=0∧Vh X (w.key,w.value)=KV n a b X w∧Zz (KV n a b X w)):=by
 have hk:=(XI w).1 hw;have hv:w.value.length<=32:=by have:=hk.2.2;rw[hg,if_neg (by decide)]at this;exact this
 have e:KV n a b X w=J8 X (w.key,w.value):=by rw[KV,if_pos ((jH n a b w).1 h),hg,if_neg (by decide)]
 have h0:VN X (w.key,w.value)=0:=by rw[VN,if_pos ((YQ X).2 hX)];exact(Jz _).2 ⟨hk.2.1,hv⟩
 refine⟨e,fun hl=>?_,fun hl=>?_⟩;·rw[e]at hl;rw[Kd,if_pos h0,if_pos hl]
 ·rw[e]at hl;(have h1:Kd X (w.key,w.value)=0:=by rw[Kd,if_pos h0,if_neg hl]);refine⟨h1,by rw[e,Vh,if_pos h1],?_⟩;rw[e];exact Le hX ⟨hk.2.1,hv⟩ (by omega)
def JC(n a b:List UInt8)(X:PL)(ws:List Zf):Int×PL:=(kA n a b X ws,if kA n a b X ws=0then Ax n a b X ws else[])
theorem AT(n a b:List UInt8)(X:PL):JC n a b X []=(0,X):=rfl
theorem vW{n a b:List UInt8}{X:PL}{ws:List Zf}{m:Nat}(hm:m<ws.length)(h:¬60<(KV n a b X (ws.getD m Qp)).length):JC n a b X (ws.drop m)=JC n a b (KV n a b X (ws.getD m Qp)) (ws.drop (m+1)):=by
 rw[sR hm,show ws[m]=ws.getD m Qp by simp[hm]];rw[JC,JC,kA,if_neg h];rfl
theorem Ds{n a b:List UInt8}{X:PL}{ws:List Zf}{m:Nat}(hm:m<ws.length)(h:60<(KV n a b X (ws.getD m Qp)).length):JC n a b X (ws.drop m)=(11,[]):=by
 rw[sR hm,show ws[m]=ws.getD m Qp by simp[hm]];rw[JC,kA,if_pos h,if_neg (by decide)]
theorem aX{l:FL}{t:Tx}{n a b:List UInt8}(h:zB l t≠0):Ku l t n a b=zB l t∧VM l t n a b=[]:=by
 have e:Ku l t n a b=zB l t:=by rw[Ku,if_neg h]
 exact⟨e,by rw[VM,e,if_neg h]⟩
theorem Am{l:FL}{t:Tx}{n a b:List UInt8}(h:zB l t=0)(h1:Yz l n a b≠0):Ku l t n a b=Yz l n a b∧VM l t n a b=[]:=by
 obtain⟨hf,ht⟩:=MQ h;have hfo:=(XJ l).2 hf;have e:Ku l t n a b=Yz l n a b:=by(have hE:Yz l n a b=if Qt n.length=0then(if Qo a.length=0then Qo b.length else Qo a.length)else Qt n.length:=by rw[Yz,Gq,if_pos hfo];by_cases hn:Qt n.length=0;(·rw[if_pos hn,if_pos hn,Yx,Xc,if_pos ((YQ _).2 (KD hf n))]);·rw[if_neg hn,if_neg hn]);rw[Ku,if_pos h,hE];by_cases hn:Qt n.length=0;(·rw[if_pos hn,if_pos hn];by_cases ha:Qo a.length=0;(·rw[if_pos ha,if_pos ha];by_cases hb:Qo b.length=0;(·rw[hE,if_pos hn,if_pos ha]at h1;exact absurd hb h1);·rw[if_neg hb]);·rw[if_neg ha,if_neg ha]);·rw[if_neg hn,if_neg hn]
 exact⟨e,by rw[VM,e,if_neg h1]⟩
theorem Bo{l:FL}{t:Tx}{n a b:List UInt8}(h:zB l t=0)(h1:Yz l n a b=0):JC n a b (Kg l n a b) t.writes=(Ku l t n a b,VM l t n a b)∧Zz (Kg l n a b):=by
 obtain⟨hf,ht⟩:=MQ h;have hfo:=(XJ l).2 hf;have hn:Gq l n=0:=by by_cases hn:Gq l n=0;(·exact hn);·rw[Yz,if_neg hn]at h1;exact absurd h1 hn
 have hr:Yx (YU l n) a b=0:=by rw[Yz,if_pos hn]at h1;exact h1
 have hg:=C3 hr;have hb:Qo b.length=0:=by rw[Yx,if_pos hg]at hr;exact hr
 have ha:Qo a.length=0:=(Zu _).2 (IL hg);have hnn:Qt n.length=0:=(Zn _).2 (G8 hn).2;have e:Kg l n a b=U8 (YU l n) a b:=by rw[Kg,if_pos hn,KO,if_pos hr]
 have eE:Ku l t n a b=kA n a b (U8 (YU l n) a b) t.writes:=by rw[Ku,if_pos h,if_pos hnn,if_pos ha,if_pos hb]
 refine⟨?_,by rw[e];exact MJ (KD hf n) a b⟩;rw[e,JC,VM,eE]
def Hh:Prop:=∀(w:F)(v:H)(t:Tx),GC w v t->zS t->sS O 111 #[v] w fun e w'=>e=tD (Y tC (VV t))∧L w w' G
def WQ:Prop:=∀(w:F)(v:H)(l:PL),Qq w v l->kI l->sS O 44 #[v] w fun e w'=>e=tD (Y tC (Qy l))∧L w w' G
theorem Fi{w:F}{o:rK}{a:Act}{K:Act->F->Prop}{Q:Exit->Act->F->Prop}(s x:rG)(ho:o.op=.call {callee:=.builtin .append,args:=#[s,x],argTypes:=#[41,41]})(rb base:Nat)(hrb:base<=rb)(v:H)(l:PL)(hs:a.eval s=v)(hown:Kn rb base w v l)(vk vv:H)(p:Pr)(hk:Qi base w vk p.1)(hv:Qi base w vv p.2)(nb:Nat)(hb:w.heap[nb]?=I (S #[vk,vv] 44))(hx:a.eval x=J (I ⟨nb,0,G⟩) 1 1)(hl:(l.length+1)*48<=140737488355328)(hbase:rb<=w.heap.size)(h:∀v' w',Kn rb base w' v' (l++[p])->L w w' v.ownBlock->K (a.put o.dst v') w'):o.wp O a w K Q:=by
 obtain⟨i0,hi,hz0,hz1,hz2⟩:=r7 DH;have hrow:=hown.row hrb;obtain⟨vs,hvl,hr,hp⟩:=hown;refine wp_append_lies w s x 41 ho rb 44 i0 (sP #[J G 0 0,J G 0 0]) 2 48 Tryz.underlying41 hi hz0 hz1 hz2 rfl (by decide) v l.length (flat vs) hs hr ⟨nb,0,G⟩ 1 1 (flat [(vk,vv)]) hx rfl (rA (cs:=#[vk,vv]) hb) ?_ (by omega) (by unfold r8;omega) hl hbase _ rfl ?_;·intro u hu;simp only[flat,tM,rI,rN,tK,tQ,or_false]at hu;rcases hu with rfl|rfl;(·exact ZH hk);·exact ZH hv
 ·intro g cap w' h1 h2 _ _;refine h _ w' ⟨vs++[(vk,vv)],by simp[hvl],?_,?_⟩ h2;(·rw[JT,tB];exact h1);·intro i hi;rw[Ji,Ji,hvl];by_cases hil:i<l.length;(·rw[if_pos hil,if_pos hil];exact⟨(hp i hil).1.kept h2 hrow,(hp i hil).2.kept h2 hrow⟩);·rw[if_neg hil,if_neg hil];(obtain rfl:i=l.length:=by simp at hi;omega);rw[oD];exact⟨hk.kept h2 hrow,hv.kept h2 hrow⟩
theorem V1{w:F}{ops:Array rK}{o:rK}{a:Act}{K:Act->F->Prop}{Q:Exit->Act->F->Prop}{E:Prop}(hgd:o.guard=G)(s x:rG)(ho:o.op=.call {callee:=.builtin .append,args:=#[s,x],argTypes:=#[41,41]})(rb base:Nat)(hrb:base<=rb)(v:H)(l:PL)(hs:a.eval s=v)(hown:Kn rb base w v l)(vk vv:H)(p:Pr)(hk:Qi base w vk p.1)(hv:Qi base w vv p.2)(nb:Nat)(hb:w.heap[nb]?=I (S #[vk,vv] 44))(hx:a.eval x=J (I ⟨nb,0,G⟩) 1 1)(hl:(l.length+1)*48<=140737488355328)(hbase:rb<=w.heap.size)(h:∀v' w',Kn rb base w' v' (l++[p])->L w w' v.ownBlock->K (a.put o.dst v') w'):if sD o (pA ops a.tmps)=M then Oper.wp O o a w K Q else E:=by
 have hw:sD o (pA ops a.tmps)=M:=by simp[sD,hgd]
 rw[if_pos hw];exact Fi s x ho rb base hrb v l hs hown vk vv p hk hv nb hb hx hl hbase h
theorem T5(w:F):(sizeOf (O.elem 41)).run O w=.ok 2 w:=by
 kernel_rfl
theorem Qq.sliced{w:F}{a:Option sY}{cap:Nat}{l:PL}(h:Qq w (J a l.length cap) l)(i j:Nat)(hij:i<=j)(hj:j<=l.length):Qq w (sO a i j cap 2) ((l.take j).drop i):=by
 obtain⟨a',cap',e,hc,h⟩:=h;simp only[tH,true_and]at e;obtain⟨rfl,rfl⟩:=e;have hlen:((l.take j).drop i).length=j-i:=by simp;omega
 refine⟨if cap=i then a else a.map (·.add (i*2)),cap-i,by rw[hlen];rfl,by rw[hlen];omega,?_⟩;by_cases hci:cap=i;·left;exact⟨tJ (by rw[hlen];omega),fun _=>by omega⟩
 ·rw[if_neg hci];rcases h with⟨rfl,h⟩|⟨b,o,rfl,h⟩;(·left;refine⟨by simp,fun e=>?_⟩;cases a with|none=>have:=h rfl;simp at hj;omega|some x=>cases e);·right;refine⟨b,o+i*2,by simp[Z7],fun k hk=>?_⟩;rw[hlen]at hk;have:=h (i+k) (by omega);(have e:((l.take j).drop i).getD k ([],[])=l.getD (i+k) ([],[]):=by simp[show i+k<j by omega]);rw[e,show o+i*2+k*2=o+(i+k)*2by omega];exact this
theorem uT(a:Option sY)(cap:Nat)(l:PL)(n:Nat)(hn:n<=l.length)(hc:l.length<=cap):∃a1 c1,(∀W,(rS 41 (J a l.length cap) G (I (Y tC (n:Int))) G).run O W=.ok (J a1 n c1) W)∧∀W,Qq W (J a l.length cap) l->Qq W (J a1 n c1) (l.take n):=by
 refine⟨if cap=0then a else a.map (·.add (0*2)),cap-0,fun W=>?_,fun W h=>?_⟩;·rw[run_slice_h _ _ _ _ _ (by kernel_rfl) _ _ (by omega) (by omega),T5];simp only[rD,sO,sU,pE]
 ·have:=h.sliced 0 n (by omega) hn;simpa only[sO,oC,pE]using this
theorem vD(a:Option sY)(cap:Nat)(l:PL)(n:Nat)(hn:n<=l.length):∃a1 c1,(∀W,(rS 41 (J a l.length cap) (I (Y tC (n:Int))) G G).run O W=.ok (J a1 (l.length-n) c1) W)∧∀W,Qq W (J a l.length cap) l->Qq W (J a1 (l.length-n) c1) (l.drop n):=by
 refine⟨if cap=n then a else a.map (·.add (n*2)),cap-n,fun W=>?_,fun W h=>?_⟩;·rw[run_slice_l _ _ _ _ _ (by kernel_rfl) _ _ (by omega) (by omega),T5];simp only[rD,sO,sU]
 ·have:=h.sliced n l.length hn (tY _);simpa only[sO,sC]using this
theorem E6(a:Option sY)(cap:Nat)(l:PL)(i j:Nat)(hij:i<=j)(hj:j<=l.length)(hc:l.length<=cap):∃a1 c1,(∀W,(rS 41 (J a l.length cap) (I (Y tC (i:Int))) (I (Y tC (j:Int))) G).run O W=.ok (J a1 (j-i) c1) W)∧∀W,Qq W (J a l.length cap) l->Qq W (J a1 (j-i) c1) ((l.take j).drop i):=by
 refine⟨if cap=i then a else a.map (·.add (i*2)),cap-i,fun W=>?_,fun W h=>?_⟩;·rw[run_slice_lh _ _ _ _ _ (by kernel_rfl) _ _ _ _ (by omega) (by omega) (by omega),T5];simp only[rD,sO,sU]
 ·have:=h.sliced i j hij hj;simpa only[sO]using this
theorem Qq.cap{w:F}{a:Option sY}{n cap:Nat}{l:PL}(h:Qq w (J a n cap) l):l.length<=cap:=by
 obtain⟨a',cap',e,hc,_⟩:=h;simp only[tH]at e;obtain⟨_,_,rfl⟩:=e;exact hc
def OE:Prop:=∀(w:F)(v:H)(l:FL),Zx w v l->VF l->sS O 33 #[v] w fun e w'=>e=tD (Y tC (Q8 l))∧L w w' G
def MR:Prop:=∀(w:F)(v u:H)(l:FL)(ws:List Zf),Zx w v l->QQ w u ws->VF l->kL ws->sS O 116 #[v,u] w fun e w'=>∃x,e=tD (sE #[x,Y tC (QT l ws)])∧Zx w' x (Z6 l ws)∧L w w' G
theorem Zy.down{base:Nat}{w:F}{v:H}{l:FL}(h:Zy base w v l)(b2:Nat)(hb:b2<=base):Zy b2 w v l:=by
 obtain⟨vs,h1,h2,h3⟩:=h;refine⟨vs,h1,⟨h2.1,?_⟩,h3⟩;rcases h2.2with h|⟨g,cap,cur,e,hb2,rest⟩;·exact .inl h
 ·exact .inr ⟨g,cap,cur,e,tN hb hb2,rest⟩
def xO:Prop:=∀(w:F)(v u:H)(l:FL)(ws:List Zf),Zx w v l->QQ w u ws->VF l->kL ws->sS O 116 #[v,u] w fun e w'=>∃x,e=tD (sE #[x,Y tC (QT l ws)])∧Zy w.heap.size w' x (Z6 l ws)∧L w w' G
theorem xO.ok(h:xO):MR:=fun w v u l ws h1 h2 h3 h4=>(h w v u l ws h1 h2 h3 h4).mono (by
 rintro e w'⟨x,rfl,hx,hg⟩;exact⟨x,rfl,hx.list,hg⟩)
theorem qF(w:F)(b i:Nat)(u:H):∃W:F,Hid (W=tE w ⟨b,i,G⟩ u)∧L w W (I b):=⟨_,rfl,YJ w b i u⟩
theorem qQ{w:F}{ops:Array rK}{o:rK}{a:Act}{K:Act->F->Prop}{Q:Exit->Act->F->Prop}{E:Prop}(hgd:o.guard=G)(s x:rG)(ho:o.op=.call {callee:=.builtin .append,args:=#[s,x],argTypes:=#[83,83]})(rb:Nat)(v:H)(l:List Zf)(hs:a.eval s=v)(hown:Q6 rb 0 w v l)(vn vk vv:H)(p:Zf)(h1:Qi 0 w vn p.name)(h2:Qi 0 w vk p.key)(h3:Qi 0 w vv p.value)(nb:Nat)(hb:w.heap[nb]?=I (S #[vn,vk,tL p.gone,vv] 178))(hx:a.eval x=J (I ⟨nb,0,G⟩) 1 1)(hl:(l.length+1)*80<=140737488355328)(hbase:rb<=w.heap.size)(h:∀v' w',Q6 rb 0 w' v' (l++[p])->L w w' v.ownBlock->K (a.put o.dst v') w'):if sD o (pA ops a.tmps)=M then Oper.wp O o a w K Q else E:=by
 have hw:sD o (pA ops a.tmps)=M:=by simp[sD,hgd]
 rw[if_pos hw];obtain⟨i0,hi,hz0,hz1,hz2⟩:=r7 OY;have hrow:v.ownBlock=G∨∃g cur t fz,v.ownBlock=I g∧0<=g∧w.heap[g]?=I (S cur t fz)∧t≠5:=by rcases hown.row with h|⟨g,cur,fz,e,_,h⟩;(·exact .inl h);·exact .inr ⟨g,cur,_,fz,e,tR _,h,kE⟩
 obtain⟨us,hul,hr,hp⟩:=hown;refine wp_append_lies w s x 83 ho rb 178 i0 (sP #[J G 0 0,J G 0 0,tL N,J G 0 0]) 4 80 Tryz.underlying83 hi hz0 hz1 hz2 rfl (by decide) v l.length (Y5 us) hs hr ⟨nb,0,G⟩ 1 1 (Y5 [(p,vn,vk,vv)]) hx rfl (rA (cs:=#[vn,vk,tL p.gone,vv]) hb) ?_ (by omega) (by unfold r8;omega) hl hbase _ rfl ?_;·intro u hu;simp only[Y5,tM,rI,rN,tK,tQ,or_false]at hu;rcases hu with rfl|rfl|rfl|rfl;(·exact ZH h1);(·exact ZH h2);(·rfl);·exact ZH h3
 ·intro g cap w' q1 q2 _ _;refine h _ w' ⟨us++[(p,vn,vk,vv)],by simp[hul],?_,?_⟩ q2;(·rw[kT,tB];exact q1);·intro y hy;rcases tZ.1 hy with hy|hy;(·exact⟨(hp y hy).1.keptT q2 hrow,(hp y hy).2.1.keptT q2 hrow,(hp y hy).2.2.keptT q2 hrow⟩);·simp only[tK,tQ,or_false]at hy;subst hy;exact⟨h1.keptT q2 hrow,h2.keptT q2 hrow,h3.keptT q2 hrow⟩
theorem xB{w:F}{ops:Array rK}{o:rK}{a:Act}{K:Act->F->Prop}{Q:Exit->Act->F->Prop}{E:Prop}(hgd:o.guard=G)(s x:rG)(ho:o.op=.call {callee:=.builtin .append,args:=#[s,x],argTypes:=#[82,82]})(rb:Nat)(v:H)(l:List Rd)(hs:a.eval s=v)(hown:ZK rb 0 w v l)(vn vk vv:H)(p:Rd)(h1:Qi 0 w vn p.name)(h2:Qi 0 w vk p.key)(h3:Qi 0 w vv p.last)(nb:Nat)(hb:w.heap[nb]?=I (S #[vn,vk,tL p.wide,vv] 198))(hx:a.eval x=J (I ⟨nb,0,G⟩) 1 1)(hl:(l.length+1)*80<=140737488355328)(hbase:rb<=w.heap.size)(h:∀v' w',ZK rb 0 w' v' (l++[p])->L w w' v.ownBlock->K (a.put o.dst v') w'):if sD o (pA ops a.tmps)=M then Oper.wp O o a w K Q else E:=by
 have hw:sD o (pA ops a.tmps)=M:=by simp[sD,hgd]
 rw[if_pos hw];obtain⟨i0,hi,hz0,hz1,hz2⟩:=r7 fN;have hrow:v.ownBlock=G∨∃g cur t fz,v.ownBlock=I g∧0<=g∧w.heap[g]?=I (S cur t fz)∧t≠5:=by rcases hown.row with h|⟨g,cur,fz,e,_,h⟩;(·exact .inl h);·exact .inr ⟨g,cur,_,fz,e,tR _,h,fP⟩
 obtain⟨us,hul,hr,hp⟩:=hown;refine wp_append_lies w s x 82 ho rb 198 i0 (sP #[J G 0 0,J G 0 0,tL N,J G 0 0]) 4 80 Tryz.underlying82 hi hz0 hz1 hz2 rfl (by decide) v l.length (Gc us) hs hr ⟨nb,0,G⟩ 1 1 (Gc [(p,vn,vk,vv)]) hx rfl (rA (cs:=#[vn,vk,tL p.wide,vv]) hb) ?_ (by omega) (by unfold r8;omega) hl hbase _ rfl ?_;·intro u hu;simp only[Gc,tM,rI,rN,tK,tQ,or_false]at hu;rcases hu with rfl|rfl|rfl|rfl;(·exact ZH h1);(·exact ZH h2);(·rfl);·exact ZH h3
 ·intro g cap w' q1 q2 _ _;refine h _ w' ⟨us++[(p,vn,vk,vv)],by simp[hul],?_,?_⟩ q2;(·rw[Ni,tB];exact q1);·intro y hy;rcases tZ.1 hy with hy|hy;(·exact⟨(hp y hy).1.keptT q2 hrow,(hp y hy).2.1.keptT q2 hrow,(hp y hy).2.2.keptT q2 hrow⟩);·simp only[tK,tQ,or_false]at hy;subst hy;exact⟨h1.keptT q2 hrow,h2.keptT q2 hrow,h3.keptT q2 hrow⟩
def OQ:Prop:=∀(w:F)(v:H)(r:Rq),Vj w->X0 w v r->xT r->sS O 106 #[v] w fun e w'=>∃x,e=tD (sE #[x,Y tC (Ug r)])∧Yq w' x (Zh r)∧L w w' G
def ZX(K:Int)(n q l v:Nat):Nat->Bool|0=>N|1=>!QS K 0&&tP (0<n)|2=>(!QS K 0&&tP (0<n))||(!QS K 1&&tP (0<q))|3=>((!QS K 0&&tP (0<n))||(!QS K 1&&tP (0<q)))||(!QS K 2&&tP (0<l))|_=>(((!QS K 0&&tP (0<n))||(!QS K 1&&tP (0<q)))||(!QS K 2&&tP (0<l)))||(!QS K 3&&tP (0<v))
def gP(K:Int)(n q l v:Nat):Int:=if(tP (Qt n≠0)&&QS K 0)=M then Qt n else if(tP (Qo q≠0)&&QS K 1)=M then Qo q else if(tP (Qo l≠0)&&QS K 2)=M then Qo l else if 32<v then 1 else if ZX K n q l v 4=M then 4 else 0
theorem fM(r:Rq)(hk:1<=r.kind∧r.kind<=8):Ye r=gP r.kind r.name.length r.key.length r.last.length r.value.length:=by
 rw[Ye,if_pos hk];have hf:Rl r=if ZX r.kind r.name.length r.key.length r.last.length r.value.length 4=M then 4 else 0:=by unfold Rl;by_cases h1:QW r.kind=N∧0<r.name.length+r.key.length;(·rw[if_pos h1,if_pos];by_cases h2:0<r.name.length;(·simp[ZX,QS,h1.1,h2]);·(have h3:0<r.key.length:=by omega);simp[ZX,QS,h1.1,h3]);·rw[if_neg h1];by_cases h2:(r.kind≠3∧0<r.last.length)∨(r.kind≠4∧0<r.value.length);(·rw[if_pos h2,if_pos];rcases h2 with⟨h2,h3⟩|⟨h2,h3⟩;(·simp[ZX,QS,h2,h3]);·simp[ZX,QS,h2,h3]);·rw[if_neg h2,if_neg];intro hb;simp only[ZX,QS,Bool.or_eq_true,rH,Bool.not_eq_true',decide_eq_true_iff,decide_eq_false_iff_not]at hb;rcases hb with((hb|hb)|hb)|hb;(·exact h1 ⟨hb.1,by omega⟩);(·exact h1 ⟨hb.1,by omega⟩);(·exact h2 (.inl hb));·exact h2 (.inr hb)
 rw[hf];unfold yB gP;generalize ZX r.kind r.name.length r.key.length r.last.length r.value.length 4=B;show _=if(tP (Qt r.name.length≠0)&&QW r.kind)=M then _ else if(tP (Qo r.key.length≠0)&&QW r.kind)=M then _ else if(tP (Qo r.last.length≠0)&&tP (r.kind=3))=M then _ else _;have h3:r.kind=3->QW r.kind=M:=fun h=>by rw[h];decide
 generalize Qt r.name.length=A at*;generalize Qo r.key.length=C at*;generalize Qo r.last.length=D at*;cases hN:QW r.kind with|false=>(have h3':¬r.kind=3:=fun h=>by rw[h3 h]at hN;cases hN);simp[h3']|true=>by_cases hA:A=0;(·by_cases hC:C=0;(·by_cases h4:r.kind=3;(·by_cases hD:D=0;(·simp[hA,hC,h4,hD]);·simp[hA,hC,h4,hD]);·simp[hA,hC,h4]);·simp[hA,hC]);·simp[hA]
theorem eX(r:Rq)(hk:¬(1<=r.kind∧r.kind<=8)):Ye r=5:=by
 rw[Ye,if_neg hk]
def Ld:Prop:=∀(w:F)(v u a b:H)(l:FL)(t:Tx)(n k:List UInt8),Zx w v l->VF l->GC w u t->zS t->Qe w a n->Qe w b k->n.length<=140737488355328->k.length<=140737488355328->sS O 93 #[v,u,a,b] w fun e w'=>∃x,e=tD (sE #[sP #[tL (K8 l t n k),x],tL (Uv l t n k),Y tC (Kj l t n k)])∧Qi 0 w' x (KW l t n k)∧L w w' G
def NY:Prop:=∀(w:F)(v r u:H)(l:FL)(n k:List UInt8),Zx w v l->Qe w r n->Qe w u k->VF l->n.length<=140737488355328->k.length<=140737488355328->sS O 12 #[v,r,u] w fun e w'=>∃x,e=tD (sE #[sP #[tL (Kl l n k),x],Y tC (Uu l n k)])∧Qe w' x (Km l n k)∧L w w' G
theorem XN{w:F}{b:Nat}{x y:H}{t:tX}(h:w.heap[b]?=I (S #[x,y] t)):w.cell? ⟨b,0,G⟩=I x∧w.cell? ⟨b,1,G⟩=I y∧w.frozen? ⟨b,0,G⟩=N∧w.frozen? ⟨b,1,G⟩=N:=by
 refine⟨?_,?_,?_,?_⟩<;>simp[tS,rV,h]
section
variable{D:List UInt8->List UInt8}{v u:Sv}
theorem Df(hD:∀x,(D x).length=4)(h:Zd D v)(hs:v.synced=v.commits.length){k:Int}(hk:0<=k):UI D v k=VU N v.tape v.commits v.out:=by
 obtain⟨j,h1,h2,h3,_⟩:=GZ hD h hk;obtain rfl:j=v.commits.length:=by omega
 rw[h3,sC];have hm:=h.mark;rw[hs,sC]at hm;have:(⟨QV D v.commits,((QV D v.commits).length:Int)⟩:VS)=v.tape:=by rw[<-hm,<-h.data]
 rw[this]
end
section
variable{D:List UInt8->List UInt8}{v:Sv}
def Uh(s:Nat)(r:Rq):Ac:=⟨1,(s:Int),0,JH r⟩
def Yo:Ac:=⟨2,0,0,[]⟩
def My(k:Int):Rq:=⟨k,[],[],[],[]⟩
theorem U6{s:Nat}(hs:s<=7){r:Rq}(hr:Yf r):YP (Uh s r):=⟨⟨(by
 decide:(1:Int)<=1),(by
 decide:(1:Int)<=4)⟩,fun _=>⟨Int.natCast_nonneg _,by
 show(s:Int)<=7;omega⟩,(fun h=>by
 cases h),(by
 have:=(FN hr).1;show(JH r).length<=4000;omega),(fun h=>absurd rfl h),(fun _=>rfl),(fun h=>absurd rfl h)⟩
theorem En:YP Yo:=⟨⟨by
 decide,by
 decide⟩,(fun h=>by
 cases h),(fun h=>by
 cases h),(by
 decide),(fun _=>rfl),(fun _=>rfl),(fun _=>rfl)⟩
theorem Nf(v:Sv)(s:Nat){r:Rq}(hr:Yf r):Y8 D v (Uh s r)=if v.up=N then ZC v (Va s 13)else JK D v s r:=by
 show(if(1:Int)=1then Xo D v (s:Int).toNat (JH r)else _)=_;rw[if_pos rfl,sU,Xo,(DX hr).1,(DX hr).2,if_pos rfl]
theorem DA(v:Sv):Y8 D v Yo=if v.up=M then Vc v else v:=by
 show(if(2:Int)=1then _ else if(2:Int)=2then _ else _)=_;rw[if_neg (by decide),if_pos rfl]
theorem vG{k:Int}(h:k=1∨k=6∨k=7):Yf (My k):=by
 have hn:QW k=N:=by rcases h with h|h|h<;>subst h<;>decide
 exact⟨by rcases h with h|h|h<;>subst h<;>decide,(fun e=>by rw[show(My k).kind=k from rfl,hn]at e;cases e),(fun e=>by rw[show(My k).kind=k from rfl,hn]at e;cases e),(fun e=>by have:k=3:=e;omega),(by decide:(0:Nat)<=32),fun _=>rfl,fun _=>rfl,fun _=>rfl,fun _=>rfl⟩
end
section
structure Se where
  begun : Bool
  start : Int
  writes : List Zf
structure Md where
  ses : Nat -> Se
  states : List FL
variable{D:List UInt8->List UInt8}{v:Sv}{m:Md}
theorem Gf(v:Sv)(n:Nat):ZQ (Qz v n):=Vm _ _ Uy
end
section
variable{D:List UInt8->List UInt8}{v:Sv}{m:Md}
theorem Dn{r:Rq}(hr:Yf r)(hk:r.kind=2∨r.kind=3):(1<=r.name.length∧r.name.length<=8)∧(1<=r.key.length∧r.key.length<=16):=by
 have:QW r.kind=M:=by rcases hk with e|e<;>rw[e]<;>decide
 exact⟨hr.name this,hr.key this⟩
end
def Hl:Prop:=∀(w:F)(v u:H)(t:Tx)(l:List XA),GC w v t->zS t->Jc w u l->Bi l->sS O 115 #[v,u] w fun e w'=>e=tD (sE #[tL (JS t l),Y tC (F1 t)])∧L w w' G
def cU:Prop:=∀(w:F)(v:H)(c:XA),JY w v c->EO c->sS O 142 #[v] w fun e w'=>∃x,e=tD (sE #[x,Y tC (QZ c)])∧Qe w' x (F7 c)∧L w w' G
def Lc:Prop:=∀(w:F)(v:H)(c:XA),JY w v c->EO c->sS O 146 #[v] w fun e w'=>e=tD (Y tC (QZ c))∧L w w' G
theorem FW(w:F):(sizeOf (O.elem 27)).run O w=.ok 1 w:=by
 kernel_rfl
theorem Qe.cap{w:F}{a:Option sY}{n cap:Nat}{bs:List UInt8}(h:Qe w (J a n cap) bs):bs.length<=cap∧n=bs.length:=by
 obtain⟨a',cap',e,hc,_⟩:=h;simp only[tH]at e;obtain⟨_,rfl,rfl⟩:=e;exact⟨hc,rfl⟩
theorem Qe.byte{w:F}{a:Option sY}{n cap:Nat}{bs:List UInt8}(h:Qe w (J a n cap) bs)(i:Nat)(hi:i<bs.length):∃b o,a=I ⟨b,o,G⟩∧KJ w b o bs:=by
 obtain⟨a',cap',e,hc,h⟩:=h;simp only[tH]at e;obtain⟨rfl,rfl,rfl⟩:=e;rcases h with⟨rfl,_⟩|⟨b,o,rfl,h⟩;·simp at hi
 ·exact⟨b,o,rfl,h⟩
theorem Qe.sliced{w:F}{a:Option sY}{cap:Nat}{l:List UInt8}(h:Qe w (J a l.length cap) l)(i j:Nat)(hij:i<=j)(hj:j<=l.length):Qe w (sO a i j cap 1) ((l.take j).drop i):=by
 obtain⟨a',cap',e,hc,h⟩:=h;simp only[tH,true_and]at e;obtain⟨rfl,rfl⟩:=e;have hlen:((l.take j).drop i).length=j-i:=by simp;omega
 refine⟨if cap=i then a else a.map (·.add (i*1)),cap-i,by rw[hlen];rfl,by rw[hlen];omega,?_⟩;by_cases hci:cap=i;·left;exact⟨tJ (by rw[hlen];omega),fun _=>by omega⟩
 ·rw[if_neg hci];rcases h with⟨rfl,h⟩|⟨b,o,rfl,h⟩;(·left;refine⟨by simp,fun e=>?_⟩;cases a with|none=>have:=h rfl;simp at hj;omega|some x=>cases e);·right;refine⟨b,o+i,by simp[Z7],fun k hk=>?_⟩;rw[hlen]at hk;have:=h (i+k) (by omega);(have e:((l.take j).drop i).getD k 0=l.getD (i+k) 0:=by simp[show i+k<j by omega]);rw[e,show o+i+k=o+(i+k)by omega];exact this
theorem zM(a:Option sY)(cap:Nat)(l:List UInt8)(n:Nat)(hn:n<=l.length)(hc:l.length<=cap):∃a1 c1,(∀W,(rS 27 (J a l.length cap) G (I (Y tC (n:Int))) G).run O W=.ok (J a1 n c1) W)∧∀W,Qe W (J a l.length cap) l->Qe W (J a1 n c1) (l.take n):=by
 refine⟨if cap=0then a else a.map (·.add (0*1)),cap-0,fun W=>?_,fun W h=>?_⟩;·rw[run_slice_h _ _ _ _ _ (by kernel_rfl) _ _ (by omega) (by omega),FW];simp only[rD,sO,sU,pE]
 ·have:=h.sliced 0 n (by omega) hn;simpa only[sO,oC,pE]using this
theorem Gw(a:Option sY)(cap:Nat)(l:List UInt8)(i j:Nat)(hij:i<=j)(hj:j<=l.length)(hc:l.length<=cap):∃a1 c1,(∀W,(rS 27 (J a l.length cap) (I (Y tC (i:Int))) (I (Y tC (j:Int))) G).run O W=.ok (J a1 (j-i) c1) W)∧∀W,Qe W (J a l.length cap) l->Qe W (J a1 (j-i) c1) ((l.take j).drop i):=by
 refine⟨if cap=i then a else a.map (·.add (i*1)),cap-i,fun W=>?_,fun W h=>?_⟩;·rw[run_slice_lh _ _ _ _ _ (by kernel_rfl) _ _ _ _ (by omega) (by omega) (by omega),FW];simp only[rD,sO,sU]
 ·have:=h.sliced i j hij hj;simpa only[sO]using this
theorem VG(a:Option sY)(cap:Nat)(l:List UInt8)(n:Nat)(hn:n<=l.length):∃a1 c1,(∀W,(rS 27 (J a l.length cap) (I (Y tC (n:Int))) G G).run O W=.ok (J a1 (l.length-n) c1) W)∧∀W,Qe W (J a l.length cap) l->Qe W (J a1 (l.length-n) c1) (l.drop n):=by
 refine⟨if cap=n then a else a.map (·.add (n*1)),cap-n,fun W=>?_,fun W h=>?_⟩;·rw[run_slice_l _ _ _ _ _ (by kernel_rfl) _ _ (by omega) (by omega),FW];simp only[rD,sO,sU]
 ·have:=h.sliced n l.length hn (tY _);simpa only[sO,sC]using this
theorem Dp{ws:List Zf}(hn:ws.length<=1000)(h:∀w∈ws,QA w=0):kL ws:=⟨by
 omega,fun j hj=>by
 have h0:=h ws[j] (sN hj);rw[show ws[j]=ws.getD j Qp by simp[hj]]at h0;have h2:=(XI _).1 h0;have h3:(ws.getD j Qp).value.length<=32:=by have:=h2.2.2;split at this;(·rw[this];simp);·exact this
 exact⟨by omega,by omega,by omega⟩⟩
theorem ME{c:XA}(h:QZ c=0):EO c:=by
 obtain⟨h1,h2,h3⟩:=(KR c).1 h;exact⟨by omega,Dp (by omega) h3⟩
def Wc:Prop:=∀(w:F)(v u a b c:H)(l:FL)(t:Tx)(n k m:List UInt8),Zx w v l->VF l->GC w u t->zS t->Qe w a n->Qe w b k->Qe w c m->n.length<=140737488355328->k.length<=140737488355328->m.length<=140737488355328->sS O 95 #[v,u,a,b,c] w fun e w'=>∃x,e=tD (sE #[x,Y tC (Ku l t n k m)])∧QN 0 w' x (VM l t n k m)∧L w w' G
def WI:Prop:=∀(w:F)(v u x:H)(l:PL)(f t:List UInt8),Qq w v l->Qe w u f->Qe w x t->kI l->f.length<=140737488355328->t.length<=140737488355328->sS O 131 #[v,u,x] w fun e w'=>∃y,e=tD (sE #[y,Y tC (Yx l f t)])∧QN 0 w' y (KO l f t)∧L w w' G
def We:Prop:=∀(w:F)(v r u t:H)(l:FL)(n k m:List UInt8),Zx w v l->Qe w r n->Qe w u k->Qe w t m->VF l->n.length<=140737488355328->k.length<=140737488355328->m.length<=140737488355328->sS O 108 #[v,r,u,t] w fun e w'=>∃x,e=tD (sE #[x,Y tC (Yz l n k m)])∧QN 0 w' x (Kg l n k m)∧L w w' G
def E9:Prop:=∀(w:F)(v:H)(bs:List UInt8)(i:Int),Qe w v bs->sS O 69 #[v,Y tC i] w fun e w'=>e=tD (sE #[tL (Br bs i).1,Y tC (Br bs i).2])∧L w w' G
theorem E9.of(hB:E9)(w:F)(v:H)(k:List UInt8)(i:Nat)(hv:Qe w v k)(hk:1<=k.length∧k.length<=16)(hi:i<145):sS O 69 #[v,Y tC (i:Int)] w fun e w'=>e=tD (sE #[tL (ZN k i),Y tC 0])∧L w w' G:=by
 have:=hB w v k i hv;rw[bL k i hk hi]at this;exact this
def Rc:Prop:=∀(w:F)(v u:H)(a b:List UInt8),Qe w v a->Qe w u b->sS O 72 #[v,u] w fun e w'=>e=tD (sE #[Y tC (Fz a b).1,Y tC (Fz a b).2])∧L w w' G
theorem Rc.of(hP:Rc)(w:F)(v u:H)(a b:List UInt8)(hv:Qe w v a)(hu:Qe w u b)(ha:1<=a.length∧a.length<=16)(hb:1<=b.length∧b.length<=16):sS O 72 #[v,u] w fun e w'=>e=tD (sE #[Y tC (JG a b),Y tC 0])∧L w w' G:=by
 have:=hP w v u a b hv hu;rw[Ob a b ha hb]at this;exact this
def AJ:Prop:=∀(w:F)(v u:H)(t:Tx)(r:Zf),GC w v t->zS t->Xb w u r->YS r->sS O 97 #[v,u] w fun e w'=>∃x,e=tD (sE #[x,Y tC (Z5 t r)])∧Gx w' x (Yc t r)∧L w w' G
def Lk:Prop:=∀(w:F)(v:H)(r:Rq),Vj w->X0 w v r->xT r->sS O 96 #[v] w fun e w'=>∃x,e=tD (sE #[x,Y tC (YN r)])∧Xb w' x (ZW r)∧L w w' G
def Od:Prop:=∀(w:F)(n t:Int),-9223372036854775808<=n->n<=9223372036854775807->-9223372036854775808<=t->t<=9223372036854775807->sS O 92 #[Y tC n,Y tC t] w fun e w'=>e=tD (tL (ZI n t))∧L w w' G
def aW:Prop:=∀(w:F)(v:H)(b:List UInt8),Vj w->Qe w v b->b.length<=140737488355328->sS O 74 #[v] w fun e w'=>∃x,e=tD (sE #[x,Y tC (QL b)])∧X0 w' x (Qu b)∧L w w' G
theorem Wk(b:List UInt8)(n:Nat)(h:n<b.length):Zt (b.drop n)=if n+1+(b.getD n 0).toNat<=b.length then I ((b.take (n+1+(b.getD n 0).toNat)).drop (n+1),b.drop (n+1+(b.getD n 0).toNat))else G:=by
 rw[sR h,Zt,show b[n]=b.getD n 0 by simp[h],pQ];by_cases hc:n+1+(b.getD n 0).toNat<=b.length;·rw[if_pos (by omega),if_pos hc,List.drop_take,List.drop_drop,Nat.add_sub_cancel_left]
 ·rw[if_neg (by omega),if_neg hc]
def TY(ws:List Zf):Prop:=∀p∈ws,p.name.length<=255∧p.key.length<=255∧p.value.length<=255
theorem Cg{ws:List Zf}{p:Zf}(h:TY ws)(hp:p.name.length<=255∧p.key.length<=255∧p.value.length<=255):TY (ws++[p]):=fun q hq=>by
 rcases tZ.1 hq with hq|hq;·exact h q hq
 ·simp only[tK,tQ,or_false]at hq;rw[hq];exact hp
theorem Hd{b:List UInt8}(h:4000<b.length):YD b=1∧JB b=Zl:=by
 have:YD b=1:=by rw[YD,if_pos h]
 exact⟨this,by rw[JB,this,if_neg (by decide)]⟩
theorem AG{b:List UInt8}(h:b.length<4):YD b=14∧JB b=Zl:=by
 have:YD b=14:=by rw[YD,if_neg (by omega),if_pos h]
 exact⟨this,by rw[JB,this,if_neg (by decide)]⟩
theorem Lm{b:List UInt8}(h1:¬4000<b.length)(h2:¬b.length<4)(h:GH b=G):YD b=14∧JB b=Zl:=by
 have:YD b=14:=by rw[YD,if_neg h1,if_neg h2,h]
 exact⟨this,by rw[JB,this,if_neg (by decide)]⟩
theorem La{b r:List UInt8}{ws:List Zf}(h1:¬4000<b.length)(h2:¬b.length<4)(h:GH b=I (ws,r))(hr:r.length≠0):YD b=4∧JB b=Zl:=by
 have:YD b=4:=by rw[YD,if_neg h1,if_neg h2,h];show(if r.length=0then _ else(4:Int))=4;rw[if_neg hr]
 exact⟨this,by rw[JB,this,if_neg (by decide)]⟩
theorem Hs{b r:List UInt8}{ws:List Zf}(h1:¬4000<b.length)(h2:¬b.length<4)(h:GH b=I (ws,r))(hr:r.length=0):YD b=QZ ⟨(VW b:Int),ws⟩∧(YD b=0->JB b=⟨(VW b:Int),ws⟩)∧(YD b≠0->JB b=Zl):=by
 have:YD b=QZ ⟨(VW b:Int),ws⟩:=by rw[YD,if_neg h1,if_neg h2,h];show(if r.length=0then _ else(4:Int))=_;rw[if_pos hr]
 refine⟨this,fun h0=>?_,fun h0=>?_⟩;·rw[JB,if_pos h0,h]
 ·rw[JB,if_neg h0]
def Xg(k:Int)(m:Nat)(p0 p1 p2 p3 r:List UInt8):Option (Rq×List UInt8):=match m with|0=>X9 k r|1=>Vd k p0 r|2=>Vf k p0 p1 r|3=>Ve k p0 p1 p2 r|_=>I (⟨k,p0,p1,p2,p3⟩,r)
theorem JX(r:List UInt8):Jh M r=Zt r:=rfl
theorem yC(r:List UInt8)(h:r.length=0):Zt r=G:=by
 rw[tJ h];rfl
theorem kP(r:List UInt8)(h:0<r.length):Zt r=if 1+(r.getD 0 0).toNat<=r.length then I ((r.take (1+(r.getD 0 0).toNat)).drop 1,r.drop (1+(r.getD 0 0).toNat))else G:=by
 have:=Wk r 0 h;rw[sM]at this;exact this
theorem GQ(k:Int)(p0 p1 p2 p3 r:List UInt8):(QS k 0=N->Xg k 0 p0 p1 p2 p3 r=Xg k 1 [] p1 p2 p3 r)∧(QS k 1=N->Xg k 1 p0 p1 p2 p3 r=Xg k 2 p0 [] p2 p3 r)∧(QS k 2=N->Xg k 2 p0 p1 p2 p3 r=Xg k 3 p0 p1 [] p3 r)∧(QS k 3=N->Xg k 3 p0 p1 p2 p3 r=Xg k 4 p0 p1 p2 [] r):=by
 refine⟨fun h=>?_,fun h=>?_,fun h=>?_,fun h=>?_⟩;·show X9 k r=Vd k [] r;rw[X9,show QW k=N from h];rfl
 ·show Vd k p0 r=Vf k p0 [] r;rw[Vd,show QW k=N from h];rfl
 ·show Vf k p0 p1 r=Ve k p0 p1 [] r;rw[Vf,show tP (k=3)=N from h];rfl
 ·show Ve k p0 p1 p2 r=I (⟨k,p0,p1,p2,[]⟩,r);rw[Ve,show tP (k=4)=N from h];rfl
theorem VY(k:Int)(p0 p1 p2 p3 r:List UInt8)(h0:Zt r=G)(m:Nat)(hm:m<4)(h:QS k m=M):Xg k m p0 p1 p2 p3 r=G:=by
 match m,hm with|0,_=>show X9 k r=G;rw[X9,show QW k=M from h,JX,h0]|1,_=>show Vd k p0 r=G;rw[Vd,show QW k=M from h,JX,h0]|2,_=>show Vf k p0 p1 r=G;rw[Vf,show tP (k=3)=M from h,JX,h0]|3,_=>show Ve k p0 p1 p2 r=G;rw[Ve,show tP (k=4)=M from h,JX,h0]
theorem VZ(k:Int)(p0 p1 p2 p3 r p r2:List UInt8)(h0:Zt r=I (p,r2)):(QS k 0=M->Xg k 0 p0 p1 p2 p3 r=Xg k 1 p p1 p2 p3 r2)∧(QS k 1=M->Xg k 1 p0 p1 p2 p3 r=Xg k 2 p0 p p2 p3 r2)∧(QS k 2=M->Xg k 2 p0 p1 p2 p3 r=Xg k 3 p0 p1 p p3 r2)∧(QS k 3=M->Xg k 3 p0 p1 p2 p3 r=Xg k 4 p0 p1 p2 p r2):=by
 refine⟨fun h=>?_,fun h=>?_,fun h=>?_,fun h=>?_⟩;·show X9 k r=Vd k p r2;rw[X9,show QW k=M from h,JX,h0]
 ·show Vd k p0 r=Vf k p0 p r2;rw[Vd,show QW k=M from h,JX,h0]
 ·show Vf k p0 p1 r=Ve k p0 p1 p r2;rw[Vf,show tP (k=3)=M from h,JX,h0]
 ·show Ve k p0 p1 p2 r=I (⟨k,p0,p1,p2,p⟩,r2);rw[Ve,show tP (k=4)=M from h,JX,h0]
def Hg(k:Int)(b:List UInt8):Int:=match X9 k b with|none=>14|I (_,x)=>if x.length=0then 0 else 4
def F8(k:Int)(b:List UInt8):Rq:=match X9 k b with|none=>VT|I (r,x)=>if x.length=0then r else VT
theorem Fo{k:Int}{b:List UInt8}(h:X9 k b=G):Hg k b=14∧F8 k b=VT:=by
 unfold Hg F8;rw[h];exact⟨rfl,rfl⟩
theorem Fs{k:Int}{b x:List UInt8}{r:Rq}(h:X9 k b=I (r,x))(hx:0<x.length):Hg k b=4∧F8 k b=VT:=by
 unfold Hg F8;rw[h];exact⟨if_neg (by omega),if_neg (by omega)⟩
theorem Fn{k:Int}{b x:List UInt8}{r:Rq}(h:X9 k b=I (r,x))(hx:x.length=0):Hg k b=0∧F8 k b=r:=by
 unfold Hg F8;rw[h];exact⟨if_pos hx,if_pos hx⟩
theorem bY{k:Int}{b:List UInt8}(h:Hg k b=0):(F8 k b).kind=k:=by
 match hD:X9 k b with|none=>rw[(Fo hD).1]at h;cases h|I (r,x)=>by_cases hx:x.length=0;(·rw[(Fn hD hx).2];exact(F6 hD).2);·rw[(Fs hD (by omega)).1]at h;cases h
theorem bQ{b:List UInt8}(h1:¬4000<b.length)(h2:¬b.length=0)(hk:1<=Uq b∧Uq b<=8):QL b=(if Hg (Uq b) (b.drop 1)=0then Ye (F8 (Uq b) (b.drop 1))else Hg (Uq b) (b.drop 1))∧(QL b=0->Qu b=F8 (Uq b) (b.drop 1)):=by
 match hD:X9 (Uq b) (b.drop 1)with|none=>obtain⟨e1,e2⟩:=Fo hD;(have:QL b=14:=by rw[QL,if_neg h1,if_neg h2,if_pos hk,hD]);rw[e1,this];exact⟨rfl,fun h=>by cases h⟩|I (r,x)=>(have hw:QL b=if x.length=0then Ye r else 4:=by rw[QL,if_neg h1,if_neg h2,if_pos hk,hD]);by_cases hx:x.length=0;(·obtain⟨e1,e2⟩:=Fn hD hx;rw[if_pos hx]at hw;rw[e1,e2,if_pos rfl];exact⟨hw,fun h=>by rw[Qu,if_pos h,hD]⟩);·obtain⟨e1,e2⟩:=Fs hD (by omega);rw[if_neg hx]at hw;rw[e1,hw];exact⟨rfl,fun h=>by cases h⟩
theorem aV{k:Int}{b:List UInt8}(hb:b.length<=4000):(F8 k b).name.length<=4000∧(F8 k b).key.length<=4000∧(F8 k b).last.length<=4000∧(F8 k b).value.length<=4000:=by
 match hD:X9 k b with|none=>rw[(Fo hD).2];simp[VT]|I (r,x)=>by_cases hx:x.length=0;(·rw[(Fn hD hx).2];obtain⟨_,r1,r2,r3,h1,h2,h3,h4⟩:=kC hD;(have key:∀{c:Bool}{r p r2:List UInt8},Jh c r=I (p,r2)->p.length<=r.length∧r2.length<=r.length:=by intro c r p r2 h;have hf:=VE h;cases c with|false=>have:=Hp h rfl;subst this;rw[hf];exact⟨tR _,by simp[Xl]⟩|true=>rw[hf];simp[Xl,XM];omega);have a1:=key h1;have a2:=key h2;have a3:=key h3;have a4:=key h4;omega);·rw[(Fs hD (by omega)).2];simp[VT]
section
variable{D:List UInt8->List UInt8}{v:Sv}
theorem So(hD:∀x,(D x).length=4):∀(cs:List XA),(∀c∈cs,QZ c=0)->(QV D cs).length<=600*cs.length|[],_=>by simp[QV]|c::cs,h=>by have h1:=(xS hD (h c sX)).2;have h2:=So hD cs (fun x hx=>h x (sK _ hx));(have e:QV D (c::cs)=ZA D c++QV D cs:=by simp[QV]);rw[e,tB,sG];omega
theorem Zd.each(h:Zd D v):∀c∈v.commits,QZ c=0:=fun c hc=>by
 obtain⟨i,hi,e⟩:=List.getElem_of_mem hc;have:=(h.goes.at i hi).1;rw[List.getD_eq_getElem?_getD,List.getElem?_eq_getElem hi,e]at this;exact this
theorem aB(hD:∀x,(D x).length=4)(h:Zd D v){s:Nat}(hb:v.begun s=M)(hw:¬(v.txns s).writes.length=0):U4 D v.tape (XZ v s)=0:=by
 have hm:=h.many;have hc:QZ (XZ v s)=0:=PR (h.tx s hb).1 hw v.commits.length hm;have h1:=(xS hD hc).2;have h2:=So hD v.commits h.each;have hd:=h.data;rw[U4,if_pos h.may,if_pos hc,if_neg (by rw[hd];omega)]
end
def XQ(r:Rq):Nat->List UInt8|0=>[rT r.kind.toNat]|1=>[rT r.kind.toNat]++Xl (QS r.kind 0) r.name|2=>[rT r.kind.toNat]++Xl (QS r.kind 0) r.name++Xl (QS r.kind 1) r.key|3=>[rT r.kind.toNat]++Xl (QS r.kind 0) r.name++Xl (QS r.kind 1) r.key++Xl (QS r.kind 2) r.last|_=>[rT r.kind.toNat]++Xl (QS r.kind 0) r.name++Xl (QS r.kind 1) r.key++Xl (QS r.kind 2) r.last++Xl (QS r.kind 3) r.value
theorem Ha(r:Rq):XQ r 4=JH r:=by
 show[rT r.kind.toNat]++Xl (QW r.kind) r.name++Xl (QW r.kind) r.key++Xl (tP (r.kind=3)) r.last++Xl (tP (r.kind=4)) r.value=_;rw[JH,qV];simp[List.append_assoc]
theorem Lr{r:Rq}(h:Yf r)(m:Nat):(XQ r m).length<=200:=by
 have k1:r.name.length<=8:=by by_cases e:QW r.kind=M;(·exact(h.name e).2);·rw[h.noName (by simpa using e)];simp
 have k2:r.key.length<=16:=by by_cases e:QW r.kind=M;(·exact(h.key e).2);·rw[h.noKey (by simpa using e)];simp
 have k3:r.last.length<=16:=by by_cases e:r.kind=3;(·exact(h.last e).2);·rw[h.noLast e];simp
 have k4:=h.value;have l1:=KY (QS r.kind 0) r.name;have l2:=KY (QS r.kind 1) r.key;have l3:=KY (QS r.kind 2) r.last;have l4:=KY (QS r.kind 3) r.value;match m with|0=>simp[XQ]|1=>simp only[XQ,tB,sA];omega|2=>simp only[XQ,tB,sA];omega|3=>simp only[XQ,tB,sA];omega|m+4=>simp only[XQ,tB,sA];omega
structure Vk where
  rest : List UInt8
  short : Bool
def Fa(r:Vk)(n:Nat):List UInt8:=if r.short=M∨r.rest.length<n then[]else r.rest.take n
def CI(r:Vk)(n:Nat):Vk:=if r.short=M∨r.rest.length<n then⟨r.rest,M⟩else⟨r.rest.drop n,N⟩
theorem Fy{r:Vk}{n:Nat}(h:r.short=M∨r.rest.length<n):Fa r n=[]∧CI r n=⟨r.rest,M⟩:=⟨if_pos h,if_pos h⟩
theorem uR{r:Vk}{n:Nat}(h:¬(r.short=M∨r.rest.length<n)):Fa r n=r.rest.take n∧CI r n=⟨r.rest.drop n,N⟩:=⟨if_neg h,if_neg h⟩
theorem aN(r:Vk)(n:Nat):(Fa r n).length<=n:=by
 unfold Fa;split;·simp
 ·rw[rW];omega
def Xf(r:Vk):Vk:=CI r 1
def JD(r:Vk):Nat:=if(Xf r).short=M then 0 else((Fa r 1).getD 0 0).toNat
theorem Yl(r:Vk):JD r<256:=by
 unfold JD;split;·omega
 ·exact((Fa r 1).getD 0 0).toNat_lt
theorem YX(x:UInt8)(l:List UInt8):Xf ⟨x::l,N⟩=⟨l,N⟩∧JD ⟨x::l,N⟩=x.toNat:=by
 have h:¬((⟨x::l,N⟩:Vk).short=M∨(⟨x::l,N⟩:Vk).rest.length<1):=by simp
 obtain⟨h1,h2⟩:=uR h;have h3:Xf ⟨x::l,N⟩=⟨l,N⟩:=h2;refine⟨h3,?_⟩;rw[JD,h3,h1,if_neg (by simp)];rfl
theorem vK{r:Vk}(h:r.short=M)(n:Nat):(CI r n).short=M:=by
 rw[(Fy (.inl h)).2]
theorem Kc{r:Vk}(h:r.short=M):(Xf r).short=M:=vK h 1
theorem xW:(Xf ⟨[],N⟩).short=M:=rfl
def Sk(r:Vk):List UInt8:=Fa (Xf r) (JD r)
def KI(r:Vk):Vk:=CI (Xf r) (JD r)
theorem Vw{r:Vk}(h:r.short=M):(KI r).short=M:=vK (Kc h) _
theorem vA{l p l2:List UInt8}(h:Zt l=I (p,l2)):Sk ⟨l,N⟩=p∧KI ⟨l,N⟩=⟨l2,N⟩:=by
 cases l with|nil=>cases h|cons x l=>rw[Zt]at h;obtain⟨h1,h2⟩:=YX x l;unfold Sk KI;rw[h1,h2];by_cases hx:x.toNat<=l.length;(·rw[if_pos hx]at h;simp only[tA,rU]at h;obtain⟨rfl,rfl⟩:=h;exact uR (by simp;omega));·rw[if_neg hx]at h;cases h
theorem Fp{l:List UInt8}(h:Zt l=G):(KI ⟨l,N⟩).short=M:=by
 cases l with|nil=>exact vK xW _|cons x l=>rw[Zt]at h;obtain⟨h1,h2⟩:=YX x l;unfold KI;rw[h1,h2];by_cases hx:x.toNat<=l.length;(·rw[if_pos hx]at h;cases h);·rw[(Fy (.inr (by show l.length<x.toNat;omega))).2]
theorem TL(r:Vk):(Sk r).length<=255:=tN (aN _ _) (pR (Yl r))
def FA(r:Vk):Zf:=if JD (KI (KI r))=255then⟨Sk r,Sk (KI r),[],M⟩else⟨Sk r,Sk (KI r),Sk (KI (KI r)),N⟩
def Cv(r:Vk):Vk:=if JD (KI (KI r))=255then Xf (KI (KI r))else KI (KI (KI r))
theorem DG{r:Vk}(h:r.short=M):(Cv r).short=M:=by
 unfold Cv;split;·exact Kc (Vw (Vw h))
 ·exact Vw (Vw (Vw h))
theorem Tw{r:Vk}(h:(KI (KI r)).short=M):(Cv r).short=M:=by
 unfold Cv;split;·exact Kc h
 ·exact Vw h
theorem bU{l l2:List UInt8}{p:Zf}(h:Jd l=I (p,l2)):FA ⟨l,N⟩=p∧Cv ⟨l,N⟩=⟨l2,N⟩:=by
 unfold Jd at h;cases h1:Zt l with|none=>rw[h1]at h;cases h|some q=>obtain⟨n,la⟩:=q;rw[h1]at h;have h:Mc n la=I (p,l2):=h;unfold Mc at h;obtain⟨a1,a2⟩:=vA h1;cases h2:Zt la with|none=>rw[h2]at h;cases h|some q=>obtain⟨k,lb⟩:=q;rw[h2]at h;have h:uA n k lb=I (p,l2):=h;unfold uA at h;obtain⟨b1,b2⟩:=vA h2;unfold FA Cv;rw[a1,a2,b1,b2];cases lb with|nil=>cases h|cons x lb=>obtain⟨c1,c2⟩:=YX x lb;by_cases hx:(x::lb).head?=I 255;(·rw[if_pos hx]at h;simp only[tA,rU]at h;obtain⟨rfl,rfl⟩:=h;have:x=255:=oF hx;subst this;rw[c2,c1,if_pos (by rfl),if_pos (by rfl)];exact⟨rfl,rfl⟩);·rw[if_neg hx]at h;have hne:¬x.toNat=255:=fun e=>hx (by rw[show x=255from pS.1 e];rfl);rw[c2,if_neg hne,if_neg hne];cases h3:Zt (x::lb)with|none=>rw[h3]at h;cases h|some q=>obtain⟨v,lc⟩:=q;rw[h3]at h;simp only[tA,rU]at h;obtain⟨rfl,rfl⟩:=h;obtain⟨d1,d2⟩:=vA h3;rw[d1,d2];exact⟨rfl,rfl⟩
theorem bA{l:List UInt8}(h:Jd l=G):(Cv ⟨l,N⟩).short=M:=by
 unfold Jd at h;cases h1:Zt l with|none=>exact Tw (Vw (Fp h1))|some q=>obtain⟨n,la⟩:=q;rw[h1]at h;have h:Mc n la=G:=h;unfold Mc at h;obtain⟨a1,a2⟩:=vA h1;cases h2:Zt la with|none=>exact Tw (by rw[a2];exact Fp h2)|some q=>obtain⟨k,lb⟩:=q;rw[h2]at h;have h:uA n k lb=G:=h;unfold uA at h;obtain⟨b1,b2⟩:=vA h2;unfold Cv;rw[a2,b2];cases lb with|nil=>split;(·exact xW);·exact Fp rfl|cons x lb=>obtain⟨c1,c2⟩:=YX x lb;by_cases hx:(x::lb).head?=I 255;(·rw[if_pos hx]at h;cases h);·rw[if_neg hx]at h;have hne:¬x.toNat=255:=fun e=>hx (by rw[show x=255from pS.1 e];rfl);rw[c2,if_neg hne];cases h3:Zt (x::lb)with|none=>exact Fp h3|some q=>obtain⟨v,lc⟩:=q;rw[h3]at h;cases h
theorem Is(r:Vk):(FA r).name.length<=255∧(FA r).key.length<=255∧(FA r).value.length<=255:=by
 unfold FA;split;·exact⟨TL _,TL _,by simp⟩
 ·exact⟨TL _,TL _,TL _⟩
def UB:Nat->Vk->Vk|0,r=>r|n+1,r=>Cv (UB n r)
def Ut:Nat->Vk->List Zf|0,_=>[]|n+1,r=>Ut n r++[FA (UB n r)]
theorem Mn:∀(n:Nat)(r:Vk),(Ut n r).length=n|0,_=>rfl|n+1,r=>by rw[Ut,tB,Mn n r];rfl
theorem Ey:∀(n:Nat)(r:Vk),TY (Ut n r)|0,_=>fun p hp=>by simp[Ut]at hp|n+1,r=>Cg (Ey n r) (Is _)
theorem Et:∀(n:Nat){r:Vk},r.short=M->(UB n r).short=M|0,_,h=>h|n+1,_,h=>DG (Et n h)
theorem uQ:∀(n:Nat){l l2:List UInt8}{ws:List Zf},ZP n l=I (ws,l2)->Ut n ⟨l,N⟩=ws∧UB n ⟨l,N⟩=⟨l2,N⟩|0,l,l2,ws,h=>by rw[ZP]at h;simp only[tA,rU]at h;obtain⟨rfl,rfl⟩:=h;exact⟨rfl,rfl⟩|n+1,l,l2,ws,h=>by rw[zN]at h;cases h1:ZP n l with|none=>rw[h1]at h;cases h|some q=>obtain⟨ws1,l1⟩:=q;rw[h1]at h;have h:(match Jd l1 with|I (w,r2)=>I (ws1++[w],r2)|none=>G)=I (ws,l2):=h;obtain⟨e1,e2⟩:=uQ n h1;cases h2:Jd l1 with|none=>rw[h2]at h;cases h|some q=>obtain⟨p,l3⟩:=q;rw[h2]at h;simp only[tA,rU]at h;obtain⟨rfl,rfl⟩:=h;obtain⟨d1,d2⟩:=bU h2;rw[Ut,UB,e1,e2,d1,d2];exact⟨rfl,rfl⟩
theorem Du:∀(n:Nat){l:List UInt8},ZP n l=G->(UB n ⟨l,N⟩).short=M|0,l,h=>by rw[ZP]at h;cases h|n+1,l,h=>by rw[zN]at h;cases h1:ZP n l with|none=>exact DG (Du n h1)|some q=>obtain⟨ws1,l1⟩:=q;rw[h1]at h;have h:(match Jd l1 with|I (w,r2)=>I (ws1++[w],r2)|none=>G)=G:=h;obtain⟨e1,e2⟩:=uQ n h1;cases h2:Jd l1 with|none=>rw[UB,e2];exact bA h2|some q=>obtain⟨p,l3⟩:=q;rw[h2]at h;cases h
def RS(r:Vk):Vk:=UB (JD (Xf (Xf (Xf r)))) (Xf (Xf (Xf (Xf r))))
def Ea(r:Vk):XA:=⟨((65536*JD r+256*JD (Xf r)+JD (Xf (Xf r)):Nat):Int),Ut (JD (Xf (Xf (Xf r)))) (Xf (Xf (Xf (Xf r))))⟩
theorem M4(r:Vk):TY (Ea r).writes∧(Ea r).writes.length<=255:=⟨Ey _ _,by
 show(Ut _ _).length<=255;rw[Mn];exact pR (Yl _)⟩
theorem SU(b:List UInt8)(h:¬b.length<4):JD ⟨b,N⟩=(b.getD 0 0).toNat∧JD (Xf ⟨b,N⟩)=(b.getD 1 0).toNat∧JD (Xf (Xf ⟨b,N⟩))=(b.getD 2 0).toNat∧JD (Xf (Xf (Xf ⟨b,N⟩)))=(b.getD 3 0).toNat∧Xf (Xf (Xf (Xf ⟨b,N⟩)))=⟨b.drop 4,N⟩:=by
 match b,h with|[],h=>exact absurd (by simp) h|[_],h=>exact absurd (by simp) h|[_,_],h=>exact absurd (by simp) h|[_,_,_],h=>exact absurd (by simp) h|x0::x1::x2::x3::b,_=>obtain⟨a1,a2⟩:=YX x0 (x1::x2::x3::b);obtain⟨b1,b2⟩:=YX x1 (x2::x3::b);obtain⟨c1,c2⟩:=YX x2 (x3::b);obtain⟨d1,d2⟩:=YX x3 b;rw[a1,b1,c1,d1];exact⟨a2,b2,c2,d2,rfl⟩
theorem fI(b:List UInt8)(h:b.length<4):(RS ⟨b,N⟩).short=M:=by
 unfold RS;refine Et _ ?_;match b,h with|[],_=>exact Kc (Kc (Kc xW))|[x],_=>rw[(YX x []).1];exact Kc (Kc xW)|[x,y],_=>rw[(YX x [y]).1,(YX y []).1];exact Kc xW|[x,y,z],_=>rw[(YX x [y,z]).1,(YX y [z]).1,(YX z []).1];exact xW|_::_::_::_::_,h=>exact absurd h (by simp only[sG];omega)
theorem Im{b:List UInt8}(h0:¬4000<b.length)(h:(RS ⟨b,N⟩).short=M):YD b=14∧JB b=Zl:=by
 by_cases h4:b.length<4;·exact AG h4
 ·obtain⟨_,_,_,e3,e4⟩:=SU b h4;cases hb:GH b with|none=>exact Lm h0 h4 hb|some q=>obtain⟨ws,l⟩:=q;obtain⟨_,e5⟩:=uQ _ hb;unfold RS at h;rw[e3,e4,e5]at h;cases h
theorem MS{b:List UInt8}(h:(RS ⟨b,N⟩).short=N):¬b.length<4∧GH b=I ((Ea ⟨b,N⟩).writes,(RS ⟨b,N⟩).rest)∧(VW b:Int)=(Ea ⟨b,N⟩).turn:=by
 by_cases h4:b.length<4;·rw[fI b h4]at h;cases h
 ·obtain⟨e0,e1,e2,e3,e4⟩:=SU b h4;refine⟨h4,?_,?_⟩;(·cases hb:GH b with|none=>have:=Du _ hb;unfold RS at h;rw[e3,e4,this]at h;cases h|some q=>obtain⟨ws,l⟩:=q;obtain⟨e5,e6⟩:=uQ _ hb;unfold RS Ea;rw[e3,e4,e5,e6]);·unfold Ea;rw[e0,e1,e2];rfl
theorem dA{b:List UInt8}(h0:¬4000<b.length)(h:(RS ⟨b,N⟩).short=N)(hr:(RS ⟨b,N⟩).rest.length≠0):YD b=4∧JB b=Zl:=by
 obtain⟨h4,hb,_⟩:=MS h;exact La h0 h4 hb hr
theorem cQ{b:List UInt8}(h0:¬4000<b.length)(h:(RS ⟨b,N⟩).short=N)(hr:(RS ⟨b,N⟩).rest.length=0):YD b=QZ (Ea ⟨b,N⟩)∧(YD b=0->JB b=Ea ⟨b,N⟩)∧(YD b≠0->JB b=Zl):=by
 obtain⟨h4,hb,ht⟩:=MS h;have:=Hs h0 h4 hb hr;rw[ht]at this;exact this
theorem ZG(w:F)(o:Obj):∃W:F,Hid (W=w.alloc o)∧L w W G∧Hid (W.heap[w.heap.size]?=I o):=⟨w.alloc o,rfl,sW _ _ _,oE w o⟩
theorem jJ(w:F)(b i:Nat)(u:H):∃W:F,Hid (W=tE w ⟨b,i,G⟩ u)∧L w W (I b):=⟨_,rfl,YJ w b i u⟩
theorem gQ:(237:Nat)≠5:=by
 decide
theorem dK:(237:Nat)≠178:=by
 decide
theorem Qe.rdr{w w':F}{b:Nat}{a0:Option sY}{n0 c0:Nat}{s:Bool}{t:tX}{v:H}{bs:List UInt8}(h:Qe w v bs)(hb:w.heap[b]?=I (S #[J a0 n0 c0,tL s] t))(hg:L w w' (I b)):Qe w' v bs:=by
 obtain⟨a,cap,rfl,hc,h⟩:=h;refine⟨a,cap,rfl,hc,?_⟩;rcases h with h|⟨pb,o,rfl,h⟩;·exact .inl h
 ·by_cases h0:bs=[];(·exact .inl ⟨h0,fun e=>by cases e⟩);·refine .inr ⟨pb,o,rfl,h.grown hg ?_⟩;intro e;cases e;have hc0:=h 0 (rP.2 h0);simp only[tS,hb,Nat.add_zero]at hc0;match o,hc0 with|0,hc0=>simp at hc0|1,hc0=>simp at hc0|o+2,hc0=>simp at hc0
structure Ze (w0 w : F) (b : Nat) (r : Vk) : Prop where
  at_ : ∃ a cap, w.heap[b]? = I (S #[J a r.rest.length cap, tL r.short] 237) ∧ Qe w0 (J a r.rest.length cap) r.rest
  old : ∃ a n c s, w0.heap[b]? = I (S #[J a n c, tL s] 237)
  grown : L w0 w (I b)
theorem Ze.lt{w0 w:F}{b:Nat}{r:Vk}(h:Ze w0 w b r):b<w.heap.size:=by
 obtain⟨a,cap,h,_⟩:=h.at_;exact(tI.1 h).1
theorem Ze.now{w0 w:F}{b:Nat}{r:Vk}(h:Ze w0 w b r){v:H}{bs:List UInt8}(hv:Qe w0 v bs):Qe w v bs:=by
 obtain⟨a,n,c,s,h0⟩:=h.old;exact hv.rdr h0 h.grown
theorem Ze.row{w0 w:F}{b:Nat}{r:Vk}(h:Ze w0 w b r):I b=G∨∃g cur t fz,I b=I g∧0<=g∧w.heap[g]?=I (S cur t fz)∧t≠5:=by
 obtain⟨a,cap,h,_⟩:=h.at_;exact .inr ⟨b,_,_,_,rfl,tR _,h,gQ⟩
theorem Qi.rdr{w0 w w':F}{b:Nat}{r:Vk}{v:H}{bs:List UInt8}(h:Qi 0 w v bs)(hb:Ze w0 w b r)(hg:L w w' (I b)):Qi 0 w' v bs:=h.keptT hg hb.row
theorem Xn{w w':F}(hg:L w w' G)(r:Option Nat):L w w' r:=⟨hg.os,hg.tape,hg.output,hg.size,fun i hi _=>hg.block i hi (by
 simp)⟩
theorem Ze.kept{w0 w w':F}{b:Nat}{r:Vk}(h:Ze w0 w b r)(hg:L w w' G):Ze w0 w' b r:=by
 have hl:=h.lt;obtain⟨a,cap,h1,hs⟩:=h.at_;exact⟨⟨a,cap,by rw[hg.block b hl (by simp)];exact h1,hs⟩,h.old,Qa h.grown (Xn hg _)⟩
theorem Xd{w w':F}{b:Nat}(hg:L w w' (I b)){c:Nat}{o:Obj}(hc:w.heap[c]?=I o)(hne:c≠b):w'.heap[c]?=I o:=by
 rw[hg.block c (tI.1 hc).1 (by simpa using hne)];exact hc
theorem Ze.apart{w0 w w':F}{b:Nat}{r:Vk}(h:Ze w0 w b r){c:Nat}(hne:b≠c)(hc:w0.heap.size<=c)(hg:L w w' (I c)):Ze w0 w' b r:=by
 have hl:=h.lt;obtain⟨a,cap,h1,hs⟩:=h.at_;exact⟨⟨a,cap,by rw[hg.block b hl (by simpa using hne)];exact h1,hs⟩,h.old,Jx h.grown hc hg⟩
theorem Q6.rdr{rb:Nat}{w0 w w':F}{b:Nat}{r:Vk}{v:H}{l:List Zf}(h:Q6 rb 0 w v l)(hb:Ze w0 w b r)(hg:L w w' (I b)):Q6 rb 0 w' v l:=by
 obtain⟨a,cap,h0,_⟩:=hb.at_;exact h.kept hg (.inr (h.ne h0 dK)) hb.row
theorem Ze.ownV{rb:Nat}{w0 w w':F}{b:Nat}{r:Vk}{v:H}{l:List Zf}(h:Ze w0 w b r)(ho:Q6 rb 0 w v l)(hb:w0.heap.size<=rb)(hg:L w w' v.ownBlock):Ze w0 w' b r:=by
 obtain⟨a,cap,h1,hs⟩:=h.at_;have hne:=ho.ne h1 dK;cases hv:v.ownBlock with|none=>rw[hv]at hg;exact h.kept hg|some g=>rw[hv]at hg hne;exact h.apart (c:=g) (fun e=>hne (by rw[e])) (tN hb (ho.lt g hv).1) hg
section
open Go.ChangeShapes Go.WideShapes Go.ChangeAt Go.RowKit
theorem own:ownKnob O.godebug=G:=by
 kernel_rfl
theorem bB:laidOutB O=M:=by
 kernel_rfl
def dX(k:IntKind)(w:F)(a:Option sY)(len cap:Nat)(zs:List Int):Prop:=(a=G∧len=0∧cap=0∧zs=[])∨∃x,a=I x∧len<=cap∧cap<=r8∧zs.length=cap∧(∀i,i<zs.length->w.cell? (x.add i)=I (Y k (zs.getD i 0)))∧∀n∈zs,(Lit.int k n).wf=M
theorem Aw{n:Int}(h:(Lit.int tC n).wf=M):-9223372036854775808<=n∧n<=9223372036854775807:=bounds_i64 h
theorem I9{w w':F}(h:L w w' G):Below w.heap.size w w':=⟨h.os,h.tape,h.output,h.size,fun k hk=>h.block k hk (by
 simp)⟩
end
def Gk(w:F)(v:H)(zs:List Int):Prop:=∃a cap,v=J a zs.length cap∧zs.length<=cap∧(zs=[]∨∃b o,a=I ⟨b,o,G⟩∧∀i,i<zs.length->w.cell? ⟨b,o+i,G⟩=I (Y tC (zs.getD i 0))∧-9223372036854775808<=zs.getD i 0∧zs.getD i 0<=9223372036854775807)
theorem Gk.shape{w:F}{v:H}{zs:List Int}(h:Gk w v zs):∃a cap,v=J a zs.length cap:=by
 obtain⟨a,cap,rfl,_⟩:=h;exact⟨a,cap,rfl⟩
theorem Gk.grown{w w':F}{v:H}{zs:List Int}(h:Gk w v zs)(hg:L w w' G):Gk w' v zs:=by
 obtain⟨a,cap,rfl,hc,h⟩:=h;refine⟨a,cap,rfl,hc,?_⟩;rcases h with h|⟨b,o,rfl,h⟩;·exact .inl h
 ·exact .inr ⟨b,o,rfl,fun i hi=>⟨hg.cell (h i hi).1 (by simp),(h i hi).2⟩⟩
theorem Gk.at{w:F}{a:Option sY}{n cap:Nat}{zs:List Int}(h:Gk w (J a n cap) zs)(i:Nat)(hi:i<zs.length):∃b o,a=I ⟨b,o,G⟩∧w.cell? ⟨b,o+i,G⟩=I (Y tC (zs.getD i 0))∧-9223372036854775808<=zs.getD i 0∧zs.getD i 0<=9223372036854775807:=by
 obtain⟨a',cap',e,hc,h⟩:=h;simp only[tH]at e;obtain⟨rfl,rfl,rfl⟩:=e;rcases h with rfl|⟨b,o,rfl,h⟩;·simp at hi
 ·exact⟨b,o,rfl,h i hi⟩
section
open Go.ChangeShapes Go.WideShapes Go.ChangeAt Go.RowKit
theorem CQ{w:F}{a:Option sY}{len cap:Nat}{zs:List Int}(h:dX tC w a len cap zs):∃ys:List Int,ys.length=len∧len<=r8∧Gk w (J a len cap) ys:=by
 rcases h with⟨rfl,rfl,rfl,rfl⟩|⟨x,rfl,hl,hm,hz,hc,hw⟩;·exact⟨[],rfl,by unfold r8;omega,G,0,rfl,tY _,.inl rfl⟩
 ·(have hlen:(zs.take len).length=len:=by simp;omega);refine⟨zs.take len,hlen,by omega,I x,cap,by rw[hlen],by omega,?_⟩;by_cases h0:len=0;(·left;subst h0;simp);·obtain⟨b,o,sp⟩:=x;have h00:=hc 0 (by omega);(obtain rfl:sp=G:=by cases sp with|none=>rfl|some q=>simp[Addr.add,tS]at h00;split at h00<;>simp at h00);refine .inr ⟨b,o,rfl,fun i hi=>?_⟩;rw[hlen]at hi;(have hi2:i<zs.length:=by omega);have:=hc i hi2;rw[Z7]at this;(have e:(zs.take len).getD i 0=zs.getD i 0:=by simp[hi]);have hwf:=hw (zs.getD i 0) (by simp[hi2]);have hb:=Aw hwf;rw[e,this];exact⟨rfl,hb⟩
end
def Wu:Prop:=∀(w:F)(v:H)(t:VS),KT w v t->xI t->sS O 66 #[v] w fun e w'=>∃x,e=tD (sE #[x,Y tC (TQ t)])∧Yt w' x (Kk t)∧L w w' G
def BR:Prop:=∀(w:F)(v:H)(t:VS)(keep:Int),KT w v t->xI t->-9223372036854775808<=keep->keep<=9223372036854775807->sS O 84 #[v,Y tC keep] w fun e w'=>∃x,e=tD (sE #[x,Y tC (Un t keep)])∧Yt w' x (Xp t keep)∧L w w' G
theorem R9:(80:Nat)≠5:=by
 decide
theorem SG:(80:Nat)≠178:=by
 decide
theorem RW:(80:Nat)≠188:=by
 decide
def Wn:Prop:=∀(w:F)(v:H)(a:Ac),LA w v a->BY a->sS O 27 #[v] w fun e w'=>e=tD (Y tC (YZ a))∧L w w' G
theorem In(s q:Int)(d:List UInt8):YZ ⟨1,s,q,d⟩=if 0<=s∧s<=7then(if 4000<d.length then 1 else if q=0then 0 else 4)else 2:=by
 unfold YZ;rw[if_pos (by show(1:Int)<=1∧(1:Int)<=4;omega)];by_cases h1:0<=s∧s<=7;·rw[if_pos h1,if_neg (by rintro(⟨_,h⟩|⟨h,_⟩);exact h h1;cases h)];by_cases h2:4000<d.length;(·rw[if_pos h2,if_pos h2]);·rw[if_neg h2,if_neg h2];by_cases h3:q=0;(·rw[if_pos h3,if_neg];rintro(⟨h,_⟩|⟨_,h⟩|⟨h,_⟩);(·exact h rfl);(·exact h h3);·exact h rfl);·rw[if_neg h3,if_pos (.inr (.inl ⟨by show(1:Int)≠3;decide,h3⟩))]
 ·rw[if_neg h1,if_pos (.inl ⟨rfl,h1⟩)]
theorem As(s q:Int)(d:List UInt8):YZ ⟨3,s,q,d⟩=if 0<=q∧q<=200000then(if 4000<d.length then 1 else if s=0then(if 0<d.length then 4 else 0)else 4)else 2:=by
 unfold YZ;rw[if_pos (by show(1:Int)<=3∧(3:Int)<=4;omega)];by_cases h1:0<=q∧q<=200000;·rw[if_pos h1,if_neg (by rintro(⟨h,_⟩|⟨_,h⟩);cases h;exact h h1)];by_cases h2:4000<d.length;(·rw[if_pos h2,if_pos h2]);·rw[if_neg h2,if_neg h2];by_cases h3:s=0;(·rw[if_pos h3];by_cases h4:0<d.length;(·rw[if_pos h4,if_pos (.inr (.inr ⟨by show(3:Int)≠1;decide,h4⟩))]);·rw[if_neg h4,if_neg];rintro(⟨_,h⟩|⟨h,_⟩|⟨_,h⟩);(·exact h h3);(·exact h rfl);·exact h4 h);·rw[if_neg h3,if_pos (.inl ⟨by show(3:Int)≠1;decide,h3⟩)]
 ·rw[if_neg h1,if_pos (.inr ⟨rfl,h1⟩)]
theorem Cq(k s q:Int)(d:List UInt8)(hk:k=2∨k=4):YZ ⟨k,s,q,d⟩=if 4000<d.length then 1 else if s=0then(if q=0then(if 0<d.length then 4 else 0)else 4)else 4:=by
 unfold YZ;have k1:¬k=1:=by omega
 have k3:¬k=3:=by omega
 rw[if_pos (by show 1<=k∧k<=4;omega),if_neg (by rintro(⟨h,_⟩|⟨h,_⟩);exact k1 h;exact k3 h)];by_cases h2:4000<d.length;·rw[if_pos h2,if_pos h2]
 ·rw[if_neg h2,if_neg h2];by_cases h3:s=0;(·rw[if_pos h3];by_cases h5:q=0;(·rw[if_pos h5];by_cases h4:0<d.length;(·rw[if_pos h4,if_pos (.inr (.inr ⟨k1,h4⟩))]);·rw[if_neg h4,if_neg];rintro(⟨_,h⟩|⟨_,h⟩|⟨_,h⟩);(·exact h h3);(·exact h h5);·exact h4 h);·rw[if_neg h5,if_pos (.inr (.inl ⟨k3,h5⟩))]);·rw[if_neg h3,if_pos (.inl ⟨k1,h3⟩)]
end Go.Proofs.YtieoehicoocpjaaGreatDoor
