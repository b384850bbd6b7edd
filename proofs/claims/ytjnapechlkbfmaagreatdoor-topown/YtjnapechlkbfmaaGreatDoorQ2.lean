/-
  Texts of this proof, joined, with few blanks: AcM0, PairM0, PairB, WrMem, CmtMem, TapeA, TapeB, TapeK, HistF, HistC, TxnF, TxnG, SrvF, SrvI, SrvO, TopF, TenMem, CmtSet, RdMem, StepMem, SvK, SvG, CmtTy, CmtRow, CmtRowD, TxNote, TxM, TxnL, TxCheck, TCCheck, PairStepQ, PairSlice, FCCheck, FCApply, TxMs, RqRd, WrCkF, TxLook, FindM, SrvS, SrvL, SrvM, SrvN, TxClash, TpEnc, TpCheck, BSlice, CmtFit, TxScan, TCRange, FCRange, BitC, PartC, TxWrite, RqWt, HsKept, RqDe, TapeH, WrDtF, RdrF, RdrMem, FrameB, GearM, IntsM, FrameI, LineH, LnCk, WrEnF, SrvW, TpSync, TpCrash, TapTy.
-/
import Derived.Deep.AppendLies
import Derived.Test.YtjnapechlkbfmaaGreatDoorQ1
import Derived.Maps.AppendAt
import Derived.RangeFuncNested
import Derived.RangeFuncBound
import Derived.RangeFuncCalls
import Derived.RangeFuncLeaves
import Derived.Shelf.Abstract
import Derived.Shelf.RegionOpen
import Derived.OwnWalkIn
import Derived.TacticsInMore
import Derived.LoopNIn
import Derived.LoopIn
import Derived.Deep.RegionWith
import Derived.Handy
import Derived.ProofKit
import Derived.OpenShut
import Derived.ShutString
import Derived.ChangeOld
import Derived.Deep.DeepHandedRow
import Derived.SizedLaws
import Derived.Test.YtjnapechlkbfmaaGreatDoorRows
set_option maxRecDepth 100000
set_option maxHeartbeats 8000000
open Array renaming getElem?_eq_some_iff->tI,getElem?_modify->tV,getElem?_toList->r8
open Bool renaming true->M,false->N,and_eq_true->rI,or_eq_false_iff->rN
open Classical renaming byContradiction->sS
open Decidable renaming decide->tP
open Go renaming World->F,Value->H,TypeId->tX,undef->sK,sliced->sR,Calls->sW,Addr->sZ,Operand->rH,Oper->rM,maxLen->rV,info_parts->pA,yielded->pB,heap_alloc_new->oF
open Go.Addr.mk renaming injEq->rG
open Go.Ending renaming returned->tD
open Go.Instr renaming slice->rT
open Go.IntKind renaming i64->tC,u8->r7
open Go.Obj renaming cells->S
open Go.Obj.cells renaming injEq->tW
open Go.Proofs.Tryz renaming prog->O
open Go.Region renaming wanted->sF
open Go.Result renaming andThen->rF
open Go.Value renaming slice->J,int->Y,bool->tL,tuple->sI,agg->sU,ownBlock->pG
open Go.Value.slice renaming injEq->tG
open Go.World renaming grownBy->L,setCell->tE,cell?->tS,cell?_of_block->sL,ownsRow_nil->sM,grownBy_alloc->sN,news_of_block->rB,frozen?->rW,cell?_setCell_same'->pH
open Go.World.ownsRow renaming kept->tU,lt->sH
open Int renaming toNat_natCast->sX,emod_lt_of_pos->pO,emod_nonneg->oC
open List renaming length_append->tB,eq_nil_of_length_eq_zero->tJ,mem_cons->tK,flatMap_cons->tM,not_mem_nil->tQ,mem_cons_of_mem->tY,mem_append->sA,length_singleton->sB,getElem?_take->sC,length_cons->sD,take_length->sE,getElem?_eq_some_iff->sJ,getElem_mem->sP,mem_cons_self->sQ,drop_eq_getElem_cons->sV,take_succ_eq_append_getElem->sY,any_eq_true->rA,take_succ_cons->rC,pairwise_cons->rD,flatMap_nil->rJ,append_nil->rO,length_set->rP,length_pos_iff->rS,length_take->rX,any_cons->pD,take_set->pE,getElem?_append_left->pI,take_append_drop->pJ,getElem?_append->pK,drop_succ_cons->pL,set_cons_succ->pM,nodup_append->pN,cons_append->pP,length_drop->pQ,length_nil->pT,nil_append->pU,nodup_cons->pV,mem_filter->pW,foldl_cons->pX,take_take->pY,drop_zero->oD
open Nat renaming lt_of_lt_of_le->tH,le_trans->tN,zero_le->tR,le_refl->tZ,zero_add->sO,succ_mul->rY,mul_le_mul_right->pC,sub_zero->pF,le_of_lt_succ->pR,min_eq_left->pZ,sub_self->oE
open Option renaming none->G,some->I,map_some->rK
open Option.some renaming injEq->tA,inj->oG
open Prod.mk renaming injEq->rU
open UInt8 renaming ofNat->sG,toNat_inj->pS
namespace Go.Proofs.YtjnapechlkbfmaaGreatDoor
open Go.RowKit
def Hq(w:F)(v:H)(a:Ac):Prop:=∃vd,v=sU #[Y tC a.kind,Y tC a.sess,Y tC a.keep,vd]∧Qe w vd a.data
theorem Hq.grown{w w':F}{v:H}{a:Ac}(h:Hq w v a)(hg:L w w' G):Hq w' v a:=by
 obtain⟨vd,rfl,h1⟩:=h;exact⟨vd,rfl,h1.grown hg⟩
theorem Hq.agg{w:F}{v:H}{a:Ac}(h:Hq w v a):∃da dc,v=sU #[Y tC a.kind,Y tC a.sess,Y tC a.keep,J da a.data.length dc]∧Qe w (J da a.data.length dc) a.data:=by
 obtain⟨vd,rfl,h1⟩:=h;obtain⟨da,dc,rfl⟩:=h1.shape;exact⟨da,dc,rfl,h1⟩
def CX(w:F)(b o:Nat)(a:Ac):Prop:=∃vd,w.cell? ⟨b,o,G⟩=I (Y tC a.kind)∧w.cell? ⟨b,o+1,G⟩=I (Y tC a.sess)∧w.cell? ⟨b,o+2,G⟩=I (Y tC a.keep)∧w.cell? ⟨b,o+3,G⟩=I vd∧Qe w vd a.data
theorem CX.grown{w w':F}{b o:Nat}{a:Ac}(h:CX w b o a)(hg:L w w' G):CX w' b o a:=by
 obtain⟨vd,c1,c2,c3,c4,h1⟩:=h;exact⟨vd,hg.cell c1 (by simp),hg.cell c2 (by simp),hg.cell c3 (by simp),hg.cell c4 (by simp),h1.grown hg⟩
def YI(w:F)(v:H)(l:List Ac):Prop:=∃a cap,v=J a l.length cap∧l.length<=cap∧((l=[]∧(a=G->cap=0))∨∃b o,a=I ⟨b,o,G⟩∧∀i,i<l.length->CX w b (o+i*4) (l.getD i Ux))
theorem RH(w:F):YI w (J G 0 0) []:=⟨G,0,rfl,tZ _,.inl ⟨rfl,fun _=>rfl⟩⟩
theorem YI.shape{w:F}{v:H}{l:List Ac}(h:YI w v l):∃a cap,v=J a l.length cap:=by
 obtain⟨a,cap,rfl,_⟩:=h;exact⟨a,cap,rfl⟩
theorem YI.grown{w w':F}{v:H}{l:List Ac}(h:YI w v l)(hg:L w w' G):YI w' v l:=by
 obtain⟨a,cap,rfl,hc,h⟩:=h;refine⟨a,cap,rfl,hc,?_⟩;rcases h with h|⟨b,o,rfl,h⟩;·exact .inl h
 ·exact .inr ⟨b,o,rfl,fun i hi=>(h i hi).grown hg⟩
theorem YI.at{w:F}{a:Option sZ}{n cap:Nat}{l:List Ac}(h:YI w (J a n cap) l)(i:Nat)(hi:i<l.length):∃b o,a=I ⟨b,o,G⟩∧CX w b (o+i*4) (l.getD i Ux):=by
 obtain⟨a',cap',e,hc,h⟩:=h;simp only[tG]at e;obtain⟨rfl,rfl,rfl⟩:=e;rcases h with⟨rfl,_⟩|⟨b,o,rfl,h⟩;·simp at hi
 ·exact⟨b,o,rfl,h i hi⟩
structure AO(a:Ac):Prop where kind:-9223372036854775808<=a.kind∧a.kind<=9223372036854775807sess:-9223372036854775808<=a.sess∧a.sess<=9223372036854775807keep:-9223372036854775808<=a.keep∧a.keep<=9223372036854775807data:a.data.length<=140737488355328
structure Rl (l : List Ac) : Prop where
  many : l.length * 48 <= 140737488355328
  each : ∀ i, i < l.length -> AO (l.getD i Ux)
theorem Lr{a:Ac}(h:Ku a):AO a:=by
 have h0:=h.kind;have h1:=h.data;have h2:0<=a.sess∧a.sess<=7:=by by_cases e:a.kind=1;(·exact h.sess e);·rw[h.noSess e];omega
 have h3:0<=a.keep∧a.keep<=200000:=by by_cases e:a.kind=3;(·exact h.keep e);·rw[h.noKeep e];omega
 exact⟨by omega,by omega,by omega,by omega⟩
abbrev AV:=Ac×H
def A8:AV:=(Ux,sK)
def YW(us:List AV):List H:=us.flatMap fun x=>[Y tC x.1.kind,Y tC x.1.sess,Y tC x.1.keep,x.2]
theorem yS(us:List AV):(YW us).length=us.length*4:=by
 induction us with|nil=>rfl|cons x us ih=>rw[YW,tM,tB,<-YW,ih,sD];simp;omega
theorem vF(a b:List AV):YW (a++b)=YW a++YW b:=by
 simp[YW]
theorem NQ:∀(us:List AV)(i:Nat),i<us.length->(YW us)[i*4]?=I (Y tC (us.getD i A8).1.kind)∧(YW us)[i*4+1]?=I (Y tC (us.getD i A8).1.sess)∧(YW us)[i*4+2]?=I (Y tC (us.getD i A8).1.keep)∧(YW us)[i*4+3]?=I (us.getD i A8).2|[],i,h=>by simp at h|x::us,0,_=>⟨rfl,rfl,rfl,rfl⟩|x::us,i+1,h=>by have:=NQ us i (by simpa using h);rw[show(i+1)*4=i*4+4by omega];exact this
theorem OO:(35:Nat)≠5:=by
 decide
def Ji(rb:Nat)(w:F)(v:H)(l:List Ac):Prop:=∃us:List AV,us.map (·.1)=l∧w.ownsRow rb 35 4 v l.length (YW us)∧∀x∈us,Qh 0 w x.2 x.1.data
theorem I8(rb:Nat)(w:F):Ji rb w (J G 0 0) []:=⟨[],rfl,sM _ _ _ _,fun x hx=>by
 simp at hx⟩
theorem Ji.row{rb:Nat}{w:F}{v:H}{l:List Ac}(h:Ji rb w v l):v.ownBlock=G∨∃g cur fz,v.ownBlock=I g∧rb<=g∧w.heap[g]?=I (S cur 35 fz):=by
 obtain⟨us,_,h,_⟩:=h;rcases h.2with⟨rfl,_⟩|⟨g,cap,cur,rfl,hb,hg,_⟩;·exact .inl rfl
 ·exact .inr ⟨g,cur,_,rfl,hb,hg⟩
theorem Ji.lt{rb:Nat}{w:F}{v:H}{l:List Ac}(h:Ji rb w v l):∀k,v.ownBlock=I k->rb<=k∧k<w.heap.size:=by
 obtain⟨us,_,h,_⟩:=h;exact sH h
theorem Ji.grownNone{rb:Nat}{w w':F}{v:H}{l:List Ac}(h:Ji rb w v l)(hg:L w w' G):Ji rb w' v l:=by
 obtain⟨us,h1,h2,h3⟩:=h;refine⟨us,h1,tU h2 hg ?_,fun x hx=>(h3 x hx).keptT hg (.inl rfl)⟩;cases hv:v.ownBlock with|none=>exact .inl rfl|some k=>exact .inr (by simp)
theorem Ji.alloc{rb:Nat}{w:F}{v:H}{l:List Ac}(h:Ji rb w v l)(o:Obj):Ji rb (w.alloc o) v l:=h.grownNone (sN _ _ _)
theorem Ji.shape{rb:Nat}{w:F}{v:H}{l:List Ac}(h:Ji rb w v l):∃a cap,v=J a l.length cap:=by
 obtain⟨us,_,h,_⟩:=h;rcases h.2with⟨rfl,h0⟩|⟨g,cap,cur,rfl,_⟩;·exact⟨G,0,by rw[h0]⟩
 ·exact⟨_,cap,rfl⟩
theorem Wa{us:List AV}{l:List Ac}(h:us.map (·.1)=l)(i:Nat)(hi:i<l.length):(us.getD i A8).1=l.getD i Ux∧us.getD i A8∈us:=by
 subst h;have hi':i<us.length:=by simpa using hi
 refine⟨by simp[hi'],?_⟩;rw[show us.getD i A8=us[i]by simp[hi']];exact sP hi'
theorem Ji.list{rb:Nat}{w:F}{v:H}{l:List Ac}(h:Ji rb w v l):YI w v l:=by
 obtain⟨us,hl,hr,h3⟩:=h;rcases hr.2with⟨rfl,h0⟩|⟨g,cap,cur,rfl,hb,hg,hn,hm,hs,ht⟩;·have:l=[]:=tJ h0;rw[this];exact RH w
 ·(have hcell:∀j u,(YW us)[j]?=I u->w.cell? ⟨g,j,G⟩=I u:=by intro j u hj;(have hlt:j<l.length*4:=by have:=(sJ.1 hj).1;rw[hr.1]at this;exact this);(have e2:(cur.toList.take (l.length*4))[j]?=(YW us)[j]?:=by rw[ht]);rw[sC,if_pos hlt,hj]at e2;simp[tS,hg];simpa using e2);refine⟨_,cap,rfl,hn,.inr ⟨g,0,rfl,fun i hi=>?_⟩⟩;obtain⟨e1,e2⟩:=Wa hl i hi;(have hlen:us.length=l.length:=by rw[<-hl];simp);obtain⟨c1,c2,c3,c4⟩:=NQ us i (by omega);have hp:=h3 _ e2;rw[e1]at c1 c2 c3 hp;rw[sO];exact⟨_,hcell _ _ c1,hcell _ _ c2,hcell _ _ c3,hcell _ _ c4,hp.1⟩
theorem Tl{rb:Nat}{w W w1:F}{v:H}{l:List Ac}(h:L w W G)(ho:Ji rb W v l)(hb:w.heap.size<=rb)(hg:L W w1 v.ownBlock):L w w1 G:=⟨hg.os.trans h.os,hg.tape.trans h.tape,hg.output.trans h.output,tN h.size hg.size,fun i hi hn=>(hg.block i (tH hi h.size) (fun e=>by
 have:=(ho.lt i e.symm).1;omega)).trans (h.block i hi hn)⟩
theorem RI:(O.info? 35).map (fun i=>(i.zero,i.size,i.bytes))=I (I (sU #[Y tC 0,Y tC 0,Y tC 0,J G 0 0]),4,48):=by
 kernel_rfl
def PA(w:F)(v:H)(p:Pr):Prop:=∃vk vv,v=sU #[vk,vv]∧Qe w vk p.1∧Qe w vv p.2
theorem PA.grown{w w':F}{v:H}{p:Pr}(h:PA w v p)(hg:L w w' G):PA w' v p:=by
 obtain⟨vk,vv,rfl,h1,h2⟩:=h;exact⟨vk,vv,rfl,h1.grown hg,h2.grown hg⟩
def PM(w:F)(b o:Nat)(p:Pr):Prop:=∃vk vv,w.cell? ⟨b,o,G⟩=I vk∧w.cell? ⟨b,o+1,G⟩=I vv∧Qe w vk p.1∧Qe w vv p.2
theorem PM.grown{w w':F}{b o:Nat}{p:Pr}(h:PM w b o p)(hg:L w w' G):PM w' b o p:=by
 obtain⟨vk,vv,c1,c2,h1,h2⟩:=h;exact⟨vk,vv,hg.cell c1 (by simp),hg.cell c2 (by simp),h1.grown hg,h2.grown hg⟩
def Qr(w:F)(v:H)(l:PL):Prop:=∃a cap,v=J a l.length cap∧l.length<=cap∧((l=[]∧(a=G->cap=0))∨∃b o,a=I ⟨b,o,G⟩∧∀i,i<l.length->PM w b (o+i*2) (l.getD i ([],[])))
theorem Yl(w:F):Qr w (J G 0 0) []:=⟨G,0,rfl,tZ _,.inl ⟨rfl,fun _=>rfl⟩⟩
theorem Qr.grown{w w':F}{v:H}{l:PL}(h:Qr w v l)(hg:L w w' G):Qr w' v l:=by
 obtain⟨a,cap,rfl,hc,h⟩:=h;refine⟨a,cap,rfl,hc,?_⟩;rcases h with h|⟨b,o,rfl,h⟩;·exact .inl h
 ·exact .inr ⟨b,o,rfl,fun i hi=>(h i hi).grown hg⟩
theorem Qr.shape{w:F}{v:H}{l:PL}(h:Qr w v l):∃a cap,v=J a l.length cap:=by
 obtain⟨a,cap,rfl,_⟩:=h;exact⟨a,cap,rfl⟩
theorem Qr.at{w:F}{a:Option sZ}{n cap:Nat}{l:PL}(h:Qr w (J a n cap) l)(i:Nat)(hi:i<l.length):∃b o,a=I ⟨b,o,G⟩∧PM w b (o+i*2) (l.getD i ([],[])):=by
 obtain⟨a',cap',e,hc,h⟩:=h;simp only[tG]at e;obtain⟨rfl,rfl,rfl⟩:=e;rcases h with⟨rfl,_⟩|⟨b,o,rfl,h⟩;·simp at hi
 ·exact⟨b,o,rfl,h i hi⟩
theorem Qh.kept{base:Nat}{w w':F}{v:H}{bs:List UInt8}(h:Qh base w v bs){row:Option Nat}(hg:L w w' row)(hrow:row=G∨∃g cur fz,row=I g∧base<=g∧w.heap[g]?=I (S cur 44 fz)):Qh base w' v bs:=by
 obtain⟨hs,ho⟩:=h;rcases ho with rfl|⟨b,hb,hlt,hc⟩;·obtain⟨a,cap,rfl,hc,h⟩:=hs;refine⟨⟨a,cap,rfl,hc,?_⟩,.inl rfl⟩;rcases h with h|⟨b,o,rfl,h⟩;(·exact .inl h);·exact .inr ⟨b,o,rfl,fun i hi=>by simp at hi⟩
 ·(have hne:I b≠row:=by intro e;rcases hrow with rfl|⟨g,cur,fz,rfl,hbg,hgc⟩;(·cases e);·cases e;rcases hc with hc|⟨cur2,fz2,hc⟩;(·omega);·rw[hc]at hgc;simp at hgc);have hblk:=hg.block b hlt hne;refine⟨?_,.inr ⟨b,hb,tH hlt hg.size,?_⟩⟩;(·obtain⟨a,cap,rfl,hcp,h⟩:=hs;refine⟨a,cap,rfl,hcp,?_⟩;rcases h with h|⟨b',o,rfl,h⟩;(·exact .inl h);·refine .inr ⟨b',o,rfl,fun i hi=>?_⟩;simp[pG]at hb;subst hb;exact hg.cell (h i hi) (by simpa using hne));·rcases hc with hc|⟨cur,fz,hc⟩;(·exact .inl hc);·exact .inr ⟨cur,fz,by rw[hblk];exact hc⟩
def flat(vs:List (H×H)):List H:=vs.flatMap fun x=>[x.1,x.2]
theorem Kw(vs:List (H×H)):(flat vs).length=vs.length*2:=by
 induction vs with|nil=>rfl|cons x r ih=>simp only[flat,tM,tB,sD,pT]at ih⊢;omega
theorem JX(a b:List (H×H)):flat (a++b)=flat a++flat b:=by
 simp[flat]
theorem xR:∀(vs:List (H×H))(i:Nat),i<vs.length->(flat vs)[i*2]?=I (vs.getD i (sK,sK)).1∧(flat vs)[i*2+1]?=I (vs.getD i (sK,sK)).2|[],i,h=>by simp at h|x::r,0,_=>by simp[flat]|x::r,i+1,h=>by have:=xR r i (by simpa using h);rw[show(i+1)*2=i*2+2by omega,show i*2+2+1=(i*2+1)+2by omega];simpa[flat]using this
def Gy(base:Nat)(w:F)(v:H)(l:PL):Prop:=∃vs:List (H×H),vs.length=l.length∧w.ownsRow base 44 2 v l.length (flat vs)∧∀i,i<l.length->Qh base w (vs.getD i (sK,sK)).1 (l.getD i ([],[])).1∧Qh base w (vs.getD i (sK,sK)).2 (l.getD i ([],[])).2
theorem Gy.row{base:Nat}{w:F}{v:H}{l:PL}(h:Gy base w v l):v.ownBlock=G∨∃g cur fz,v.ownBlock=I g∧base<=g∧w.heap[g]?=I (S cur 44 fz):=by
 obtain⟨vs,_,h,_⟩:=h;rcases h.2with⟨rfl,_⟩|⟨g,cap,cur,rfl,hb,hg,_⟩;·exact .inl rfl
 ·exact .inr ⟨g,cur,_,rfl,hb,hg⟩
theorem Gy.lt{base:Nat}{w:F}{v:H}{l:PL}(h:Gy base w v l):∀k,v.ownBlock=I k->base<=k∧k<w.heap.size:=by
 obtain⟨vs,_,h,_⟩:=h;exact sH h
theorem Gy.grownNone{base:Nat}{w w':F}{v:H}{l:PL}(h:Gy base w v l)(hg:L w w' G):Gy base w' v l:=by
 obtain⟨vs,h1,h2,h3⟩:=h;refine⟨vs,h1,tU h2 hg ?_,fun i hi=>⟨((h3 i hi).1).kept hg (.inl rfl),((h3 i hi).2).kept hg (.inl rfl)⟩⟩;cases hv:v.ownBlock with|none=>exact .inl rfl|some k=>exact .inr (by simp)
theorem Gy.alloc{base:Nat}{w:F}{v:H}{l:PL}(h:Gy base w v l)(o:Obj):Gy base (w.alloc o) v l:=h.grownNone (sN _ _ _)
theorem Gy.shape{base:Nat}{w:F}{v:H}{l:PL}(h:Gy base w v l):∃a cap,v=J a l.length cap:=by
 obtain⟨vs,_,h,_⟩:=h;rcases h.2with⟨rfl,h0⟩|⟨g,cap,cur,rfl,_⟩;·exact⟨G,0,by rw[h0]⟩
 ·exact⟨_,cap,rfl⟩
theorem e9{base:Nat}{w W w1:F}{v:H}{l:PL}(h:L w W G)(ho:Gy base W v l)(hb:w.heap.size<=base)(hg:L W w1 v.ownBlock):L w w1 G:=⟨hg.os.trans h.os,hg.tape.trans h.tape,hg.output.trans h.output,tN h.size hg.size,fun i hi hn=>(hg.block i (tH hi h.size) (fun e=>by
 have:=(ho.lt i e.symm).1;omega)).trans (h.block i hi hn)⟩
theorem Cp:(O.info? 44).map (fun i=>(i.zero,i.size,i.bytes))=I (I (sU #[J G 0 0,J G 0 0]),2,48):=by
 kernel_rfl
theorem Jm{α:Type}(a b:List α)(i:Nat)(d:α):(a++b).getD i d=if i<a.length then a.getD i d else b.getD (i-a.length) d:=by
 by_cases h:i<a.length;·rw[if_pos h];simp[pK,h]
 ·rw[if_neg h];simp[pK,h]
theorem jG(vs:List (H×H))(k:Nat):flat (vs.take k)=(flat vs).take (k*2):=by
 induction vs generalizing k with|nil=>simp[flat]|cons x r ih=>cases k with|zero=>simp[flat]|succ k=>rw[rC,show(k+1)*2=k*2+2by omega];have:=ih k;simp only[flat,tM,pP,pU,rC]at this⊢;rw[this]
theorem ER(vs:List (H×H))(k:Nat):flat (vs.drop k)=(flat vs).drop (k*2):=by
 induction vs generalizing k with|nil=>simp[flat]|cons x r ih=>cases k with|zero=>simp[flat]|succ k=>rw[pL,show(k+1)*2=k*2+2by omega];have:=ih k;simp only[flat,tM,pP,pU,pL]at this⊢;rw[this]
theorem Gy.cells{base:Nat}{w:F}{g n cap:Nat}{vs:List (H×H)}{l:PL}(hr:w.ownsRow base 44 2 (J (I ⟨g,0,G⟩) n cap) l.length (flat vs)):∀j u,(flat vs)[j]?=I u->w.cell? ⟨g,j,G⟩=I u:=by
 intro j u hj;rcases hr.2with⟨e,_⟩|⟨g',cap',cur,e,hb,hg,hn,hm,hs,ht⟩;·cases e
 ·simp only[tG,tA,rG]at e;obtain⟨⟨rfl,_⟩,_,_⟩:=e;(have hlt:j<l.length*2:=by have:=(sJ.1 hj).1;rw[hr.1]at this;exact this);(have e2:(cur.toList.take (l.length*2))[j]?=(flat vs)[j]?:=by rw[ht]);rw[sC,if_pos hlt,hj]at e2;simp[tS,hg];simpa using e2
theorem Q9.setOther{base:Nat}{w:F}{v:H}{bs:List UInt8}(h:Q9 base w v bs)(c i:Nat)(x:H)(hc:c<base):Q9 base (tE w ⟨c,i,G⟩ x) v bs:=by
 refine h.grown (row:=I c) (Qi (Qb _ _) i x) ?_;cases hv:v.ownBlock with|none=>exact .inl rfl|some k=>have:=(h.lt k hv).1;exact .inr (by simp;omega)
theorem U3{W w:F}{b:Nat}{x y:H}{t:tX}(hg:L W w G)(h:W.heap[b]?=I (S #[x,y] t))(u v:H):(tE w ⟨b,0,G⟩ u).cell? ⟨b,0,G⟩=I u∧((tE w ⟨b,0,G⟩ u).setCell ⟨b,1,G⟩ v).cell? ⟨b,1,G⟩=I v:=by
 have hb:w.heap[b]?=I (S #[x,y] t):=by rw[hg.block b (tI.1 h).1 (by simp)];exact h
 have c0:w.cell? ⟨b,0,G⟩=I x:=by simp[tS,hb]
 have c1:w.cell? ⟨b,1,G⟩=I y:=by simp[tS,hb]
 refine⟨pH _ _ _ (by rw[c0];rfl),pH _ _ _ ?_⟩;rw[World.cell?_setCell_other _ _ _ _ (by simp),c1];rfl
theorem Gp{base:Nat}{W:F}{pb:Nat}{x y:H}(h:W.heap[pb]?=I (S #[x,y] 44))(hb:base<=pb)(u v:H):((tE W ⟨pb,0,G⟩ u).setCell ⟨pb,1,G⟩ v).heap[pb]?=I (S #[u,v] 44)∧(∀z bs,Qh base W z bs->Qh base ((tE W ⟨pb,0,G⟩ u).setCell ⟨pb,1,G⟩ v) z bs)∧∀w0:F,w0.heap.size<=pb->L w0 W G->L w0 ((tE W ⟨pb,0,G⟩ u).setCell ⟨pb,1,G⟩ v) G:=by
 refine⟨?_,fun z bs hz=>?_,fun w0 h0 hg=>Qc (Qc hg _ h0 _ _) _ h0 _ _⟩;·simp only[tE,tV,if_true,h,rK];first|rfl|simp
 ·exact hz.kept (Qi (Qi (Qb _ _) _ _) _ _) (.inr ⟨pb,_,_,rfl,hb,h⟩)
def Ko(rb pb:Nat)(w:F)(v:H)(l:PL):Prop:=∃vs:List (H×H),vs.length=l.length∧w.ownsRow rb 44 2 v l.length (flat vs)∧∀i,i<l.length->Qh pb w (vs.getD i (sK,sK)).1 (l.getD i ([],[])).1∧Qh pb w (vs.getD i (sK,sK)).2 (l.getD i ([],[])).2
theorem Bm(rb pb:Nat)(w:F):Ko rb pb w (J G 0 0) []:=⟨[],rfl,sM _ _ _ _,fun i hi=>by
 simp at hi⟩
theorem Ko.p{rb pb:Nat}{w:F}{v:H}{l:PL}(h:Ko rb pb w v l)(hb:pb<=rb):Gy pb w v l:=by
 obtain⟨vs,h1,h2,h3⟩:=h;refine⟨vs,h1,⟨h2.1,?_⟩,h3⟩;rcases h2.2with h|⟨g,cap,cur,h1,h2,h3⟩;·exact .inl h
 ·exact .inr ⟨g,cap,cur,h1,tN hb h2,h3⟩
theorem Ko.row{rb base:Nat}{w:F}{v:H}{l:PL}(h:Ko rb base w v l)(hb:base<=rb):v.ownBlock=G∨∃g cur fz,v.ownBlock=I g∧base<=g∧w.heap[g]?=I (S cur 44 fz):=(h.p hb).row
theorem Ko.lt{rb pb:Nat}{w:F}{v:H}{l:PL}(h:Ko rb pb w v l):∀k,v.ownBlock=I k->rb<=k∧k<w.heap.size:=by
 obtain⟨vs,_,h,_⟩:=h;exact sH h
theorem Ko.grownNone{rb pb:Nat}{w w':F}{v:H}{l:PL}(h:Ko rb pb w v l)(hg:L w w' G):Ko rb pb w' v l:=by
 obtain⟨vs,h1,h2,h3⟩:=h;refine⟨vs,h1,tU h2 hg ?_,fun i hi=>⟨((h3 i hi).1).kept hg (.inl rfl),((h3 i hi).2).kept hg (.inl rfl)⟩⟩;cases hv:v.ownBlock with|none=>exact .inl rfl|some k=>exact .inr (by simp)
theorem Ko.alloc{rb pb:Nat}{w:F}{v:H}{l:PL}(h:Ko rb pb w v l)(o:Obj):Ko rb pb (w.alloc o) v l:=h.grownNone (sN _ _ _)
theorem Ko.shape{rb pb:Nat}{w:F}{v:H}{l:PL}(h:Ko rb pb w v l):∃a cap,v=J a l.length cap:=by
 obtain⟨vs,_,h,_⟩:=h;rcases h.2with⟨rfl,h0⟩|⟨g,cap,cur,rfl,_⟩;·exact⟨G,0,by rw[h0]⟩
 ·exact⟨_,cap,rfl⟩
theorem Ri{rb pb:Nat}{w W w1:F}{v:H}{l:PL}(h:L w W G)(ho:Ko rb pb W v l)(hb:w.heap.size<=rb)(hg:L W w1 v.ownBlock):L w w1 G:=⟨hg.os.trans h.os,hg.tape.trans h.tape,hg.output.trans h.output,tN h.size hg.size,fun i hi hn=>(hg.block i (tH hi h.size) (fun e=>by
 have:=(ho.lt i e.symm).1;omega)).trans (h.block i hi hn)⟩
def gJ(base:Nat)(w:F)(b o:Nat)(p:Pr):Prop:=∃vk vv,w.cell? ⟨b,o,G⟩=I vk∧w.cell? ⟨b,o+1,G⟩=I vv∧Qh base w vk p.1∧Qh base w vv p.2
def QN(base:Nat)(w:F)(v:H)(l:PL):Prop:=∃a cap,v=J a l.length cap∧l.length<=cap∧((l=[]∧(a=G->cap=0))∨∃b o,a=I ⟨b,o,G⟩∧(b<base∨∃cur fz,w.heap[b]?=I (S cur 44 fz))∧∀i,i<l.length->gJ base w b (o+i*2) (l.getD i ([],[])))
theorem QN.list{base:Nat}{w:F}{v:H}{l:PL}(h:QN base w v l):Qr w v l:=by
 obtain⟨a,cap,rfl,hc,h⟩:=h;refine⟨a,cap,rfl,hc,?_⟩;rcases h with h|⟨b,o,rfl,_,h⟩;·exact .inl h
 ·refine .inr ⟨b,o,rfl,fun i hi=>?_⟩;obtain⟨vk,vv,c1,c2,h1,h2⟩:=h i hi;exact⟨vk,vv,c1,c2,h1.1,h2.1⟩
theorem Qr.pairsB{w w':F}{v:H}{l:PL}(h:Qr w v l)(hg:L w w' G)(base:Nat)(hb:w.heap.size<=base):QN base w' v l:=by
 obtain⟨a,cap,rfl,hc,h⟩:=h;refine⟨a,cap,rfl,hc,?_⟩;rcases h with h|⟨b,o,rfl,h⟩;·exact .inl h
 ·by_cases h0:l=[];(·exact .inl ⟨h0,fun e=>by cases e⟩);·have hl:0<l.length:=rS.2 h0;refine .inr ⟨b,o,rfl,.inl ?_,fun i hi=>?_⟩;(·obtain⟨vk,vv,c1,_⟩:=h 0 hl;exact tH (VF c1) hb);·obtain⟨vk,vv,c1,c2,h1,h2⟩:=h i hi;exact⟨vk,vv,hg.cell c1 (by simp),hg.cell c2 (by simp),h1.part hg base hb,h2.part hg base hb⟩
theorem Gy.pairsB{base:Nat}{w:F}{v:H}{l:PL}(h:Gy base w v l):QN base w v l:=by
 obtain⟨vs,hl,hr,h3⟩:=h;have hr':=hr;rcases hr.2with⟨rfl,h0⟩|⟨g,cap,cur,rfl,hb,hg,hn,hm,hs,ht⟩;·have:l=[]:=tJ h0;subst this;exact⟨G,0,rfl,tZ _,.inl ⟨rfl,fun _=>rfl⟩⟩
 ·refine⟨_,cap,rfl,hn,.inr ⟨g,0,rfl,.inr ⟨cur,_,hg⟩,fun i hi=>?_⟩⟩;have hf:=xR vs i (by omega);refine⟨(vs.getD i (sK,sK)).1,(vs.getD i (sK,sK)).2,?_,?_,(h3 i hi).1,(h3 i hi).2⟩;(·have:=Gy.cells hr' _ _ hf.1;rw[sO];exact this);·have:=Gy.cells hr' _ _ hf.2;rw[sO];exact this
theorem QN.kept{base:Nat}{w w':F}{v:H}{l:PL}(h:QN base w v l){row:Option Nat}(hg:L w w' row)(hrow:row=G∨∃g cur t fz,row=I g∧base<=g∧w.heap[g]?=I (S cur t fz)∧t≠5∧t≠44):QN base w' v l:=by
 obtain⟨a,cap,rfl,hc,h⟩:=h;refine⟨a,cap,rfl,hc,?_⟩;rcases h with h|⟨b,o,rfl,hb,h⟩;·exact .inl h
 ·by_cases h0:l=[];(·exact .inl ⟨h0,fun e=>by cases e⟩);·have hl:0<l.length:=rS.2 h0;(have hlt:b<w.heap.size:=by obtain⟨vk,vv,c1,_⟩:=h 0 hl;exact VF c1);(have hne:I b≠row:=by intro e;rcases hrow with rfl|⟨g,cur,t,fz,rfl,hbg,hgc,ht,ht2⟩;(·cases e);·cases e;rcases hb with hb|⟨cur2,fz2,hb⟩;(·omega);·rw[hb]at hgc;simp only[tA,tW]at hgc;exact ht2 hgc.2.1.symm);(have hrow':row=G∨∃g cur t fz,row=I g∧base<=g∧w.heap[g]?=I (S cur t fz)∧t≠5:=by rcases hrow with h|⟨g,cur,t,fz,h1,h2,h3,h4,_⟩;(·exact .inl h);·exact .inr ⟨g,cur,t,fz,h1,h2,h3,h4⟩);refine .inr ⟨b,o,rfl,?_,fun i hi=>?_⟩;(·rcases hb with hb|⟨cur,fz,hb⟩;(·exact .inl hb);·exact .inr ⟨cur,fz,by rw[hg.block b hlt hne];exact hb⟩);·obtain⟨vk,vv,c1,c2,h1,h2⟩:=h i hi;exact⟨vk,vv,hg.cell c1 (by simpa using hne),hg.cell c2 (by simpa using hne),h1.keptT hg hrow',h2.keptT hg hrow'⟩
theorem QN.grown{base:Nat}{w w':F}{v:H}{l:PL}(h:QN base w v l)(hg:L w w' G):QN base w' v l:=h.kept hg (.inl rfl)
theorem yF{base:Nat}{w:F}{v:H}{l:PL}(h:QN base w v l):v.oneCell'=M:=by
 obtain⟨a,cap,rfl,_⟩:=h;rfl
theorem Yy(base:Nat)(w:F):QN base w (J G 0 0) []:=⟨G,0,rfl,tZ _,.inl ⟨rfl,fun _=>rfl⟩⟩
theorem QN.shape{base:Nat}{w:F}{v:H}{l:PL}(h:QN base w v l):∃a cap,v=J a l.length cap:=by
 obtain⟨a,cap,rfl,_⟩:=h;exact⟨a,cap,rfl⟩
theorem QN.mono{base base':Nat}{w:F}{v:H}{l:PL}(h:QN base w v l)(hb:base<=base'):QN base' w v l:=by
 obtain⟨a,cap,rfl,hc,h⟩:=h;refine⟨a,cap,rfl,hc,?_⟩;rcases h with h|⟨b,o,rfl,h1,h2⟩;·exact .inl h
 ·refine .inr ⟨b,o,rfl,?_,fun i hi=>?_⟩;(·rcases h1 with h1|h1;(·exact .inl (by omega));·exact .inr h1);·obtain⟨vk,vv,c1,c2,p1,p2⟩:=h2 i hi;exact⟨vk,vv,c1,c2,p1.mono hb,p2.mono hb⟩
theorem Ko.pairsB{rb:Nat}{w:F}{v:H}{l:PL}(h:Ko rb 0 w v l):QN 0 w v l:=(h.p (tR _)).pairsB
theorem QN.up{w:F}{v:H}{l:PL}(h:QN 0 w v l)(base:Nat):QN base w v l:=h.mono (tR _)
abbrev WV:=Zd×H×H×H
def BA:WV:=(Qs,sK,sK,sK)
def Y8(us:List WV):List H:=us.flatMap fun x=>[x.2.1,x.2.2.1,tL x.1.gone,x.2.2.2]
theorem Hs(us:List WV):(Y8 us).length=us.length*4:=by
 induction us with|nil=>rfl|cons x r ih=>simp only[Y8,tM,tB,sD,pT]at ih⊢;omega
theorem uM(a b:List WV):Y8 (a++b)=Y8 a++Y8 b:=by
 simp[Y8]
theorem NY:∀(us:List WV)(i:Nat),i<us.length->(Y8 us)[i*4]?=I (us.getD i BA).2.1∧(Y8 us)[i*4+1]?=I (us.getD i BA).2.2.1∧(Y8 us)[i*4+2]?=I (tL (us.getD i BA).1.gone)∧(Y8 us)[i*4+3]?=I (us.getD i BA).2.2.2|[],i,h=>by simp at h|x::r,0,_=>by simp[Y8]|x::r,i+1,h=>by have:=NY r i (by simpa using h);rw[show(i+1)*4=i*4+4by omega,show i*4+4+1=(i*4+1)+4by omega,show i*4+4+2=(i*4+2)+4by omega,show i*4+4+3=(i*4+3)+4by omega];simpa[Y8]using this
theorem uA:(71:Nat)≠5:=by
 decide
theorem Hr{us:List WV}{l:List Zd}(h:us.map (·.1)=l)(i:Nat)(hi:i<l.length):(us.getD i BA).1=l.getD i Qs∧us.getD i BA∈us:=by
 subst h;have hi':i<us.length:=by simpa using hi
 refine⟨by simp[hi'],?_⟩;rw[show us.getD i BA=us[i]by simp[hi']];exact sP hi'
theorem aW:(O.info? 71).map (fun i=>(i.zero,i.size,i.bytes))=I (I (sU #[J G 0 0,J G 0 0,tL N,J G 0 0]),4,80):=by
 kernel_rfl
theorem R9(w:F)(vn vk vv:H)(p:Zd)(h1:Qe w vn p.name)(h2:Qe w vk p.key)(h3:Qe w vv p.value)(t:tX):QR (w.alloc (S #[vn,vk,tL p.gone,vv] t)) (J (I ⟨w.heap.size,0,G⟩) 1 1) [p]:=by
 refine⟨_,1,rfl,by simp,.inr ⟨w.heap.size,0,rfl,fun i hi=>?_⟩⟩;match i,hi with|0,_=>exact⟨vn,vk,vv,by simp,by simp,by simp,by simp,h1.alloc _,h2.alloc _,h3.alloc _⟩
def Oi(base:Nat)(w:F)(b o:Nat)(p:Zd):Prop:=∃vn vk vv,w.cell? ⟨b,o,G⟩=I vn∧w.cell? ⟨b,o+1,G⟩=I vk∧w.cell? ⟨b,o+2,G⟩=I (tL p.gone)∧w.cell? ⟨b,o+3,G⟩=I vv∧Qh base w vn p.name∧Qh base w vk p.key∧Qh base w vv p.value
def Xo(base:Nat)(w:F)(v:H)(l:List Zd):Prop:=∃a cap,v=J a l.length cap∧l.length<=cap∧((l=[]∧(a=G->cap=0))∨∃b o,a=I ⟨b,o,G⟩∧(b<base∨∃cur fz,w.heap[b]?=I (S cur 71 fz))∧∀i,i<l.length->Oi base w b (o+i*4) (l.getD i Qs))
theorem D4(base:Nat)(w:F):Xo base w (J G 0 0) []:=⟨G,0,rfl,tZ _,.inl ⟨rfl,fun _=>rfl⟩⟩
theorem Xo.shape{base:Nat}{w:F}{v:H}{l:List Zd}(h:Xo base w v l):∃a cap,v=J a l.length cap:=by
 obtain⟨a,cap,rfl,_⟩:=h;exact⟨a,cap,rfl⟩
theorem Xo.oneCell{base:Nat}{w:F}{v:H}{l:List Zd}(h:Xo base w v l):v.oneCell'=M:=by
 obtain⟨a,cap,rfl,_⟩:=h;rfl
theorem Xo.list{base:Nat}{w:F}{v:H}{l:List Zd}(h:Xo base w v l):QR w v l:=by
 obtain⟨a,cap,rfl,hc,h⟩:=h;refine⟨a,cap,rfl,hc,?_⟩;rcases h with h|⟨b,o,rfl,_,h⟩;·exact .inl h
 ·refine .inr ⟨b,o,rfl,fun i hi=>?_⟩;obtain⟨vn,vk,vv,c1,c2,c3,c4,h1,h2,h3⟩:=h i hi;exact⟨vn,vk,vv,c1,c2,c3,c4,h1.1,h2.1,h3.1⟩
theorem Xo.kept{base:Nat}{w w':F}{v:H}{l:List Zd}(h:Xo base w v l){row:Option Nat}(hg:L w w' row)(hrow:row=G∨∃g cur t fz,row=I g∧base<=g∧w.heap[g]?=I (S cur t fz)∧t≠5∧t≠71):Xo base w' v l:=by
 obtain⟨a,cap,rfl,hc,h⟩:=h;refine⟨a,cap,rfl,hc,?_⟩;rcases h with h|⟨b,o,rfl,hb,h⟩;·exact .inl h
 ·by_cases h0:l=[];(·exact .inl ⟨h0,fun e=>by cases e⟩);·have hl:0<l.length:=rS.2 h0;(have hlt:b<w.heap.size:=by obtain⟨vn,vk,vv,c1,_⟩:=h 0 hl;exact VF c1);(have hne:I b≠row:=by intro e;rcases hrow with rfl|⟨g,cur,t,fz,rfl,hbg,hgc,ht,ht2⟩;(·cases e);·cases e;rcases hb with hb|⟨cur2,fz2,hb⟩;(·omega);·rw[hb]at hgc;simp only[tA,tW]at hgc;exact ht2 hgc.2.1.symm);(have hrow':row=G∨∃g cur t fz,row=I g∧base<=g∧w.heap[g]?=I (S cur t fz)∧t≠5:=by rcases hrow with h|⟨g,cur,t,fz,h1,h2,h3,h4,_⟩;(·exact .inl h);·exact .inr ⟨g,cur,t,fz,h1,h2,h3,h4⟩);refine .inr ⟨b,o,rfl,?_,fun i hi=>?_⟩;(·rcases hb with hb|⟨cur,fz,hb⟩;(·exact .inl hb);·exact .inr ⟨cur,fz,by rw[hg.block b hlt hne];exact hb⟩);·obtain⟨vn,vk,vv,c1,c2,c3,c4,h1,h2,h3⟩:=h i hi;exact⟨vn,vk,vv,hg.cell c1 (by simpa using hne),hg.cell c2 (by simpa using hne),hg.cell c3 (by simpa using hne),hg.cell c4 (by simpa using hne),h1.keptT hg hrow',h2.keptT hg hrow',h3.keptT hg hrow'⟩
theorem Xo.grown{base:Nat}{w w':F}{v:H}{l:List Zd}(h:Xo base w v l)(hg:L w w' G):Xo base w' v l:=h.kept hg (.inl rfl)
def J5(w:F)(v:H)(c:XD):Prop:=∃vs,v=sU #[Y tC c.turn,vs]∧QR w vs c.writes
theorem J5.grown{w w':F}{v:H}{c:XD}(h:J5 w v c)(hg:L w w' G):J5 w' v c:=by
 obtain⟨vs,rfl,h⟩:=h;exact⟨vs,rfl,h.grown hg⟩
theorem J5.agg{w:F}{v:H}{c:XD}(h:J5 w v c):∃a cap,v=sU #[Y tC c.turn,J a c.writes.length cap]:=by
 obtain⟨vs,rfl,h⟩:=h;obtain⟨a,cap,rfl⟩:=h.shape;exact⟨a,cap,rfl⟩
theorem J5.writes{w:F}{c:XD}{x y:H}(h:J5 w (sU #[x,y]) c):x=Y tC c.turn∧QR w y c.writes:=by
 obtain⟨vs,e,h⟩:=h;injection e with e;injection e with e;injection e with e1 e;injection e with e2 e;exact⟨e1,e2▸h⟩
structure Ny(c:XD):Prop where turn:-9223372036854775808<=c.turn∧c.turn<=9223372036854775807writes:uE c.writes
structure V8 where
  data : List UInt8
  synced : Int
def VQ:V8:=⟨[],0⟩
def KY(w:F)(v:H)(t:V8):Prop:=∃vd,v=sU #[vd,Y tC t.synced]∧Qe w vd t.data
theorem KY.grown{w w':F}{v:H}{t:V8}(h:KY w v t)(hg:L w w' G):KY w' v t:=by
 obtain⟨vd,rfl,h⟩:=h;exact⟨vd,rfl,h.grown hg⟩
theorem KY.agg{w:F}{v:H}{t:V8}(h:KY w v t):∃a cap,v=sU #[J a t.data.length cap,Y tC t.synced]:=by
 obtain⟨vd,rfl,h⟩:=h;obtain⟨a,cap,rfl⟩:=h.shape;exact⟨a,cap,rfl⟩
theorem KY.data{w:F}{t:V8}{x y:H}(h:KY w (sU #[x,y]) t):Qe w x t.data∧y=Y tC t.synced:=by
 obtain⟨vd,e,h⟩:=h;injection e with e;injection e with e;injection e with e1 e;injection e with e2 e;exact⟨e1▸h,e2⟩
structure yC(t:V8):Prop where data:t.data.length<=140737488355328synced:-9223372036854775808<=t.synced∧t.synced<=9223372036854775807
def Yx(w:F)(v:H)(t:V8):Prop:=∃vd,v=sU #[vd,Y tC t.synced]∧Qh 0 w vd t.data
theorem Yx.is{w:F}{v:H}{t:V8}(h:Yx w v t):KY w v t:=by
 obtain⟨vd,rfl,h⟩:=h;exact⟨vd,rfl,h.slice⟩
theorem VY(w:F):Yx w (sU #[J G 0 0,Y tC 0]) VQ:=⟨_,rfl,Qw w,.inl rfl⟩
def Gx(t:V8):Bool:=tP (t.data.length<=200000)&&tP (0<=t.synced∧t.synced<=(t.data.length:Int))
theorem Kz(t:V8):Gx t=M↔t.data.length<=200000∧0<=t.synced∧t.synced<=(t.data.length:Int):=by
 unfold Gx;rw[rI,decide_eq_true_iff,decide_eq_true_iff]
def TI(c:XD):List UInt8:=if QZ c=0then Zi c else[]
def Ru(t:V8):Int:=if Gx t=M then 0 else 6
def Km(t:V8):V8:=if Gx t=M then⟨t.data,(t.data.length:Int)⟩else VQ
def Ut(t:V8)(keep:Int):Int:=if Gx t=M then(if keep<0then 2 else 0)else 6
def Xw(t:V8)(keep:Int):Nat:=if keep<(t.data.length:Int)-t.synced then(t.synced+keep).toNat else t.data.length
def Xs(t:V8)(keep:Int):V8:=if Ut t keep=0then⟨t.data.take (Xw t keep),(Xw t keep:Int)⟩else VQ
def Vd(D:List UInt8->List UInt8)(t:V8)(c:XD):Int:=if Gx t=M then(if QZ c=0then(if 200000<t.data.length+(ZI D c).length then 11 else 0)else QZ c)else 6
def zU(D:List UInt8->List UInt8)(t:V8)(c:XD):V8:=if Vd D t c=0then⟨t.data++ZI D c,t.synced⟩else VQ
def Ew(t:V8):Int:=if Gx t=M then 0 else 6
def yL(D:List UInt8->List UInt8)(t:V8):List XD:=if Gx t=M then(KD D 1 t.data).1 else[]
def xC(D:List UInt8->List UInt8)(t:V8):V8:=if Gx t=M then⟨t.data.take (DG D t.data),if t.synced>(DG D t.data:Int)then(DG D t.data:Int)else t.synced⟩else VQ
theorem apply_fits:∀(ws:List Zd)(l:FL)(m:Nat),Z5 l->(∀w∈ws,QD w=0)->Nl m l->m+ws.length<=60->l.length+ws.length<=8->Zy l ws=0|[],l,m,_,_,_,_,_=>rfl|w::ws,l,m,h,hv,hs,hm,h8=>by have hw:=hv w (by simp);have hl:=Fb l w;simp only[sD]at hm h8;(have h2:XW l w=0:=by rw[z9 h hw hs (by omega),if_neg (by omega)]);rw[Zy,if_pos hw,if_pos h2];exact apply_fits ws _ (m+1) (V3 h hw h2) (fun x hx=>hv x (tY _ hx)) (En h.rises hs w) (by omega) (by omega)
theorem yN{D:List UInt8->List UInt8}(hD:∀x,(D x).length=4){c:XD}(hc:QZ c=0):6<=(ZI D c).length∧(ZI D c).length<=600:=by
 have h1:=Pz hD c;have h2:=U7 hc;omega
theorem Bz(D:List UInt8->List UInt8)(cs:List XD)(i:Nat)(h:i<cs.length):QW D (cs.take (i+1))=QW D (cs.take i)++ZI D (cs.getD i Zl):=by
 rw[sY h,VE,Pu,show cs[i]=cs.getD i Zl by simp[h]]
theorem fR{D:List UInt8->List UInt8}{t:V8}(hm:Gx t=M){cs:List XD}{r:List UInt8}{n:Nat}(h:KD D 1 t.data=(cs,r))(hn:DG D t.data=n):Ew t=0∧yL D t=cs∧xC D t=⟨t.data.take n,if t.synced>(n:Int)then(n:Int)else t.synced⟩:=by
 refine⟨by rw[Ew,if_pos hm],by rw[yL,if_pos hm,h],by rw[xC,if_pos hm,hn]⟩
theorem Ox{D:List UInt8->List UInt8}(hD:∀x,(D x).length=4){cs:List XD}(h:zB 1 cs)(k:Nat)(s:Int)(hk:k<=(QW D cs).length)(hs:0<=s∧s<=(k:Int))(hl:(QW D cs).length<=200000):∃j,j<=cs.length∧(QW D (cs.take j)).length<=k∧(j<cs.length->k<(QW D (cs.take (j+1))).length)∧Ew ⟨(QW D cs).take k,s⟩=0∧yL D ⟨(QW D cs).take k,s⟩=cs.take j∧xC D ⟨(QW D cs).take k,s⟩=⟨QW D (cs.take j),if s>((QW D (cs.take j)).length:Int)then((QW D (cs.take j)).length:Int)else s⟩:=by
 obtain⟨j,h1,h2,h3,h4,h5⟩:=C8 hD h k;have hkl:((QW D cs).take k).length=k:=by simp;omega
 have hm:Gx ⟨(QW D cs).take k,s⟩=M:=(Kz _).2 ⟨by show((QW D cs).take k).length<=_;omega,by show 0<=s∧s<=(((QW D cs).take k).length:Int);omega⟩;have hn:DG D ((QW D cs).take k)=(QW D (cs.take j)).length:=by rw[DG,h2,hkl];show k-(((QW D cs).take k).drop _).length=_;rw[pQ,hkl];omega
 obtain⟨a,b,c⟩:=fR hm h2 hn;refine⟨j,h1,h3,h5,a,b,?_⟩;rw[c];have e:((QW D cs).take k).take (QW D (cs.take j)).length=QW D (cs.take j):=by rw[pY,pZ h3];(conv=>lhs;rw[<-pJ j cs,VE]);rw[show(cs.take j++cs.drop j).take j=cs.take j by rw[pJ]];exact List.take_left' rfl
 show(⟨((QW D cs).take k).take _,_⟩:V8)=_;rw[e]
def Oa:FL->Nat->List XD->Int|_,_,[]=>0|f,i,c::cs=>if QZ c=0then(if c.turn=((i+1:Nat):Int)then(if QQ f c.writes=0then Oa (Xv f c.writes) (i+1) cs else QQ f c.writes)else 3)else QZ c
def G9:FL->List XD->FL|f,[]=>f|f,c::cs=>G9 (Xv f c.writes) cs
theorem vT:∀(a b:List XD)(f:FL),G9 f (a++b)=G9 (G9 f a) b|[],_,_=>rfl|_::a,b,_=>vT a b _
theorem AY(cs:List XD)(f:FL)(c:XD):G9 f (cs++[c])=Xv (G9 f cs) c.writes:=by
 rw[vT];rfl
def vG:FL->Nat->List XD->Prop|_,_,[]=>True|f,i,c::cs=>QZ c=0∧c.turn=((i+1:Nat):Int)∧QQ f c.writes=0∧vG (Xv f c.writes) (i+1) cs
theorem vG.take:∀{cs:List XD}{f:FL}{i:Nat}(_:vG f i cs)(j:Nat),vG f i (cs.take j)|[],_,_,_,j=>by rw[List.take_nil];trivial|_::_,_,_,_,0=>trivial|_::_,_,_,h,j+1=>⟨h.1,h.2.1,h.2.2.1,vG.take h.2.2.2 j⟩
theorem vG.at:∀{cs:List XD}{f:FL}{i:Nat}(_:vG f i cs)(j:Nat)(_:j<cs.length),QZ (cs.getD j Zl)=0∧(cs.getD j Zl).turn=((i+j+1:Nat):Int)∧QQ (G9 f (cs.take j)) (cs.getD j Zl).writes=0|[],_,_,_,j,hj=>by simp at hj|c::cs,f,i,h,0,_=>⟨h.1,h.2.1,h.2.2.1⟩|c::cs,f,i,h,j+1,hj=>by have:=vG.at h.2.2.2 j (by simpa using hj);rw[show i+(j+1)+1=i+1+j+1by omega];simpa[G9]using this
theorem FJ{l:FL}(h:Z5 l)(ws:List Zd):Z5 (Xv l ws):=by
 unfold Xv;by_cases h0:QQ l ws=0;·rw[if_pos h0];unfold QQ at h0;rw[if_pos ((X6 l).2 h)]at h0;by_cases h10:10<ws.length;(·rw[if_pos h10]at h0;omega);·rw[if_neg h10]at h0;exact vJ ws l h h0
 ·rw[if_neg h0];exact qM
theorem vA:∀(cs:List XD)(f:FL),Z5 f->Z5 (G9 f cs)|[],_,h=>h|c::cs,_,h=>vA cs _ (FJ h c.writes)
def Zu(n t:Int):Bool:=tP (0<=t∧t<=n∧n-t<6)
def Rh(a b:Zd):Prop:=a.name=b.name∧a.key=b.key
def Nw(l:List Zd):Prop:=l.Pairwise fun a b=>¬Rh a b
def XF(a b:Rd):Bool:=a.wide==b.wide&&(tP (a.name=b.name)&&(tP (a.key=b.key)&&tP (a.last=b.last)))
theorem qP(a b:Rd):XF a b=M↔a=b:=by
 obtain⟨n,k,w,l⟩:=a;obtain⟨n2,k2,w2,l2⟩:=b;simp only[XF,rI,decide_eq_true_iff,beq_iff_eq,Rd.mk.injEq];exact⟨fun⟨h1,h2,h3,h4⟩=>⟨h2,h3,h1,h4⟩,fun⟨h1,h2,h3,h4⟩=>⟨h3,h1,h2,h4⟩⟩
def ZS(a b:Zd):Bool:=tP (a.name=b.name)&&tP (a.key=b.key)
theorem zA(a b:Zd):ZS a b=M↔Rh a b:=by
 simp only[ZS,rI,decide_eq_true_iff];exact Iff.rfl
def GU:List Rd->List Rd->Int|_,[]=>0|p,r::rs=>if XE r=0then(if p.any (fun q=>XF q r)=M then 3 else GU (p++[r]) rs)else XE r
def xW:List Zd->List Zd->Int|_,[]=>0|p,w::ws=>if QD w=0then(if p.any (fun q=>ZS q w)=M then 3 else xW (p++[w]) ws)else QD w
theorem Tt:∀(rs p:List Rd),GU p rs=0↔(∀r∈rs,XE r=0)∧(∀r∈rs,r∉p)∧rs.Nodup|[],p=>by simp[GU]|r::rs,p=>by have ih:=Tt rs (p++[r]);rw[GU];by_cases h1:XE r=0;(·rw[if_pos h1];by_cases h2:p.any (fun q=>XF q r)=M;(·rw[if_pos h2];refine⟨fun h=>by omega,fun h=>?_⟩;obtain⟨q,hq,he⟩:=rA.1 h2;rw[(qP q r).1 he]at hq;exact absurd hq (h.2.1 r (sQ ..)));·rw[if_neg h2,ih];have hr:r∉p:=fun hm=>h2 (rA.2 ⟨r,hm,(qP r r).2 rfl⟩);constructor;(·rintro⟨a,b,c⟩;refine⟨fun x hx=>?_,fun x hx=>?_,pV.2 ⟨fun hm=>b r hm (by simp),c⟩⟩;(·rcases tK.1 hx with rfl|hx;(·exact h1);·exact a x hx);·rcases tK.1 hx with rfl|hx;(·exact hr);·exact fun hm=>b x hx (sA.2 (.inl hm)));·rintro⟨a,b,c⟩;have c':=pV.1 c;refine⟨fun x hx=>a x (tY _ hx),fun x hx hm=>?_,c'.2⟩;rcases sA.1 hm with hm|hm;(·exact b x (tY _ hx) hm);·simp only[tK,tQ,or_false]at hm;subst hm;exact c'.1 hx);·rw[if_neg h1];exact⟨fun h=>absurd h h1,fun h=>absurd (h.1 r (sQ ..)) h1⟩
theorem Dp:∀(ws p:List Zd),xW p ws=0↔(∀w∈ws,QD w=0)∧(∀w∈ws,∀q∈p,¬Rh q w)∧Nw ws|[],p=>by simp[xW,Nw]|w::ws,p=>by have ih:=Dp ws (p++[w]);rw[xW];by_cases h1:QD w=0;(·rw[if_pos h1];by_cases h2:p.any (fun q=>ZS q w)=M;(·rw[if_pos h2];refine⟨fun h=>by omega,fun h=>?_⟩;obtain⟨q,hq,he⟩:=rA.1 h2;exact absurd ((zA q w).1 he) (h.2.1 w (sQ ..) q hq));·rw[if_neg h2,ih];have hr:∀q∈p,¬Rh q w:=fun q hm e=>h2 (rA.2 ⟨q,hm,(zA q w).2 e⟩);constructor;(·rintro⟨a,b,c⟩;refine⟨fun x hx=>?_,fun x hx q hq=>?_,rD.2 ⟨fun x hx=>b x hx w (by simp),c⟩⟩;(·rcases tK.1 hx with rfl|hx;(·exact h1);·exact a x hx);·rcases tK.1 hx with rfl|hx;(·exact hr q hq);·exact b x hx q (sA.2 (.inl hq)));·rintro⟨a,b,c⟩;have c':=rD.1 c;refine⟨fun x hx=>a x (tY _ hx),fun x hx q hm=>?_,c'.2⟩;rcases sA.1 hm with hm|hm;(·exact b x (tY _ hx) q hm);·simp only[tK,tQ,or_false]at hm;subst hm;exact c'.1 x hx);·rw[if_neg h1];exact⟨fun h=>absurd h h1,fun h=>absurd (h.1 w (sQ ..)) h1⟩
structure Tx where
  start : Int
  reads : List Rd
  writes : List Zd
def FH:Tx:=⟨0,[],[]⟩
def Gj(t:Tx):Int:=if 0<=t.start∧t.start<=1048576then(if 20<t.reads.length∨10<t.writes.length then 1 else(if GU [] t.reads=0then xW [] t.writes else GU [] t.reads))else 2
structure qK (t : Tx) : Prop where
  start : 0 <= t.start ∧ t.start <= 1048576
  reads : t.reads.length <= 20
  writes : t.writes.length <= 10
  each : ∀ r ∈ t.reads, XE r = 0
  once : t.reads.Nodup
  wrs : ∀ w ∈ t.writes, QD w = 0
  apart : Nw t.writes
theorem kW(t:Tx):Gj t=0↔qK t:=by
 unfold Gj;by_cases h1:0<=t.start∧t.start<=1048576;·rw[if_pos h1];by_cases h2:20<t.reads.length∨10<t.writes.length;(·rw[if_pos h2];exact⟨fun h=>by omega,fun h=>by have:=h.reads;have:=h.writes;omega⟩);·rw[if_neg h2];by_cases h3:GU [] t.reads=0;(·rw[if_pos h3,Dp];have h3':=(Tt _ _).1 h3;exact⟨fun h=>⟨h1,by omega,by omega,h3'.1,h3'.2.2,h.1,h.2.2⟩,fun h=>⟨h.wrs,fun _ _ _ hq=>by simp at hq,h.apart⟩⟩);·rw[if_neg h3];exact⟨fun h=>absurd h h3,fun h=>absurd ((Tt _ _).2 ⟨h.each,fun _ _ hq=>by simp at hq,h.once⟩) h3⟩
 ·rw[if_neg h1];exact⟨fun h=>by omega,fun h=>absurd h.start h1⟩
def Ev(t:Tx)(r:Rd):Bool:=t.reads.any (fun q=>XF q r)
theorem Of(t:Tx)(r:Rd):Ev t r=M↔r∈t.reads:=by
 unfold Ev;rw[rA];exact⟨fun⟨q,hq,e⟩=>(qP q r).1 e▸hq,fun h=>⟨r,h,(qP r r).2 rfl⟩⟩
def Xf(t:Tx)(r:Rd):Int:=if Gj t=0then(if XE r=0then(if Ev t r=M then 0 else(if t.reads.length=20then 11 else 0))else XE r)else Gj t
def Ya(t:Tx)(r:Rd):Tx:=if Xf t r=0then(if Ev t r=M then t else⟨t.start,t.reads++[r],t.writes⟩)else FH
theorem eO{t:Tx}(h:qK t){r:Rd}(hr:XE r=0):Xf t r=if Ev t r=M then 0 else(if t.reads.length=20then 11 else 0):=by
 rw[Xf,if_pos ((kW t).2 h),if_pos hr]
theorem dG{t:Tx}(h:qK t){r:Rd}(hr:XE r=0)(he:Xf t r=0):qK (Ya t r):=by
 rw[Ya,if_pos he];by_cases hh:Ev t r=M;·rw[if_pos hh];exact h
 ·rw[if_neg hh];rw[eO h hr,if_neg hh]at he;have hm:r∉t.reads:=fun e=>hh ((Of t r).2 e);(have h20:t.reads.length≠20:=fun e=>by rw[if_pos e]at he;omega);refine⟨h.start,?_,h.writes,fun x hx=>?_,?_,h.wrs,h.apart⟩;(·have:=h.reads;simp;omega);(·rcases sA.1 hx with hx|hx;(·exact h.each x hx);·simp only[tK,tQ,or_false]at hx;rw[hx];exact hr);·rw[pN];refine⟨h.once,by simp,fun a ha b hb e=>?_⟩;simp only[tK,tQ,or_false]at hb;subst hb;subst e;exact hm ha
def Fz(l:List Zd)(w:Zd):Bool:=l.any (fun q=>ZS q w)
def xB:List Zd->Zd->List Zd|[],w=>[w]|a::l,w=>if ZS a w=M then w::l else a::xB l w
def Z7(t:Tx)(w:Zd):Int:=if Gj t=0then(if QD w=0then(if Fz t.writes w=M then 0 else(if t.writes.length=10then 11 else 0))else QD w)else Gj t
def Yg(t:Tx)(w:Zd):Tx:=if Z7 t w=0then⟨t.start,t.reads,xB t.writes w⟩else FH
theorem DV:∀(l:List Zd)(w:Zd),(xB l w).length=if Fz l w=M then l.length else l.length+1|[],w=>rfl|a::l,w=>by rw[xB,Fz,pD];by_cases h:ZS a w=M;(·rw[if_pos h,h];rfl);·rw[if_neg h,sD,DV l w];(have hf:ZS a w=N:=by simpa using h);rw[hf,Bool.false_or];show _=if Fz l w=M then _ else _;by_cases h2:Fz l w=M;(·rw[if_pos h2,if_pos h2];rfl);·rw[if_neg h2,if_neg h2];rfl
theorem TO:∀(l:List Zd)(w x:Zd),x∈xB l w->x=w∨x∈l|[],w,x,h=>by simpa[xB]using h|a::l,w,x,h=>by rw[xB]at h;by_cases h1:ZS a w=M;(·rw[if_pos h1]at h;rcases tK.1 h with h|h;(·exact .inl h);·exact .inr (tY _ h));·rw[if_neg h1]at h;rcases tK.1 h with h|h;(·exact .inr (by rw[h];exact sQ ..));·exact(TO l w x h).elim .inl fun h=>.inr (tY _ h)
theorem DX{a b c:Zd}(h:Rh a b)(k:Rh b c):Rh a c:=⟨h.1.trans k.1,h.2.trans k.2⟩
theorem Tq:∀(l:List Zd)(w:Zd),Nw l->Nw (xB l w)|[],w,_=>List.pairwise_singleton ..|a::l,w,h=>by have h':=rD.1 h;rw[xB];by_cases h1:ZS a w=M;(·rw[if_pos h1];exact rD.2 ⟨fun x hx e=>h'.1 x hx (DX ((zA a w).1 h1) e),h'.2⟩);·rw[if_neg h1];refine rD.2 ⟨fun x hx e=>?_,Tq l w h'.2⟩;rcases TO l w x hx with rfl|hx;(·exact h1 ((zA _ _).2 e));·exact h'.1 x hx e
theorem Os{t:Tx}(h:qK t){w:Zd}(hw:QD w=0):Z7 t w=if Fz t.writes w=M then 0 else(if t.writes.length=10then 11 else 0):=by
 rw[Z7,if_pos ((kW t).2 h),if_pos hw]
theorem aZ{t:Tx}(h:qK t){w:Zd}(hw:QD w=0)(he:Z7 t w=0):qK (Yg t w):=by
 rw[Yg,if_pos he];rw[Os h hw]at he;refine⟨h.start,h.reads,?_,h.each,h.once,fun x hx=>?_,Tq _ _ h.apart⟩;·show(xB t.writes w).length<=10;rw[DV];have:=h.writes;by_cases hh:Fz t.writes w=M;(·rw[if_pos hh];exact this);·rw[if_neg hh]at he⊢;(have h10:t.writes.length≠10:=fun e=>by rw[if_pos e]at he;omega);omega
 ·rcases TO _ _ _ hx with rfl|hx;(·exact hw);·exact h.wrs x hx
def gW(l:List Zd)(n k:List UInt8):Option Zd:=l.find? fun q=>tP (q.name=n)&&tP (q.key=k)
theorem Oe{l:List Zd}{n k:List UInt8}{w:Zd}(h:gW l n k=I w):w∈l∧w.name=n∧w.key=k:=by
 refine⟨List.mem_of_find?_eq_some h,?_⟩;have:=List.find?_some h;simpa using this
def iP(a b k:List UInt8):Bool:=!YD k a&&!YD b k
def K2(n a b:List UInt8)(l:PL)(w:Zd):PL:=if w.name=n∧iP a b w.key=M then(if w.gone=M then zV l w.key else JI l (w.key,w.value))else l
def Sk(n a b:List UInt8):PL->List Zd->PL|l,[]=>l|l,w::ws=>Sk n a b (K2 n a b l w) ws
def kU(n a b:List UInt8):PL->List Zd->Int|_,[]=>0|l,w::ws=>if 60<(K2 n a b l w).length then 11 else kU n a b (K2 n a b l w) ws
def XS(r:Rd)(w:Zd):Bool:=tP (r.name=w.name)&&(if r.wide=M then iP r.key r.last w.key else tP (r.key=w.key))
def lE(t:Tx)(ws:List Zd):Bool:=ws.any fun w=>t.reads.any fun r=>XS r w
def Oz(t:Tx)(l:List XD):Bool:=l.any fun c=>tP (t.start<c.turn)&&lE t c.writes
def Tv(t:Tx):Int:=Gj t
def JW(t:Tx)(l:List XD):Bool:=if Gj t=0then Oz t l else N
def zY(l:FL)(t:Tx):Int:=if Q8 l=0then Gj t else Q8 l
def Kv(l:FL)(t:Tx)(n k:List UInt8):Int:=if zY l t=0then(if Qt n.length=0then Qp k.length else Qt n.length)else zY l t
def U6(l:FL)(t:Tx)(n k:List UInt8):Bool:=if Kv l t n k=0then(gW t.writes n k).isSome else N
def Vh(l:FL)(t:Tx)(n k:List UInt8):Bool:=if Kv l t n k=0then(match gW t.writes n k with|I w=>!w.gone|none=>Vc l n k)else N
def UZ(l:FL)(t:Tx)(n k:List UInt8):List UInt8:=if Kv l t n k=0then(match gW t.writes n k with|I w=>w.value|none=>Vg l n k)else[]
theorem SR{l:FL}{t:Tx}(hl:Z5 l)(ht:qK t){n k:List UInt8}(hn:1<=n.length∧n.length<=8)(hk:1<=k.length∧k.length<=16):Kv l t n k=0:=by
 rw[Kv,zY,if_pos ((X6 l).2 hl),if_pos ((kW t).2 ht),if_pos ((ZD _).2 hn),(Zv _).2 hk]
def JU(l:FL)(t:Tx)(n a b:List UInt8):Int:=if zY l t=0then(if Qt n.length=0then(if Qp a.length=0then(if Qp b.length=0then kU n a b (Vl (YE l n) a b) t.writes else Qp b.length)else Qp a.length)else Qt n.length)else zY l t
def VZ(l:FL)(t:Tx)(n a b:List UInt8):PL:=if JU l t n a b=0then Sk n a b (Vl (YE l n) a b) t.writes else[]
structure Rp where
  sess : Int
  code : Int
  turn : Int
  found : Bool
  value : List UInt8
  pairs : PL
  pf : Option (FL × List UInt8 × List UInt8)
def Vj(s:Nat)(e:Int):Rp:=⟨(s:Int),e,0,N,[],[],G⟩
def IA(s:Nat)(t:Int):Rp:=⟨(s:Int),0,t,N,[],[],G⟩
structure Sv where
  up : Bool
  tape : V8
  commits : List XD
  synced : Nat
  begun : Nat -> Bool
  waits : Nat -> Bool
  txns : Nat -> Tx
  queue : List Nat
  out : List Rp
def UA{α:Type}(f:Nat->α)(i:Nat)(x:α):Nat->α:=fun j=>if j=i then x else f j
theorem Xh{α:Type}(f:Nat->α)(i:Nat)(x:α):UA f i x i=x:=by
 simp[UA]
theorem Zk{α:Type}(f:Nat->α){i j:Nat}(x:α)(h:j≠i):UA f i x j=f j:=by
 simp[UA,h]
def Gb(up:Bool)(t:V8)(cs:List XD)(o:List Rp):Sv:=⟨up,t,cs,cs.length,fun _=>N,fun _=>N,fun _=>FH,[],o⟩
def AG:Sv:=Gb M VQ [] []
def Zx(v:Sv)(r:Rp):Sv:={v with out:=v.out++[r]}
def QE(v:Sv)(n:Nat):FL:=G9 [] (v.commits.take n)
def Uk(v:Sv)(s:Nat)(x:Rd)(o:Rp):Sv:=if Xf (v.txns s) x=0then Zx {v with txns:=UA v.txns s (Ya (v.txns s) x)} o else Zx v (Vj s (Xf (v.txns s) x))
def Vn(v:Sv)(s:Nat)(w:Zd):Sv:=Zx (if Z7 (v.txns s) w=0then{v with txns:=UA v.txns s (Yg (v.txns s) w)}else v) (Vj s (Z7 (v.txns s) w))
def Me(v:Sv)(s:Nat)(r:Rq):Sv:=if U6 (QE v (v.txns s).start.toNat) (v.txns s) r.name r.key=M then Zx v ⟨(s:Int),0,(v.txns s).start,Vh (QE v (v.txns s).start.toNat) (v.txns s) r.name r.key,UZ (QE v (v.txns s).start.toNat) (v.txns s) r.name r.key,[],G⟩else Uk v s (Zs r) ⟨(s:Int),0,(v.txns s).start,Vh (QE v (v.txns s).start.toNat) (v.txns s) r.name r.key,UZ (QE v (v.txns s).start.toNat) (v.txns s) r.name r.key,[],G⟩
def vN(v:Sv)(s:Nat)(r:Rq):Sv:=if JU (QE v (v.txns s).start.toNat) (v.txns s) r.name r.key r.last=0then Uk v s (Zs r) ⟨(s:Int),0,(v.txns s).start,N,[],VZ (QE v (v.txns s).start.toNat) (v.txns s) r.name r.key r.last,G⟩else Zx v (Vj s (JU (QE v (v.txns s).start.toNat) (v.txns s) r.name r.key r.last))
def G6(v:Sv)(s:Nat)(r:Rq):Sv:=if r.kind=4∨r.kind=5then Vn v s (Xj r)else if r.kind=2then Me v s r else vN v s r
def YV(v:Sv)(s:Nat):XD:=⟨((v.commits.length+1:Nat):Int),(v.txns s).writes⟩
def Xk(v:Sv)(s:Nat):Sv:={v with begun:=UA v.begun s N}
def Jr(D:List UInt8->List UInt8)(v:Sv)(s:Nat):Sv:=if(v.txns s).writes.length=0then Zx (Xk v s) (IA s (v.txns s).start)else if v.queue.length=6∨v.commits.length=300then Zx v (Vj s 11)else if JW (v.txns s) v.commits=M then Zx (Xk v s) (Vj s 9)else if QQ (QE v v.commits.length) (v.txns s).writes≠0then Zx (Xk v s) (Vj s (QQ (QE v v.commits.length) (v.txns s).writes))else if Vd D v.tape (YV v s)≠0then Zx (Xk v s) (Vj s (Vd D v.tape (YV v s)))else{Xk v s with tape:=zU D v.tape (YV v s),commits:=v.commits++[YV v s],queue:=v.queue++[s],waits:=UA v.waits s M}
def Rk(v:Sv)(s:Nat)(r:Rq):Sv:=Zx v ⟨(s:Int),0,(v.synced:Int),Vc (QE v v.synced) r.name r.key,Vg (QE v v.synced) r.name r.key,[],I (QE v v.synced,r.name,r.key)⟩
def QI(v:Sv)(s:Nat)(r:Rq):Bool:=v.waits s||(if r.kind=1then v.begun s else !v.begun s)
def Js(D:List UInt8->List UInt8)(v:Sv)(s:Nat)(r:Rq):Sv:=if r.kind=8then Rk v s r else if QI v s r=M then Zx v (Vj s 6)else if r.kind=1then Zx {v with begun:=UA v.begun s M,txns:=UA v.txns s ⟨(v.synced:Int),[],[]⟩} (IA s (v.synced:Int))else if r.kind=7then Zx (Xk v s) (Vj s 0)else if Zu (v.synced:Int) (v.txns s).start=N then Zx (Xk v s) (Vj s 10)else if r.kind=6then Jr D v s else G6 v s r
def Xi(D:List UInt8->List UInt8)(v:Sv)(s:Nat)(data:List UInt8):Sv:=if v.up=N then Zx v (Vj s 13)else if QJ data=0then Js D v s (Qu data)else Zx v (Vj s (QJ data))
def Vt:Nat->List Nat->List Rp|_,[]=>[]|n,s::q=>IA s ((n+1:Nat):Int)::Vt (n+1) q
def UE(f:Nat->Bool)(q:List Nat):Nat->Bool:=fun j=>if j∈q then N else f j
def Vp(v:Sv):Sv:={v with tape:=Km v.tape,synced:=v.synced+v.queue.length,waits:=UE v.waits v.queue,queue:=[],out:=v.out++Vt v.synced v.queue}
def UN(D:List UInt8->List UInt8)(v:Sv)(k:Int):Sv:=Gb N (xC D (Xs v.tape k)) (yL D (Xs v.tape k)) v.out
def UJ(D:List UInt8->List UInt8)(v:Sv)(a:Ac):Sv:=if a.kind=1then Xi D v a.sess.toNat a.data else if a.kind=2then(if v.up=M then Vp v else v)else if a.kind=3then(if v.up=M then UN D v a.keep else v)else{v with up:=M}
def GG(D:List UInt8->List UInt8)(l:List Ac):Sv:=l.foldl (UJ D) AG
theorem Hi(D:List UInt8->List UInt8)(l:List Ac)(a:Ac):GG D (l++[a])=UJ D (GG D l) a:=by
 simp[GG]
def G8(l:List Ac):Int:=Gh l
structure Oc where
  up : Bool
  turn : Int
  pending : Int
  forest : FL
  replies : List Rp
def Er(v:Sv):Oc:=⟨v.up,(v.synced:Int),(v.queue.length:Int),QE v v.synced,v.out⟩
def Wz:Oc:=⟨N,0,0,[],[]⟩
def xU(D:List UInt8->List UInt8)(l:List Ac):Oc:=if G8 l=0then Er (GG D l)else Wz
section
theorem E0:∀{cs:List XD}{f:FL}{i:Nat},vG f i cs->zB (i+1) cs|[],_,_,_=>trivial|_::_,_,_,h=>⟨by rw[h.2.1],h.1,E0 h.2.2.2⟩
theorem Ns:∀{cs:List XD}{f:FL}{i:Nat}{c:XD},vG f i cs->QZ c=0->c.turn=((i+cs.length+1:Nat):Int)->QQ (G9 f cs) c.writes=0->vG f i (cs++[c])|[],_,_,_,_,h1,h2,h3=>⟨h1,by rw[h2];rfl,h3,trivial⟩|d::cs,f,i,c,h,h1,h2,h3=>⟨h.1,h.2.1,h.2.2.1,Ns h.2.2.2 h1 (by rw[h2,sD];congr 1;omega) h3⟩
structure Zb (D : List UInt8 -> List UInt8) (v : Sv) : Prop where
  goes : vG [] 0 v.commits
  many : v.commits.length <= 300
  data : v.tape.data = QW D v.commits
  mark : v.tape.synced = ((QW D (v.commits.take v.synced)).length : Int)
  room : v.tape.data.length <= 200000
  turn : v.synced + v.queue.length = v.commits.length
  few : v.queue.length <= 6
  wait : ∀ s, v.waits s = M ↔ s ∈ v.queue
  once : v.queue.Nodup
  tx : ∀ s, v.begun s = M -> qK (v.txns s) ∧ (v.txns s).start <= (v.synced : Int)
  idle : ∀ s, v.waits s = M -> v.begun s = N
  down : v.up = N -> v.queue = [] ∧ ∀ s, v.begun s = N
variable{D:List UInt8->List UInt8}{v:Sv}
theorem Zb.tell(h:Zb D v)(r:Rp):Zb D (Zx v r):=⟨h.goes,h.many,h.data,h.mark,h.room,h.turn,h.few,h.wait,h.once,h.tx,h.idle,h.down⟩
theorem EV{f:Nat->Bool}{s j:Nat}(h:UA f s N j=M):j≠s∧f j=M:=by
 by_cases e:j=s;·rw[e,Xh]at h;cases h
 ·exact⟨e,by rwa[Zk f _ e]at h⟩
theorem Zb.end(h:Zb D v)(s:Nat):Zb D (Xk v s):=by
 refine⟨h.goes,h.many,h.data,h.mark,h.room,h.turn,h.few,h.wait,h.once,fun j hj=>h.tx j (EV hj).2,fun j hj=>?_,fun hu=>⟨(h.down hu).1,fun j=>?_⟩⟩;·show UA v.begun s N j=N;by_cases e:j=s;(·rw[e,Xh]);·rw[Zk _ _ e];exact h.idle j hj
 ·show UA v.begun s N j=N;by_cases e:j=s;(·rw[e,Xh]);·rw[Zk _ _ e];exact(h.down hu).2 j
theorem Zb.txn(h:Zb D v){s:Nat}{t:Tx}(ht:qK t)(hs:t.start<=(v.synced:Int)):Zb D {v with txns:=UA v.txns s t}:=by
 refine⟨h.goes,h.many,h.data,h.mark,h.room,h.turn,h.few,h.wait,h.once,fun j hj=>?_,h.idle,h.down⟩;show qK (UA v.txns s t j)∧(UA v.txns s t j).start<=_;by_cases e:j=s;·rw[e,Xh];exact⟨ht,hs⟩
 ·rw[Zk _ _ e];exact h.tx j hj
theorem Zb.may(h:Zb D v):Gx v.tape=M:=by
 refine(Kz _).2 ⟨h.room,?_⟩;rw[h.mark,h.data];have:=UW D v.commits v.synced v.commits.length (by have:=h.turn;omega);rw[sE]at this;omega
theorem kT{t:Tx}{r:Rd}(h:Xf t r=0):(Ya t r).start=t.start:=by
 rw[Ya,if_pos h];split<;>rfl
theorem Cq{t:Tx}{w:Zd}(h:Z7 t w=0):(Yg t w).start=t.start:=by
 rw[Yg,if_pos h]
theorem Zb.note(h:Zb D v){s:Nat}(hb:v.begun s=M){x:Rd}(hx:XE x=0)(o:Rp):Zb D (Uk v s x o):=by
 obtain⟨h1,h2⟩:=h.tx s hb;unfold Uk;by_cases e:Xf (v.txns s) x=0;·rw[if_pos e];exact(h.txn (dG h1 hx e) (by rw[kT e];exact h2)).tell _
 ·rw[if_neg e];exact h.tell _
theorem Zb.write(h:Zb D v){s:Nat}(hb:v.begun s=M){w:Zd}(hw:QD w=0):Zb D (Vn v s w):=by
 obtain⟨h1,h2⟩:=h.tx s hb;unfold Vn;by_cases e:Z7 (v.txns s) w=0;·rw[if_pos e];exact(h.txn (aZ h1 hw e) (by rw[Cq e];exact h2)).tell _
 ·rw[if_neg e];exact h.tell _
theorem kZ{r:Rq}(h:X8 r)(hk:r.kind=2∨r.kind=3):XE (Zs r)=0:=O0 (by
 rw[(EZ h).1,if_pos hk])
theorem Hp{r:Rq}(h:X8 r)(hk:r.kind=4∨r.kind=5):QD (Xj r)=0:=Ph (by
 rw[(EZ h).2,if_pos hk])
theorem Zb.work(h:Zb D v){s:Nat}(hb:v.begun s=M){r:Rq}(hr:X8 r)(hk:2<=r.kind∧r.kind<=5):Zb D (G6 v s r):=by
 unfold G6;by_cases h1:r.kind=4∨r.kind=5;·rw[if_pos h1];exact h.write hb (Hp hr h1)
 ·rw[if_neg h1];by_cases h2:r.kind=2;(·rw[if_pos h2];unfold Me;split;(·exact h.tell _);·exact h.note hb (kZ hr (.inl h2)) _);·rw[if_neg h2];unfold vN;split;(·exact h.note hb (kZ hr (.inr (by omega))) _);·exact h.tell _
theorem Fn{t:Tx}(ht:qK t)(hw:¬t.writes.length=0)(n:Nat)(hn:n<=300):QZ ⟨((n+1:Nat):Int),t.writes⟩=0:=(KW _).2 ⟨by
 show(1:Int)<=((n+1:Nat):Int)∧((n+1:Nat):Int)<=1048576;omega,⟨by
 show 1<=t.writes.length;omega,ht.writes⟩,ht.wrs⟩
theorem C6(h:Zb D v){s:Nat}(hb:v.begun s=M)(h1:¬(v.txns s).writes.length=0)(h2:¬(v.queue.length=6∨v.commits.length=300))(h4:QQ (QE v v.commits.length) (v.txns s).writes=0)(h5:Vd D v.tape (YV v s)=0):Zb D {Xk v s with tape:=zU D v.tape (YV v s),commits:=v.commits++[YV v s],queue:=v.queue++[s],waits:=UA v.waits s M}:=by
 obtain⟨ht,hst⟩:=h.tx s hb;have hm:=h.many;have hc:QZ (YV v s)=0:=Fn ht h1 _ hm;have hmay:=h.may;have hroom:v.tape.data.length+(ZI D (YV v s)).length<=200000:=by rw[Vd,if_pos hmay,if_pos hc]at h5;by_cases e:200000<v.tape.data.length+(ZI D (YV v s)).length;(·rw[if_pos e]at h5;exact absurd h5 (by decide));·omega
 have hT:zU D v.tape (YV v s)=⟨v.tape.data++ZI D (YV v s),v.tape.synced⟩:=by rw[zU,if_pos h5]
 have hnw:v.waits s≠M:=fun e=>by have:=h.idle s e;rw[hb]at this;cases this
 have hnq:s∉v.queue:=fun e=>hnw ((h.wait s).2 e);have hup:v.up=M:=by cases hu:v.up with|true=>rfl|false=>have:=(h.down hu).2 s;rw[hb]at this;cases this
 have htn:=h.turn;rw[hT];refine⟨?_,?_,?_,?_,?_,?_,?_,?_,?_,?_,?_,?_⟩;·refine Ns h.goes hc (by show((v.commits.length+1:Nat):Int)=_;congr 1;omega) ?_;rw[QE,sE]at h4;exact h4
 ·show(v.commits++[YV v s]).length<=300;rw[tB,sB];omega
 ·show v.tape.data++ZI D (YV v s)=QW D (v.commits++[YV v s]);rw[VE,Pu,h.data]
 ·show v.tape.synced=((QW D ((v.commits++[YV v s]).take v.synced)).length:Int);rw[List.take_append_of_le_length (by omega)];exact h.mark
 ·show(v.tape.data++ZI D (YV v s)).length<=200000;rw[tB];exact hroom
 ·show v.synced+(v.queue++[s]).length=(v.commits++[YV v s]).length;rw[tB,tB,sB,sB];omega
 ·show(v.queue++[s]).length<=6;have:=h.few;rw[tB,sB];omega
 ·intro j;show UA v.waits s M j=M↔j∈v.queue++[s];by_cases e:j=s;(·rw[e,Xh];simp);·rw[Zk _ _ e,h.wait j];simp[e]
 ·show(v.queue++[s]).Nodup;rw[pN];exact⟨h.once,by simp,fun a ha b hb e=>hnq (by simp at hb;rw[<-hb,<-e];exact ha)⟩
 ·intro j hj;exact h.tx j (EV hj).2
 ·intro j hj;show UA v.begun s N j=N;by_cases e:j=s;(·rw[e,Xh]);·rw[Zk _ _ e];exact h.idle j (by have:UA v.waits s M j=M:=hj;rwa[Zk _ _ e]at this)
 ·intro hu;have:v.up=N:=hu;rw[hup]at this;cases this
theorem Zb.commit(h:Zb D v){s:Nat}(hb:v.begun s=M):Zb D (Jr D v s):=by
 unfold Jr;by_cases h1:(v.txns s).writes.length=0;·rw[if_pos h1];exact(h.end s).tell _
 ·rw[if_neg h1];by_cases h2:v.queue.length=6∨v.commits.length=300;(·rw[if_pos h2];exact h.tell _);·rw[if_neg h2];by_cases h3:JW (v.txns s) v.commits=M;(·rw[if_pos h3];exact(h.end s).tell _);·rw[if_neg h3];by_cases h4:QQ (QE v v.commits.length) (v.txns s).writes≠0;(·rw[if_pos h4];exact(h.end s).tell _);·rw[if_neg h4];by_cases h5:Vd D v.tape (YV v s)≠0;(·rw[if_pos h5];exact(h.end s).tell _);·rw[if_neg h5];exact C6 h hb h1 h2 (sS h4) (sS h5)
theorem Zb.req(h:Zb D v)(hup:v.up=M)(s:Nat){r:Rq}(hr:X8 r):Zb D (Js D v s r):=by
 unfold Js;by_cases h1:r.kind=8;·rw[if_pos h1];exact h.tell _
 ·rw[if_neg h1];by_cases h2:QI v s r=M;(·rw[if_pos h2];exact h.tell _);·rw[if_neg h2];(have h2':v.waits s=N∧(if r.kind=1then v.begun s else !v.begun s)=N:=by unfold QI at h2;cases hw:v.waits s;(·rw[hw]at h2;exact⟨rfl,by simpa using h2⟩);·rw[hw]at h2;exact absurd rfl h2);by_cases h3:r.kind=1;(·rw[if_pos h3];refine Zb.tell ?_ _;have hm:=h.many;have htn:=h.turn;refine⟨h.goes,h.many,h.data,h.mark,h.room,h.turn,h.few,h.wait,h.once,fun j hj=>?_,fun j hj=>?_,fun hu=>?_⟩;(·show qK (UA v.txns s _ j)∧(UA v.txns s _ j).start<=_;by_cases e:j=s;(·rw[e,Xh];exact⟨⟨by show(0:Int)<=(v.synced:Int)∧(v.synced:Int)<=1048576;omega,by simp,by simp,by simp,by simp,by simp,by simp[Nw]⟩,Int.le_refl _⟩);·rw[Zk _ _ e];exact h.tx j (by have:UA v.begun s M j=M:=hj;rwa[Zk _ _ e]at this));(·show UA v.begun s M j=N;have hj':v.waits j=M:=hj;by_cases e:j=s;(·rw[e,h2'.1]at hj';cases hj');·rw[Zk _ _ e];exact h.idle j hj');·have:v.up=N:=hu;rw[hup]at this;cases this);·rw[if_neg h3];(have hb:v.begun s=M:=by have:=h2'.2;rw[if_neg h3]at this;simpa using this);by_cases h4:r.kind=7;(·rw[if_pos h4];exact(h.end s).tell _);·rw[if_neg h4];by_cases h5:Zu (v.synced:Int) (v.txns s).start=N;(·rw[if_pos h5];exact(h.end s).tell _);·rw[if_neg h5];by_cases h6:r.kind=6;(·rw[if_pos h6];exact h.commit hb);·rw[if_neg h6];have hk:=hr.kind;exact h.work hb hr (by omega)
theorem Zb.ask(h:Zb D v)(s:Nat)(d:List UInt8):Zb D (Xi D v s d):=by
 unfold Xi;by_cases h1:v.up=N;·rw[if_pos h1];exact h.tell _
 ·rw[if_neg h1];by_cases h2:QJ d=0;(·rw[if_pos h2];exact h.req (by simpa using h1) s ((Yh _).1 (Ys h2).1));·rw[if_neg h2];exact h.tell _
theorem Zb.sync(h:Zb D v):Zb D (Vp v):=by
 have hm:=h.may;have htn:=h.turn;refine⟨h.goes,h.many,?_,?_,?_,?_,by simp[Vp],?_,by simp[Vp],?_,?_,?_⟩;·show(Km v.tape).data=_;rw[Km,if_pos hm];exact h.data
 ·show(Km v.tape).synced=((QW D (v.commits.take (v.synced+v.queue.length))).length:Int);rw[Km,if_pos hm,htn,sE,<-h.data]
 ·show(Km v.tape).data.length<=_;rw[Km,if_pos hm];exact h.room
 ·show v.synced+v.queue.length+([]:List Nat).length=v.commits.length;simpa using htn
 ·intro j;show UE v.waits v.queue j=M↔j∈([]:List Nat);rw[UE];constructor;(·intro e;split at e;(·cases e);·rename_i hq;exact absurd ((h.wait j).1 e) hq);·intro e;simp at e
 ·intro j hj;obtain⟨h1,h2⟩:=h.tx j hj;exact⟨h1,by show _<=((v.synced+v.queue.length:Nat):Int);have:(v.txns j).start<=(v.synced:Int):=h2;show(v.txns j).start<=_;omega⟩
 ·intro j hj;have:UE v.waits v.queue j=M:=hj;rw[UE]at this;split at this;(·cases this);·exact h.idle j this
 ·intro hu;exact⟨rfl,(h.down hu).2⟩
theorem Lx{up:Bool}{t:V8}{cs:List XD}{o:List Rp}(hg:vG [] 0 cs)(hm:cs.length<=300)(hd:t=⟨QW D cs,((QW D cs).length:Int)⟩)(hr:(QW D cs).length<=200000):Zb D (Gb up t cs o):=by
 subst hd;refine⟨hg,hm,rfl,?_,hr,rfl,by simp[Gb],fun s=>by simp[Gb],by simp[Gb],fun s hs=>by simp[Gb]at hs,fun s hs=>by simp[Gb]at hs,fun _=>⟨rfl,fun _=>rfl⟩⟩;show((QW D cs).length:Int)=((QW D (cs.take cs.length)).length:Int);rw[sE]
theorem TH(D:List UInt8->List UInt8):Zb D AG:=Lx trivial (by
 simp) rfl (by
 simp[QW])
theorem qO(hD:∀x,(D x).length=4)(h:Zb D v){k:Int}(hk:0<=k):∃j,v.synced<=j∧j<=v.commits.length∧UN D v k=Gb N ⟨QW D (v.commits.take j),((QW D (v.commits.take j)).length:Int)⟩ (v.commits.take j) v.out∧(k=0->j=v.synced):=by
 have hm:=h.may;obtain⟨m1,m2,m3⟩:=(Kz _).1 hm;have hit:zB 1 v.commits:=E0 h.goes;have htn:=h.turn;have hce:Ut v.tape k=0:=by rw[Ut,if_pos hm,if_neg (by omega)]
 have hcn:Xw v.tape k<=v.tape.data.length∧v.tape.synced<=(Xw v.tape k:Int):=by rw[Xw];split<;>omega
 have hcT:Xs v.tape k=⟨(QW D v.commits).take (Xw v.tape k),(Xw v.tape k:Int)⟩:=by rw[Xs,if_pos hce,h.data]
 have hrl:(QW D v.commits).length<=200000:=by rw[<-h.data];exact h.room
 obtain⟨j,h1,h2,h3,_,h5,h6⟩:=Ox hD hit (Xw v.tape k) (Xw v.tape k:Int) (by rw[<-h.data];exact hcn.1) (by omega) hrl;have hsj:v.synced<=j:=by refine RG (D:=D) (cs:=v.commits) (k:=Xw v.tape k) (by omega) h3 ?_;have:=h.mark;omega
 have e:(if(Xw v.tape k:Int)>((QW D (v.commits.take j)).length:Int)then((QW D (v.commits.take j)).length:Int)else(Xw v.tape k:Int))=((QW D (v.commits.take j)).length:Int):=by split<;>omega
 refine⟨j,hsj,h1,?_,?_⟩;·rw[UN,hcT,h5,h6,e]
 ·intro hk0;by_cases hj:j=v.synced;(·exact hj);·exfalso;(have hn:(Xw v.tape k:Int)=v.tape.synced:=by rw[Xw,hk0];split<;>omega);have g1:=UW D v.commits (v.synced+1) j (by omega);have g2:=Bz D v.commits v.synced (by omega);have hc:=(h.goes.at v.synced (by omega)).1;have g3:=(yN hD hc).1;have hmk:=h.mark;rw[g2,tB]at g1;omega
theorem Zb.crash(hD:∀x,(D x).length=4)(h:Zb D v){k:Int}(hk:0<=k):Zb D (UN D v k):=by
 obtain⟨j,h1,h2,h3,_⟩:=qO hD h hk;have hm:=h.many;have hle:=UW D v.commits j v.commits.length h2;rw[sE,<-h.data]at hle;have hr:=h.room;rw[h3];exact Lx (h.goes.take j) (by rw[rX];omega) rfl (by omega)
theorem Zb.start(h:Zb D v):Zb D {v with up:=M}:=⟨h.goes,h.many,h.data,h.mark,h.room,h.turn,h.few,h.wait,h.once,h.tx,h.idle,fun hu=>by
 cases hu⟩
theorem Zb.act(hD:∀x,(D x).length=4)(h:Zb D v){a:Ac}(ha:Ku a):Zb D (UJ D v a):=by
 unfold UJ;by_cases h1:a.kind=1;·rw[if_pos h1];exact h.ask _ _
 ·rw[if_neg h1];by_cases h2:a.kind=2;(·rw[if_pos h2];split;(·exact h.sync);·exact h);·rw[if_neg h2];by_cases h3:a.kind=3;(·rw[if_pos h3];split;(·exact h.crash hD (ha.keep h3).1);·exact h);·rw[if_neg h3];exact h.start
theorem ET(hD:∀x,(D x).length=4):∀(l:List Ac)(v:Sv),Zb D v->(∀a∈l,Ku a)->Zb D (l.foldl (UJ D) v)|[],_,h,_=>h|a::l,v,h,ha=>ET hD l _ (h.act hD (ha a (by simp))) (fun x hx=>ha x (by simp[hx]))
theorem DH(hD:∀x,(D x).length=4)(l:List Ac)(h:∀a∈l,Ku a):Zb D (GG D l):=ET hD l AG (TH D) h
end
structure Same (v u : Sv) : Prop where
  up : u.up = v.up
  tape : u.tape = v.tape
  commits : u.commits = v.commits
  synced : u.synced = v.synced
  waits : u.waits = v.waits
  queue : u.queue = v.queue
structure dU (s : Nat) (v u : Sv) : Prop extends Same v u where
  out : ∃ r, u.out = v.out ++ [r] ∧ r.sess = (s : Int)
  begun : ∀ j, j ≠ s -> u.begun j = v.begun j
  txns : ∀ j, j ≠ s -> u.txns j = v.txns j
theorem Uj(v:Sv)(s:Nat)(r:Rp)(h:r.sess=(s:Int)):dU s v (Zx v r):=⟨⟨rfl,rfl,rfl,rfl,rfl,rfl⟩,⟨r,rfl,h⟩,fun _ _=>rfl,fun _ _=>rfl⟩
theorem yU(v:Sv)(s:Nat)(r:Rp)(h:r.sess=(s:Int)):dU s v (Zx (Xk v s) r):=⟨⟨rfl,rfl,rfl,rfl,rfl,rfl⟩,⟨r,rfl,h⟩,fun _ hj=>Zk _ _ hj,fun _ _=>rfl⟩
theorem Lm(v:Sv)(s:Nat)(t:Tx)(r:Rp)(h:r.sess=(s:Int)):dU s v (Zx {v with txns:=UA v.txns s t} r):=⟨⟨rfl,rfl,rfl,rfl,rfl,rfl⟩,⟨r,rfl,h⟩,fun _ _=>rfl,fun _ hj=>Zk _ _ hj⟩
theorem DI(v:Sv)(s:Nat)(x:Rd)(o:Rp)(h:o.sess=(s:Int)):dU s v (Uk v s x o):=by
 unfold Uk;split;·exact Lm v s _ _ h
 ·exact Uj v s _ rfl
theorem Ws(v:Sv)(s:Nat)(w:Zd):dU s v (Vn v s w):=by
 unfold Vn;split;·exact Lm v s _ _ rfl
 ·exact Uj v s _ rfl
theorem IU(v:Sv)(s:Nat)(r:Rq):dU s v (G6 v s r):=by
 unfold G6;split;·exact Ws v s _
 ·split;(·unfold Me;split;(·exact Uj v s _ rfl);·exact DI v s _ _ rfl);·unfold vN;split;(·exact DI v s _ _ rfl);·exact Uj v s _ rfl
structure Om (D : List UInt8 -> List UInt8) (s : Nat) (v u : Sv) : Prop where
  up : u.up = v.up
  tape : u.tape = zU D v.tape (YV v s)
  commits : u.commits = v.commits ++ [YV v s]
  synced : u.synced = v.synced
  waits : u.waits = UA v.waits s M
  queue : u.queue = v.queue ++ [s]
  out : u.out = v.out
  begun : u.begun = UA v.begun s N
  txns : u.txns = v.txns
  full : (v.txns s).writes.length ≠ 0
  room : v.queue.length ≠ 6 ∧ v.commits.length ≠ 300
  clash : JW (v.txns s) v.commits = N
  fits : QQ (QE v v.commits.length) (v.txns s).writes = 0
  app : Vd D v.tape (YV v s) = 0
theorem In(D:List UInt8->List UInt8)(v:Sv)(s:Nat):dU s v (Jr D v s)∨Om D s v (Jr D v s):=by
 unfold Jr;by_cases h1:(v.txns s).writes.length=0;·rw[if_pos h1];exact .inl (yU v s _ rfl)
 ·rw[if_neg h1];by_cases h2:v.queue.length=6∨v.commits.length=300;(·rw[if_pos h2];exact .inl (Uj v s _ rfl));·rw[if_neg h2];by_cases h3:JW (v.txns s) v.commits=M;(·rw[if_pos h3];exact .inl (yU v s _ rfl));·rw[if_neg h3];by_cases h4:QQ (QE v v.commits.length) (v.txns s).writes≠0;(·rw[if_pos h4];exact .inl (yU v s _ rfl));·rw[if_neg h4];by_cases h5:Vd D v.tape (YV v s)≠0;(·rw[if_pos h5];exact .inl (yU v s _ rfl));·rw[if_neg h5];exact .inr ⟨rfl,rfl,rfl,rfl,rfl,rfl,rfl,rfl,rfl,h1,⟨fun e=>h2 (.inl e),fun e=>h2 (.inr e)⟩,by simpa using h3,sS h4,sS h5⟩
theorem fV(D:List UInt8->List UInt8)(v:Sv)(s:Nat)(r:Rq):dU s v (Js D v s r)∨(r.kind=6∧QI v s r=N∧Om D s v (Js D v s r)):=by
 unfold Js;by_cases h1:r.kind=8;·rw[if_pos h1];exact .inl (Uj v s _ rfl)
 ·rw[if_neg h1];by_cases h2:QI v s r=M;(·rw[if_pos h2];exact .inl (Uj v s _ rfl));·rw[if_neg h2];by_cases h3:r.kind=1;(·rw[if_pos h3];exact .inl ⟨⟨rfl,rfl,rfl,rfl,rfl,rfl⟩,⟨_,rfl,rfl⟩,fun _ hj=>Zk _ _ hj,fun _ hj=>Zk _ _ hj⟩);·rw[if_neg h3];by_cases h4:r.kind=7;(·rw[if_pos h4];exact .inl (yU v s _ rfl));·rw[if_neg h4];by_cases h5:Zu (v.synced:Int) (v.txns s).start=N;(·rw[if_pos h5];exact .inl (yU v s _ rfl));·rw[if_neg h5];by_cases h6:r.kind=6;(·rw[if_pos h6];rcases In D v s with h|h;(·exact .inl h);·exact .inr ⟨h6,by simpa using h2,h⟩);·rw[if_neg h6];exact .inl (IU v s r)
theorem fS(D:List UInt8->List UInt8)(v:Sv)(s:Nat)(d:List UInt8):dU s v (Xi D v s d)∨(v.up=M∧QJ d=0∧(Qu d).kind=6∧v.waits s=N∧v.begun s=M∧Om D s v (Xi D v s d)):=by
 unfold Xi;by_cases h1:v.up=N;·rw[if_pos h1];exact .inl (Uj v s _ rfl)
 ·rw[if_neg h1];by_cases h2:QJ d=0;(·rw[if_pos h2];rcases fV D v s (Qu d)with h|⟨h3,h4,h5⟩;(·exact .inl h);·right;unfold QI at h4;rw[if_neg (by omega)]at h4;simp only[rN,Bool.not_eq_false']at h4;exact⟨by simpa using h1,h2,h3,h4.1,h4.2,h5⟩);·rw[if_neg h2];exact .inl (Uj v s _ rfl)
theorem P6:∀(q:List Nat)(n:Nat),(Vt n q).length=q.length|[],_=>rfl|_::q,n=>by rw[Vt,sD,sD,P6 q]
structure Gr where
  kind : Int
  sess : Int
  name : Int
  key : Int
  value : Int
def kP:Gr:=⟨0,0,0,0,0⟩
def Y6(n:Int)(many:Nat):Nat:=if n<0then((-(n+1))%(many:Int)).toNat else(n%(many:Int)).toNat
theorem xS(n:Int){many:Nat}(h:0<many):Y6 n many<many:=by
 unfold Y6;split;·have b0:=oC (-(n+1)) (show(many:Int)≠0 by omega);have b1:=pO (-(n+1)) (show(0:Int)<many by omega);omega
 ·have b0:=oC n (show(many:Int)≠0 by omega);have b1:=pO n (show(0:Int)<many by omega);omega
def lA(n:Int):List UInt8:=[sG (97+Y6 n 3)]
def i7(n:Int):List UInt8:=[sG (107+Y6 n 5)]
def l9(n:Int):List UInt8:=[sG (Y6 n 50)]
def FA(k:Nat)(a b c d:List UInt8):Rq:=if k<4then⟨1,[],[],[],[]⟩else if k<7then⟨2,a,b,[],[]⟩else if k=7then⟨3,a,b,c,[]⟩else if k<12then⟨4,a,b,[],d⟩else if k=12then⟨5,a,b,[],[]⟩else if k<17then⟨6,[],[],[],[]⟩else if k=17then⟨7,[],[],[],[]⟩else⟨8,a,b,[],[]⟩
def Es(g:Gr):Rq:=FA (Y6 g.kind 20) (lA g.name) (i7 g.key) (i7 g.value) (l9 g.value)
theorem dP(k:Nat){a b c d:List UInt8}(ha:a.length=1)(hb:b.length=1)(hc:c.length=1)(hd:d.length=1):X8 (FA k a b c d):=by
 unfold FA;repeat' split
 all_goals(refine⟨⟨?_,?_⟩,?_,?_,?_,?_,?_,?_,?_,?_⟩<;>simp[QU, *])
theorem eM(g:Gr):X8 (Es g):=dP _ rfl rfl rfl rfl
def Cl(g:Gr):Ac:=if Y6 g.kind 26=20∨Y6 g.kind 26=21∨Y6 g.kind 26=22then⟨2,0,0,[]⟩else if Y6 g.kind 26=23then⟨3,0,(Y6 g.value 80:Int),[]⟩else if Y6 g.kind 26=24then⟨4,0,0,[]⟩else if Y6 g.kind 26=25then⟨1,(Y6 g.sess 8:Int),0,[sG (r7.wrap g.value).toNat,sG (r7.wrap g.key).toNat]⟩else⟨1,(Y6 g.sess 8:Int),0,Kn (Es g)⟩
def YX(l:List Gr)(n:Nat):List Ac:=(l.take n).map Cl
theorem eP{r:Rq}(h:X8 r):Kn r=Kb r:=by
 rw[Kn,if_pos ((Yh r).2 h)]
structure Ve (l : FL) : Prop where
  many : l.length * 48 <= 140737488355328
  each : ∀ i, i < l.length -> (l.getD i ([], [])).1.length <= 140737488355328 ∧ uB (l.getD i ([], [])).2
theorem Ve.len{l:FL}(h:Ve l):l.length<=140737488355328:=by
 have:=h.many;omega
theorem Z5.fits{l:FL}(h:Z5 l):Ve l:=by
 refine⟨by have:=h.room;omega,fun i hi=>?_⟩;have:=h.tens l[i] (sP hi);rw[show l[i]=l.getD i ([],[])by simp[hi]]at this;exact⟨by omega,this.2.2.fits⟩
def DN(w:F)(b o:Nat)(t:Tn):Prop:=∃vn vp,w.cell? ⟨b,o,G⟩=I vn∧w.cell? ⟨b,o+1,G⟩=I vp∧Qe w vn t.1∧Qr w vp t.2
theorem DN.grown{w w':F}{b o:Nat}{t:Tn}(h:DN w b o t)(hg:L w w' G):DN w' b o t:=by
 obtain⟨vn,vp,c1,c2,h1,h2⟩:=h;exact⟨vn,vp,hg.cell c1 (by simp),hg.cell c2 (by simp),h1.grown hg,h2.grown hg⟩
def ZC(w:F)(v:H)(l:FL):Prop:=∃a cap,v=J a l.length cap∧l.length<=cap∧((l=[]∧(a=G->cap=0))∨∃b o,a=I ⟨b,o,G⟩∧∀i,i<l.length->DN w b (o+i*2) (l.getD i ([],[])))
theorem qS(w:F):ZC w (J G 0 0) []:=⟨G,0,rfl,tZ _,.inl ⟨rfl,fun _=>rfl⟩⟩
theorem ZC.grown{w w':F}{v:H}{l:FL}(h:ZC w v l)(hg:L w w' G):ZC w' v l:=by
 obtain⟨a,cap,rfl,hc,h⟩:=h;refine⟨a,cap,rfl,hc,?_⟩;rcases h with h|⟨b,o,rfl,h⟩;·exact .inl h
 ·exact .inr ⟨b,o,rfl,fun i hi=>(h i hi).grown hg⟩
theorem ZC.shape{w:F}{v:H}{l:FL}(h:ZC w v l):∃a cap,v=J a l.length cap:=by
 obtain⟨a,cap,rfl,_⟩:=h;exact⟨a,cap,rfl⟩
theorem ZC.at{w:F}{a:Option sZ}{n cap:Nat}{l:FL}(h:ZC w (J a n cap) l)(i:Nat)(hi:i<l.length):∃b o,a=I ⟨b,o,G⟩∧DN w b (o+i*2) (l.getD i ([],[])):=by
 obtain⟨a',cap',e,hc,h⟩:=h;simp only[tG]at e;obtain⟨rfl,rfl,rfl⟩:=e;rcases h with⟨rfl,_⟩|⟨b,o,rfl,h⟩;·simp at hi
 ·exact⟨b,o,rfl,h i hi⟩
theorem eY:(61:Nat)≠5:=by
 decide
theorem eS:(61:Nat)≠44:=by
 decide
def ZG(base:Nat)(w:F)(v:H)(l:FL):Prop:=∃vs:List (H×H),vs.length=l.length∧w.ownsRow base 61 2 v l.length (flat vs)∧∀i,i<l.length->Qh 0 w (vs.getD i (sK,sK)).1 (l.getD i ([],[])).1∧QN 0 w (vs.getD i (sK,sK)).2 (l.getD i ([],[])).2
theorem yJ(base:Nat)(w:F):ZG base w (J G 0 0) []:=⟨[],rfl,sM _ _ _ _,fun i hi=>by
 simp at hi⟩
theorem ZG.row{base:Nat}{w:F}{v:H}{l:FL}(h:ZG base w v l):v.ownBlock=G∨∃g cur t fz,v.ownBlock=I g∧base<=g∧w.heap[g]?=I (S cur t fz)∧t≠5∧t≠44:=by
 obtain⟨vs,_,h,_⟩:=h;rcases h.2with⟨rfl,_⟩|⟨g,cap,cur,rfl,hb,hg,_⟩;·exact .inl rfl
 ·exact .inr ⟨g,cur,_,_,rfl,hb,hg,eY,eS⟩
theorem ZG.row0{base:Nat}{w:F}{v:H}{l:FL}(h:ZG base w v l):v.ownBlock=G∨∃g cur t fz,v.ownBlock=I g∧0<=g∧w.heap[g]?=I (S cur t fz)∧t≠5∧t≠44:=by
 rcases h.row with h|⟨g,cur,t,fz,h1,_,h3⟩;·exact .inl h
 ·exact .inr ⟨g,cur,t,fz,h1,tR _,h3⟩
theorem gN{base:Nat}{w:F}{r:Option Nat}(h:r=G∨∃g cur t fz,r=I g∧base<=g∧w.heap[g]?=I (S cur t fz)∧t≠5∧t≠44):r=G∨∃g cur t fz,r=I g∧base<=g∧w.heap[g]?=I (S cur t fz)∧t≠5:=by
 rcases h with h|⟨g,cur,t,fz,h1,h2,h3,h4,_⟩;·exact .inl h
 ·exact .inr ⟨g,cur,t,fz,h1,h2,h3,h4⟩
theorem ZG.lt{base:Nat}{w:F}{v:H}{l:FL}(h:ZG base w v l):∀k,v.ownBlock=I k->base<=k∧k<w.heap.size:=by
 obtain⟨vs,_,h,_⟩:=h;exact sH h
theorem ZG.grownNone{base:Nat}{w w':F}{v:H}{l:FL}(h:ZG base w v l)(hg:L w w' G):ZG base w' v l:=by
 obtain⟨vs,h1,h2,h3⟩:=h;refine⟨vs,h1,tU h2 hg ?_,fun i hi=>⟨((h3 i hi).1).keptT hg (.inl rfl),((h3 i hi).2).kept hg (.inl rfl)⟩⟩;cases hv:v.ownBlock with|none=>exact .inl rfl|some k=>exact .inr (by simp)
theorem ZG.alloc{base:Nat}{w:F}{v:H}{l:FL}(h:ZG base w v l)(o:Obj):ZG base (w.alloc o) v l:=h.grownNone (sN _ _ _)
theorem ZG.shape{base:Nat}{w:F}{v:H}{l:FL}(h:ZG base w v l):∃a cap,v=J a l.length cap:=by
 obtain⟨vs,_,h,_⟩:=h;rcases h.2with⟨rfl,h0⟩|⟨g,cap,cur,rfl,_⟩;·exact⟨G,0,by rw[h0]⟩
 ·exact⟨_,cap,rfl⟩
theorem ZG.cells{base:Nat}{w:F}{g n cap:Nat}{vs:List (H×H)}{l:FL}(hr:w.ownsRow base 61 2 (J (I ⟨g,0,G⟩) n cap) l.length (flat vs)):∀j u,(flat vs)[j]?=I u->w.cell? ⟨g,j,G⟩=I u:=by
 intro j u hj;rcases hr.2with⟨e,_⟩|⟨g',cap',cur,e,hb,hg,hn,hm,hs,ht⟩;·cases e
 ·simp only[tG,tA,rG]at e;obtain⟨⟨rfl,_⟩,_,_⟩:=e;(have hlt:j<l.length*2:=by have:=(sJ.1 hj).1;rw[hr.1]at this;exact this);(have e2:(cur.toList.take (l.length*2))[j]?=(flat vs)[j]?:=by rw[ht]);rw[sC,if_pos hlt,hj]at e2;simp[tS,hg];simpa using e2
theorem ZG.list{base:Nat}{w:F}{v:H}{l:FL}(h:ZG base w v l):ZC w v l:=by
 obtain⟨vs,hl,hr,h3⟩:=h;have hr':=hr;rcases hr.2with⟨rfl,h0⟩|⟨g,cap,cur,rfl,hb,hg,hn,hm,hs,ht⟩;·have:l=[]:=tJ h0;subst this;exact qS w
 ·refine⟨_,cap,rfl,hn,.inr ⟨g,0,rfl,fun i hi=>?_⟩⟩;have hf:=xR vs i (by omega);refine⟨(vs.getD i (sK,sK)).1,(vs.getD i (sK,sK)).2,?_,?_,(h3 i hi).1.1,(h3 i hi).2.list⟩;(·have:=ZG.cells hr' _ _ hf.1;rw[sO];exact this);·have:=ZG.cells hr' _ _ hf.2;rw[sO];exact this
theorem TW{base:Nat}{w W w1:F}{v:H}{l:FL}(h:L w W G)(ho:ZG base W v l)(hb:w.heap.size<=base)(hg:L W w1 v.ownBlock):L w w1 G:=⟨hg.os.trans h.os,hg.tape.trans h.tape,hg.output.trans h.output,tN h.size hg.size,fun i hi hn=>(hg.block i (tH hi h.size) (fun e=>by
 have:=(ho.lt i e.symm).1;omega)).trans (h.block i hi hn)⟩
theorem F8:(O.info? 61).map (fun i=>(i.zero,i.size,i.bytes))=I (I (sU #[J G 0 0,J G 0 0]),2,48):=by
 kernel_rfl
theorem j8{w:F}{o:rM}{a:Act}{K:Act->F->Prop}{Q:Exit->Act->F->Prop}(s x:rH)(ho:o.op=.call {callee:=.builtin .append,args:=#[s,x],argTypes:=#[28,28]})(base:Nat)(v:H)(l:FL)(hs:a.eval s=v)(hown:ZG base w v l)(vn vp:H)(t:Tn)(hk:Qh 0 w vn t.1)(hv:QN 0 w vp t.2)(nb:Nat)(hb:w.heap[nb]?=I (S #[vn,vp] 61))(hx:a.eval x=J (I ⟨nb,0,G⟩) 1 1)(hl:(l.length+1)*48<=140737488355328)(hbase:base<=w.heap.size)(h:∀v' w',ZG base w' v' (l++[t])->L w w' v.ownBlock->K (a.put o.dst v') w'):o.wp O a w K Q:=by
 obtain⟨i0,hi,hz0,hz1,hz2⟩:=pA F8;have hrow:=hown.row0;obtain⟨vs,hvl,hr,hp⟩:=hown;refine wp_append_lies w s x 28 ho base 61 i0 (sU #[J G 0 0,J G 0 0]) 2 48 Tryz.underlying28 hi hz0 hz1 hz2 rfl (by decide) v l.length (flat vs) hs hr ⟨nb,0,G⟩ 1 1 (flat [(vn,vp)]) hx rfl (rB (cs:=#[vn,vp]) hb) ?_ (by omega) (by unfold rV;omega) hl hbase _ rfl ?_;·intro u hu;simp only[flat,tM,rJ,rO,tK,tQ,or_false]at hu;rcases hu with rfl|rfl;(·exact Zw hk);·exact yF hv
 ·intro g cap w' h1 h2 _ _;refine h _ w' ⟨vs++[(vn,vp)],by simp[hvl],?_,?_⟩ h2;(·rw[JX,tB];exact h1);·intro i hi;rw[Jm,Jm,hvl];by_cases hil:i<l.length;(·rw[if_pos hil,if_pos hil];exact⟨(hp i hil).1.keptT h2 (gN hrow),(hp i hil).2.kept h2 hrow⟩);·rw[if_neg hil,if_neg hil];(obtain rfl:i=l.length:=by simp at hi;omega);rw[oE];exact⟨hk.keptT h2 (gN hrow),hv.kept h2 hrow⟩
theorem FX{w:F}{ops:Array rM}{o:rM}{a:Act}{K:Act->F->Prop}{Q:Exit->Act->F->Prop}{E:Prop}(hgd:o.guard=G)(s x:rH)(ho:o.op=.call {callee:=.builtin .append,args:=#[s,x],argTypes:=#[28,28]})(base:Nat)(v:H)(l:FL)(hs:a.eval s=v)(hown:ZG base w v l)(vn vp:H)(t:Tn)(hk:Qh 0 w vn t.1)(hv:QN 0 w vp t.2)(nb:Nat)(hb:w.heap[nb]?=I (S #[vn,vp] 61))(hx:a.eval x=J (I ⟨nb,0,G⟩) 1 1)(hl:(l.length+1)*48<=140737488355328)(hbase:base<=w.heap.size)(h:∀v' w',ZG base w' v' (l++[t])->L w w' v.ownBlock->K (a.put o.dst v') w'):if sF o (pB ops a.tmps)=M then Oper.wp O o a w K Q else E:=by
 have hw:sF o (pB ops a.tmps)=M:=by simp[sF,hgd]
 rw[if_pos hw];exact j8 s x ho base v l hs hown vn vp t hk hv nb hb hx hl hbase h
theorem uN{w:F}{ops:Array rM}{rest:List rM}{o:rM}{a:Act}{Q:Exit->Act->F->Prop}(hgd:o.guard=G)(s x:rH)(ho:o.op=.call {callee:=.builtin .append,args:=#[s,x],argTypes:=#[28,28]})(base:Nat)(v:H)(l:FL)(hs:a.eval s=v)(hown:ZG base w v l)(vn vp:H)(t:Tn)(hk:Qh 0 w vn t.1)(hv:QN 0 w vp t.2)(nb:Nat)(hb:w.heap[nb]?=I (S #[vn,vp] 61))(hx:a.eval x=J (I ⟨nb,0,G⟩) 1 1)(hl:(l.length+1)*48<=140737488355328)(hbase:base<=w.heap.size)(h:∀v' w',ZG base w' v' (l++[t])->L w w' v.ownBlock->wpList O ops Q rest (a.put o.dst v') w'):wpList O ops Q (o::rest) a w:=wpList_plain hgd fun _ hK=>j8 s x ho base v l hs hown vn vp t hk hv nb hb hx hl hbase fun v' w' h1 h2=>hK _ _ (h v' w' h1 h2)
theorem Qk{w:F}{b i:Nat}{cs:Array H}{t:tX}{fz:Nat×Nat}{u:H}(h:w.heap[b]?=I (S cs t fz)):(tE w ⟨b,i,G⟩ u).heap[b]?=I (S (cs.setIfInBounds i u) t fz):=by
 simp only[tE,tV,if_true,h,rK];rfl
theorem Qy{w:F}{b c i:Nat}{o:Obj}{u:H}(h:w.heap[b]?=I o)(hne:b≠c):(tE w ⟨c,i,G⟩ u).heap[b]?=I o:=by
 simp only[tE,tV];rw[if_neg (fun e=>hne e.symm)];exact h
theorem YL(w:F)(b i:Nat)(u:H):L w (tE w ⟨b,i,G⟩ u) (I b):=Qi (Qb w _) i u
theorem Qh.setOther{base:Nat}{w:F}{v:H}{bs:List UInt8}(h:Qh base w v bs){b i:Nat}{cs:Array H}{t:tX}{fz:Nat×Nat}(hb:w.heap[b]?=I (S cs t fz))(ht:t≠5)(hbb:base<=b)(u:H):Qh base (tE w ⟨b,i,G⟩ u) v bs:=h.keptT (YL w b i u) (.inr ⟨b,cs,t,fz,rfl,hbb,hb,ht⟩)
def Q6(rb pb:Nat)(w:F)(v:H)(l:List Zd):Prop:=∃us:List WV,us.map (·.1)=l∧w.ownsRow rb 71 4 v l.length (Y8 us)∧∀x∈us,Qh pb w x.2.1 x.1.name∧Qh pb w x.2.2.1 x.1.key∧Qh pb w x.2.2.2 x.1.value
theorem Xx(rb pb:Nat)(w:F):Q6 rb pb w (J G 0 0) []:=⟨[],rfl,sM _ _ _ _,fun x hx=>by
 simp at hx⟩
theorem Q6.row{rb pb:Nat}{w:F}{v:H}{l:List Zd}(h:Q6 rb pb w v l):v.ownBlock=G∨∃g cur fz,v.ownBlock=I g∧rb<=g∧w.heap[g]?=I (S cur 71 fz):=by
 obtain⟨us,_,h,_⟩:=h;rcases h.2with⟨rfl,_⟩|⟨g,cap,cur,rfl,hb,hg,_⟩;·exact .inl rfl
 ·exact .inr ⟨g,cur,_,rfl,hb,hg⟩
theorem Q6.lt{rb pb:Nat}{w:F}{v:H}{l:List Zd}(h:Q6 rb pb w v l):∀k,v.ownBlock=I k->rb<=k∧k<w.heap.size:=by
 obtain⟨us,_,h,_⟩:=h;exact sH h
theorem Q6.ne{rb pb:Nat}{w:F}{v:H}{l:List Zd}(h:Q6 rb pb w v l){b:Nat}{cs:Array H}{t:tX}{fz:Nat×Nat}(hb:w.heap[b]?=I (S cs t fz))(ht:t≠71):v.ownBlock≠I b:=by
 intro e;rcases h.row with h0|⟨g,cur,fz2,h1,_,h2⟩;·rw[h0]at e;cases e
 ·rw[h1]at e;cases e;rw[hb]at h2;simp only[tA,tW]at h2;exact ht h2.2.1
theorem Q6.kept{rb pb:Nat}{w w':F}{v:H}{l:List Zd}(h:Q6 rb pb w v l){row:Option Nat}(hg:L w w' row)(hne:v.ownBlock=G∨v.ownBlock≠row)(hrow:row=G∨∃g cur t fz,row=I g∧pb<=g∧w.heap[g]?=I (S cur t fz)∧t≠5):Q6 rb pb w' v l:=by
 obtain⟨us,h1,h2,h3⟩:=h;exact⟨us,h1,tU h2 hg hne,fun x hx=>⟨(h3 x hx).1.keptT hg hrow,(h3 x hx).2.1.keptT hg hrow,(h3 x hx).2.2.keptT hg hrow⟩⟩
theorem Q6.grownNone{rb pb:Nat}{w w':F}{v:H}{l:List Zd}(h:Q6 rb pb w v l)(hg:L w w' G):Q6 rb pb w' v l:=h.kept hg (by
 cases hv:v.ownBlock with|none=>exact .inl rfl|some k=>exact .inr (by simp)) (.inl rfl)
theorem Q6.setOther{rb pb:Nat}{w:F}{v:H}{l:List Zd}(h:Q6 rb pb w v l){b i:Nat}{cs:Array H}{t:tX}{fz:Nat×Nat}(hb:w.heap[b]?=I (S cs t fz))(ht:t≠5)(ht2:t≠71)(hbb:pb<=b)(u:H):Q6 rb pb (tE w ⟨b,i,G⟩ u) v l:=h.kept (YL w b i u) (.inr (h.ne hb ht2)) (.inr ⟨b,cs,t,fz,rfl,hbb,hb,ht⟩)
theorem Q6.shape{rb pb:Nat}{w:F}{v:H}{l:List Zd}(h:Q6 rb pb w v l):∃a cap,v=J a l.length cap:=by
 obtain⟨us,_,h,_⟩:=h;rcases h.2with⟨rfl,h0⟩|⟨g,cap,cur,rfl,_⟩;·exact⟨G,0,by rw[h0]⟩
 ·exact⟨_,cap,rfl⟩
theorem Q6.any{rb pb:Nat}{w:F}{v:H}{l:List Zd}(h:Q6 rb pb w v l):∃a n cap,v=J a n cap:=by
 obtain⟨a,cap,e⟩:=h.shape;exact⟨a,_,cap,e⟩
theorem Q6.down{rb pb:Nat}{w:F}{v:H}{l:List Zd}(h:Q6 rb pb w v l)(rb':Nat)(hb:rb'<=rb):Q6 rb' pb w v l:=by
 obtain⟨us,h1,h2,h3⟩:=h;refine⟨us,h1,⟨h2.1,?_⟩,h3⟩;rcases h2.2with h|⟨g,cap,cur,e,hb2,rest⟩;·exact .inl h
 ·exact .inr ⟨g,cap,cur,e,tN hb hb2,rest⟩
theorem Q6.writesB{rb pb:Nat}{w:F}{v:H}{l:List Zd}(h:Q6 rb pb w v l):Xo pb w v l:=by
 obtain⟨us,hl,hr,h3⟩:=h;rcases hr.2with⟨rfl,h0⟩|⟨g,cap,cur,rfl,hb,hg,hn,hm,hs,ht⟩;·have:l=[]:=tJ h0;rw[this];exact D4 pb w
 ·(have hcell:∀j u,(Y8 us)[j]?=I u->w.cell? ⟨g,j,G⟩=I u:=by intro j u hj;(have hlt:j<l.length*4:=by have:=(sJ.1 hj).1;rw[hr.1]at this;exact this);(have e2:(cur.toList.take (l.length*4))[j]?=(Y8 us)[j]?:=by rw[ht]);rw[sC,if_pos hlt,hj]at e2;simp[tS,hg];simpa using e2);refine⟨_,cap,rfl,hn,.inr ⟨g,0,rfl,.inr ⟨_,_,hg⟩,fun i hi=>?_⟩⟩;obtain⟨e1,e2⟩:=Hr hl i hi;(have hlen:us.length=l.length:=by rw[<-hl];simp);obtain⟨c1,c2,c3,c4⟩:=NY us i (by omega);have hp:=h3 _ e2;rw[e1]at c3 hp;rw[sO];exact⟨_,_,_,hcell _ _ c1,hcell _ _ c2,hcell _ _ c3,hcell _ _ c4,hp.1,hp.2.1,hp.2.2⟩
theorem Q6.list{rb pb:Nat}{w:F}{v:H}{l:List Zd}(h:Q6 rb pb w v l):QR w v l:=h.writesB.list
theorem V4{rb pb:Nat}{w W w1:F}{v:H}{l:List Zd}(h:L w W G)(ho:Q6 rb pb W v l)(hb:w.heap.size<=rb)(hg:L W w1 v.ownBlock):L w w1 G:=⟨hg.os.trans h.os,hg.tape.trans h.tape,hg.output.trans h.output,tN h.size hg.size,fun i hi hn=>(hg.block i (tH hi h.size) (fun e=>by
 have:=(ho.lt i e.symm).1;omega)).trans (h.block i hi hn)⟩
def Rt(w:F)(b o:Nat)(r:Rd):Prop:=∃vn vk vl,w.cell? ⟨b,o,G⟩=I vn∧w.cell? ⟨b,o+1,G⟩=I vk∧w.cell? ⟨b,o+2,G⟩=I (tL r.wide)∧w.cell? ⟨b,o+3,G⟩=I vl∧Qe w vn r.name∧Qe w vk r.key∧Qe w vl r.last
theorem Rt.grown{w w':F}{b o:Nat}{r:Rd}(h:Rt w b o r)(hg:L w w' G):Rt w' b o r:=by
 obtain⟨vn,vk,vl,c1,c2,c3,c4,h1,h2,h3⟩:=h;exact⟨vn,vk,vl,hg.cell c1 (by simp),hg.cell c2 (by simp),hg.cell c3 (by simp),hg.cell c4 (by simp),h1.grown hg,h2.grown hg,h3.grown hg⟩
def Xa(w:F)(v:H)(l:List Rd):Prop:=∃a cap,v=J a l.length cap∧l.length<=cap∧((l=[]∧(a=G->cap=0))∨∃b o,a=I ⟨b,o,G⟩∧∀i,i<l.length->Rt w b (o+i*4) (l.getD i Zg))
theorem C4(w:F):Xa w (J G 0 0) []:=⟨G,0,rfl,tZ _,.inl ⟨rfl,fun _=>rfl⟩⟩
theorem Xa.shape{w:F}{v:H}{l:List Rd}(h:Xa w v l):∃a cap,v=J a l.length cap:=by
 obtain⟨a,cap,rfl,_⟩:=h;exact⟨a,cap,rfl⟩
theorem Xa.grown{w w':F}{v:H}{l:List Rd}(h:Xa w v l)(hg:L w w' G):Xa w' v l:=by
 obtain⟨a,cap,rfl,hc,h⟩:=h;refine⟨a,cap,rfl,hc,?_⟩;rcases h with h|⟨b,o,rfl,h⟩;·exact .inl h
 ·exact .inr ⟨b,o,rfl,fun i hi=>(h i hi).grown hg⟩
theorem Xa.at{w:F}{a:Option sZ}{n cap:Nat}{l:List Rd}(h:Xa w (J a n cap) l)(i:Nat)(hi:i<l.length):∃b o,a=I ⟨b,o,G⟩∧Rt w b (o+i*4) (l.getD i Zg):=by
 obtain⟨a',cap',e,hc,h⟩:=h;simp only[tG]at e;obtain⟨rfl,rfl,rfl⟩:=e;rcases h with⟨rfl,_⟩|⟨b,o,rfl,h⟩;·simp at hi
 ·exact⟨b,o,rfl,h i hi⟩
structure iX (l : List Rd) : Prop where
  many : l.length * 80 <= 140737488355328
  each : ∀ i, i < l.length -> PZ (l.getD i Zg)
structure xK (t : Tx) : Prop where
  start : -9223372036854775808 <= t.start ∧ t.start <= 9223372036854775807
  reads : iX t.reads
  writes : uE t.writes
def GW(w:F)(v:H)(t:Tx):Prop:=∃vr vw,v=sU #[Y tC t.start,vr,vw]∧Xa w vr t.reads∧QR w vw t.writes
theorem GW.grown{w w':F}{v:H}{t:Tx}(h:GW w v t)(hg:L w w' G):GW w' v t:=by
 obtain⟨vr,vw,rfl,h1,h2⟩:=h;exact⟨vr,vw,rfl,h1.grown hg,h2.grown hg⟩
theorem GW.agg{w:F}{v:H}{t:Tx}(h:GW w v t):∃ra rc wa wc,v=sU #[Y tC t.start,J ra t.reads.length rc,J wa t.writes.length wc]:=by
 obtain⟨vr,vw,rfl,h1,h2⟩:=h;obtain⟨ra,rc,rfl⟩:=h1.shape;obtain⟨wa,wc,rfl⟩:=h2.shape;exact⟨ra,rc,wa,wc,rfl⟩
theorem GW.parts{w:F}{t:Tx}{x y z:H}(h:GW w (sU #[x,y,z]) t):x=Y tC t.start∧Xa w y t.reads∧QR w z t.writes:=by
 obtain⟨vr,vw,e,h1,h2⟩:=h;simp only[Value.agg.injEq,Array.mk.injEq,List.cons.injEq,and_true]at e;obtain⟨rfl,rfl,rfl⟩:=e;exact⟨rfl,h1,h2⟩
theorem Px{r:Rd}(h:XE r=0):PZ r:=by
 obtain⟨h1,h2,h3⟩:=(EF r).1 h;refine⟨by omega,by omega,?_⟩;split at h3;·omega
 ·rw[h3];simp
abbrev RV:=Rd×H×H×H
def By:RV:=(Zg,sK,sK,sK)
def Gs(us:List RV):List H:=us.flatMap fun x=>[x.2.1,x.2.2.1,tL x.1.wide,x.2.2.2]
theorem Mc(a b:List RV):Gs (a++b)=Gs a++Gs b:=by
 simp[Gs]
theorem Nj:∀(us:List RV)(i:Nat),i<us.length->(Gs us)[i*4]?=I (us.getD i By).2.1∧(Gs us)[i*4+1]?=I (us.getD i By).2.2.1∧(Gs us)[i*4+2]?=I (tL (us.getD i By).1.wide)∧(Gs us)[i*4+3]?=I (us.getD i By).2.2.2|[],i,h=>by simp at h|x::us,0,_=>⟨rfl,rfl,rfl,rfl⟩|x::us,i+1,h=>by have:=Nj us i (by simpa using h);rw[show(i+1)*4=i*4+4by omega];exact this
theorem gS:(220:Nat)≠5:=by
 decide
theorem iM:(220:Nat)≠71:=by
 decide
def ZP(rb pb:Nat)(w:F)(v:H)(l:List Rd):Prop:=∃us:List RV,us.map (·.1)=l∧w.ownsRow rb 220 4 v l.length (Gs us)∧∀x∈us,Qh pb w x.2.1 x.1.name∧Qh pb w x.2.2.1 x.1.key∧Qh pb w x.2.2.2 x.1.last
theorem Us(rb pb:Nat)(w:F):ZP rb pb w (J G 0 0) []:=⟨[],rfl,sM _ _ _ _,fun x hx=>by
 simp at hx⟩
theorem ZP.row{rb pb:Nat}{w:F}{v:H}{l:List Rd}(h:ZP rb pb w v l):v.ownBlock=G∨∃g cur fz,v.ownBlock=I g∧rb<=g∧w.heap[g]?=I (S cur 220 fz):=by
 obtain⟨us,_,h,_⟩:=h;rcases h.2with⟨rfl,_⟩|⟨g,cap,cur,rfl,hb,hg,_⟩;·exact .inl rfl
 ·exact .inr ⟨g,cur,_,rfl,hb,hg⟩
theorem ZP.lt{rb pb:Nat}{w:F}{v:H}{l:List Rd}(h:ZP rb pb w v l):∀k,v.ownBlock=I k->rb<=k∧k<w.heap.size:=by
 obtain⟨us,_,h,_⟩:=h;exact sH h
theorem ZP.ne{rb pb:Nat}{w:F}{v:H}{l:List Rd}(h:ZP rb pb w v l){b:Nat}{cs:Array H}{t:tX}{fz:Nat×Nat}(hb:w.heap[b]?=I (S cs t fz))(ht:t≠220):v.ownBlock≠I b:=by
 intro e;rcases h.row with h0|⟨g,cur,fz2,h1,_,h2⟩;·rw[h0]at e;cases e
 ·rw[h1]at e;cases e;rw[hb]at h2;simp only[tA,tW]at h2;exact ht h2.2.1
theorem ZP.kept{rb pb:Nat}{w w':F}{v:H}{l:List Rd}(h:ZP rb pb w v l){row:Option Nat}(hg:L w w' row)(hne:v.ownBlock=G∨v.ownBlock≠row)(hrow:row=G∨∃g cur t fz,row=I g∧pb<=g∧w.heap[g]?=I (S cur t fz)∧t≠5):ZP rb pb w' v l:=by
 obtain⟨us,h1,h2,h3⟩:=h;exact⟨us,h1,tU h2 hg hne,fun x hx=>⟨(h3 x hx).1.keptT hg hrow,(h3 x hx).2.1.keptT hg hrow,(h3 x hx).2.2.keptT hg hrow⟩⟩
theorem ZP.grownNone{rb pb:Nat}{w w':F}{v:H}{l:List Rd}(h:ZP rb pb w v l)(hg:L w w' G):ZP rb pb w' v l:=h.kept hg (by
 cases hv:v.ownBlock with|none=>exact .inl rfl|some k=>exact .inr (by simp)) (.inl rfl)
theorem ZP.setOther{rb pb:Nat}{w:F}{v:H}{l:List Rd}(h:ZP rb pb w v l){b i:Nat}{cs:Array H}{t:tX}{fz:Nat×Nat}(hb:w.heap[b]?=I (S cs t fz))(ht:t≠5)(ht2:t≠220)(hbb:pb<=b)(u:H):ZP rb pb (tE w ⟨b,i,G⟩ u) v l:=h.kept (YL w b i u) (.inr (h.ne hb ht2)) (.inr ⟨b,cs,t,fz,rfl,hbb,hb,ht⟩)
theorem ZP.down{rb pb:Nat}{w:F}{v:H}{l:List Rd}(h:ZP rb pb w v l)(rb':Nat)(hb:rb'<=rb):ZP rb' pb w v l:=by
 obtain⟨us,h1,h2,h3⟩:=h;refine⟨us,h1,⟨h2.1,?_⟩,h3⟩;rcases h2.2with h|⟨g,cap,cur,e,hb2,rest⟩;·exact .inl h
 ·exact .inr ⟨g,cap,cur,e,tN hb hb2,rest⟩
theorem ZP.shape{rb pb:Nat}{w:F}{v:H}{l:List Rd}(h:ZP rb pb w v l):∃a cap,v=J a l.length cap:=by
 obtain⟨us,_,h,_⟩:=h;rcases h.2with⟨rfl,h0⟩|⟨g,cap,cur,rfl,_⟩;·exact⟨G,0,by rw[h0]⟩
 ·exact⟨_,cap,rfl⟩
theorem WS{us:List RV}{l:List Rd}(h:us.map (·.1)=l)(i:Nat)(hi:i<l.length):(us.getD i By).1=l.getD i Zg∧us.getD i By∈us:=by
 subst h;have hi':i<us.length:=by simpa using hi
 refine⟨by simp[hi'],?_⟩;rw[show us.getD i By=us[i]by simp[hi']];exact sP hi'
theorem ZP.list{rb pb:Nat}{w:F}{v:H}{l:List Rd}(h:ZP rb pb w v l):Xa w v l:=by
 obtain⟨us,hl,hr,h3⟩:=h;rcases hr.2with⟨rfl,h0⟩|⟨g,cap,cur,rfl,hb,hg,hn,hm,hs,ht⟩;·have:l=[]:=tJ h0;rw[this];exact C4 w
 ·(have hcell:∀j u,(Gs us)[j]?=I u->w.cell? ⟨g,j,G⟩=I u:=by intro j u hj;(have hlt:j<l.length*4:=by have:=(sJ.1 hj).1;rw[hr.1]at this;exact this);(have e2:(cur.toList.take (l.length*4))[j]?=(Gs us)[j]?:=by rw[ht]);rw[sC,if_pos hlt,hj]at e2;simp[tS,hg];simpa using e2);refine⟨_,cap,rfl,hn,.inr ⟨g,0,rfl,fun i hi=>?_⟩⟩;obtain⟨e1,e2⟩:=WS hl i hi;(have hlen:us.length=l.length:=by rw[<-hl];simp);obtain⟨c1,c2,c3,c4⟩:=Nj us i (by omega);have hp:=h3 _ e2;rw[e1]at c3 hp;rw[sO];exact⟨_,_,_,hcell _ _ c1,hcell _ _ c2,hcell _ _ c3,hcell _ _ c4,hp.1.1,hp.2.1.1,hp.2.2.1⟩
theorem TN{rb pb:Nat}{w W w1:F}{v:H}{l:List Rd}(h:L w W G)(ho:ZP rb pb W v l)(hb:w.heap.size<=rb)(hg:L W w1 v.ownBlock):L w w1 G:=⟨hg.os.trans h.os,hg.tape.trans h.tape,hg.output.trans h.output,tN h.size hg.size,fun i hi hn=>(hg.block i (tH hi h.size) (fun e=>by
 have:=(ho.lt i e.symm).1;omega)).trans (h.block i hi hn)⟩
theorem gP:(O.info? 220).map (fun i=>(i.zero,i.size,i.bytes))=I (I (sU #[J G 0 0,J G 0 0,tL N,J G 0 0]),4,80):=by
 kernel_rfl
def GP(w:F)(v:H)(t:Tx):Prop:=∃vr vw,v=sU #[Y tC t.start,vr,vw]∧ZP 0 0 w vr t.reads∧Q6 0 0 w vw t.writes
theorem GP.is{w:F}{v:H}{t:Tx}(h:GP w v t):GW w v t:=by
 obtain⟨vr,vw,rfl,h1,h2⟩:=h;exact⟨vr,vw,rfl,h1.list,h2.list⟩
theorem xI(w:F):GP w (sU #[Y tC 0,J G 0 0,J G 0 0]) FH:=⟨_,_,rfl,Us 0 0 w,Xx 0 0 w⟩
def M2(w:F)(b o:Nat)(s:kY):Prop:=∃vo,w.cell? ⟨b,o,G⟩=I (Y tC s.bit)∧w.cell? ⟨b,o+1,G⟩=I (tL s.right)∧w.cell? ⟨b,o+2,G⟩=I vo∧Qe w vo s.other
theorem M2.grown{w w':F}{b o:Nat}{s:kY}(h:M2 w b o s)(hg:L w w' G):M2 w' b o s:=by
 obtain⟨vo,c1,c2,c3,h1⟩:=h;exact⟨vo,hg.cell c1 (by simp),hg.cell c2 (by simp),hg.cell c3 (by simp),h1.grown hg⟩
def Gm(w:F)(v:H)(l:List kY):Prop:=∃a cap,v=J a l.length cap∧l.length<=cap∧((l=[]∧(a=G->cap=0))∨∃b o,a=I ⟨b,o,G⟩∧∀i,i<l.length->M2 w b (o+i*3) (l.getD i Lb))
theorem CS(w:F):Gm w (J G 0 0) []:=⟨G,0,rfl,tZ _,.inl ⟨rfl,fun _=>rfl⟩⟩
theorem Gm.grown{w w':F}{v:H}{l:List kY}(h:Gm w v l)(hg:L w w' G):Gm w' v l:=by
 obtain⟨a,cap,rfl,hc,h⟩:=h;refine⟨a,cap,rfl,hc,?_⟩;rcases h with h|⟨b,o,rfl,h⟩;·exact .inl h
 ·exact .inr ⟨b,o,rfl,fun i hi=>(h i hi).grown hg⟩
theorem Gm.shape{w:F}{v:H}{l:List kY}(h:Gm w v l):∃a cap,v=J a l.length cap:=by
 obtain⟨a,cap,rfl,_⟩:=h;exact⟨a,cap,rfl⟩
def KJ(w:F)(v:H)(p:D7):Prop:=∃vs vk vv,v=sU #[tL p.empty,vs,vk,vv]∧Gm w vs p.steps∧Qe w vk p.pair.1∧Qe w vv p.pair.2
theorem KJ.grown{w w':F}{v:H}{p:D7}(h:KJ w v p)(hg:L w w' G):KJ w' v p:=by
 obtain⟨vs,vk,vv,rfl,h0,h1,h2⟩:=h;exact⟨vs,vk,vv,rfl,h0.grown hg,h1.grown hg,h2.grown hg⟩
theorem UD{w:F}{b:Nat}{x y:H}{t:tX}(h:w.heap[b]?=I (S #[x,y] t)):w.cell? ⟨b,0,G⟩=I x∧w.cell? ⟨b,1,G⟩=I y∧w.frozen? ⟨b,0,G⟩=N∧w.frozen? ⟨b,1,G⟩=N:=by
 refine⟨?_,?_,?_,?_⟩<;>simp[tS,rW,h]
theorem bU{w:F}{b:Nat}{x y:H}{t:tX}(h:w.heap[b]?=I (S #[x,y] t))(u v:H):((tE w ⟨b,0,G⟩ u).setCell ⟨b,1,G⟩ v).heap[b]?=I (S #[u,v] t):=by
 have h0:(tE w ⟨b,0,G⟩ u).heap[b]?=I (S #[u,y] t):=by simp only[tE,tV,if_true,h,rK];first|rfl|simp
 rw[tE,tV,if_pos rfl,h0];first|rfl|simp
theorem Gi{w:F}{b:Nat}{x y z:H}{t:tX}(h:w.heap[b]?=I (S #[x,y,z] t)):(w.cell? ⟨b,0,G⟩=I x∧w.cell? ⟨b,1,G⟩=I y∧w.cell? ⟨b,2,G⟩=I z)∧w.frozen? ⟨b,0,G⟩=N∧w.frozen? ⟨b,1,G⟩=N∧w.frozen? ⟨b,2,G⟩=N:=by
 refine⟨⟨?_,?_,?_⟩,?_,?_,?_⟩<;>simp[tS,rW,h]
theorem E7{w:F}{b:Nat}{x y z:H}{t:tX}(h:w.heap[b]?=I (S #[x,y,z] t))(x' y' z':H):(((tE w ⟨b,0,G⟩ x').setCell ⟨b,1,G⟩ y').setCell ⟨b,2,G⟩ z').heap[b]?=I (S #[x',y',z'] t):=by
 have h0:(tE w ⟨b,0,G⟩ x').heap[b]?=I (S #[x',y,z] t):=by simp only[tE,tV,if_true,h,rK];first|rfl|simp
 have h1:((tE w ⟨b,0,G⟩ x').setCell ⟨b,1,G⟩ y').heap[b]?=I (S #[x',y',z] t):=by rw[tE,tV,if_pos rfl,h0];first|rfl|simp
 rw[tE,tV,if_pos rfl,h1];first|rfl|simp
theorem Fg{w w1:F}(h:L w w1 G)(b:Nat)(hb:w.heap.size<=b)(x y z:H):L w (((tE w1 ⟨b,0,G⟩ x).setCell ⟨b,1,G⟩ y).setCell ⟨b,2,G⟩ z) G:=Qc (Qc (Qc h _ hb _ _) _ hb _ _) _ hb _ _
def gH(w:F)(b:Nat):Prop:=∃cur t fz,w.heap[b]?=I (S cur t fz)∧(t=5∨∃q,cur[0]?=I (Y r7 q))
def jL(w:F)(b:Nat):Prop:=∃cur t fz,w.heap[b]?=I (S cur t fz)∧t≠5∧∀q,cur[0]?≠I (Y r7 q)
theorem gH.ne{w:F}{a b:Nat}(h:gH w a)(h':jL w b):a≠b:=by
 rintro rfl;obtain⟨cur,t,fz,h1,h2⟩:=h;obtain⟨cur',t',fz',h3,h4,h5⟩:=h';rw[h1]at h3;simp only[tA,tW]at h3;obtain⟨rfl,rfl,_⟩:=h3;rcases h2 with h2|⟨q,h2⟩;·exact h4 h2
 ·exact h5 q h2
theorem jL.grown{w w':F}{b:Nat}(h:jL w b)(hg:L w w' G):jL w' b:=by
 obtain⟨cur,t,fz,h1,h2⟩:=h;exact⟨cur,t,fz,by rw[hg.block b (tI.1 h1).1 (by simp)];exact h1,h2⟩
theorem jL.set{w:F}{c:Nat}(h:jL w c)(i:Nat)(u:H)(hu:∀q,u≠Y r7 q):jL (tE w ⟨c,i,G⟩ u) c:=by
 obtain⟨cur,t,fz,h1,h2,h3⟩:=h;refine⟨cur.setIfInBounds i u,t,fz,?_,h2,fun q hq=>?_⟩;·simp only[tE,tV,if_true,h1,rK];first|rfl|simp
 ·rw[Array.getElem?_setIfInBounds]at hq;split at hq;(·split at hq;(·simp at hq;exact hu q hq);·cases hq);·exact h3 q hq
theorem M7{w:F}{c:Nat}{x:H}{xs:List H}{t:tX}{fz:Nat×Nat}(h:w.heap[c]?=I (S ⟨x::xs⟩ t fz))(ht:t≠5)(hx:∀q,x≠Y r7 q):jL w c:=⟨_,t,fz,h,ht,fun q hq=>by
 simp at hq;exact hx q hq⟩
def XY(w:F)(v:H)(bs:List UInt8):Prop:=Qe w v bs∧(bs=[]∨∃b,v.ownBlock=I b∧b<w.heap.size∧gH w b)
theorem iD:(144:Nat)≠5:=by
 decide
theorem UB(w:F):XY w (J G 0 0) []:=⟨Qw _,.inl rfl⟩
theorem Q9.partS{base':Nat}{w:F}{v:H}{bs:List UInt8}(h:Q9 base' w v bs):XY w v bs:=by
 refine⟨h.slice,?_⟩;rcases h.2with⟨rfl,h0⟩|⟨g,cap,cur,rfl,hb,hg,_⟩;·exact .inl (tJ h0)
 ·exact .inr ⟨g,rfl,(tI.1 hg).1,cur,_,_,hg,.inl rfl⟩
theorem ZL.partS{w:F}{nb:Nat}{bs:List UInt8}(h:ZL w nb bs)(hl:bs.length=32):XY w (J (I ⟨nb,0,G⟩) 32 32) bs:=by
 refine⟨h.slice32 hl,.inr ⟨nb,rfl,VF (h.cell 0 (by omega)),?_⟩⟩;have hc:=h.cell 0 (by omega);obtain⟨t,hb⟩:=h;refine⟨_,t,_,hb,.inr ⟨((bs.getD 0 0).toNat:Int),?_⟩⟩;·simpa[tS,hb]using hc
theorem Ey{w:F}{v:H}{bs:List UInt8}(h:XY w v bs):v.oneCell'=M:=by
 obtain⟨⟨a,cap,rfl,_⟩,_⟩:=h;rfl
def iR(w:F)(row:Option Nat):Prop:=row=G∨∃g,row=I g∧jL w g
theorem XY.kept{w w':F}{v:H}{bs:List UInt8}(h:XY w v bs){row:Option Nat}(hg:L w w' row)(hrow:iR w row):XY w' v bs:=by
 obtain⟨hs,ho⟩:=h;rcases ho with rfl|⟨b,hb,hlt,hc⟩;·obtain⟨a,cap,rfl,hc,h⟩:=hs;refine⟨⟨a,cap,rfl,hc,?_⟩,.inl rfl⟩;rcases h with h|⟨b,o,rfl,h⟩;(·exact .inl h);·exact .inr ⟨b,o,rfl,fun i hi=>by simp at hi⟩
 ·(have hne:I b≠row:=by intro e;rcases hrow with rfl|⟨g,rfl,hg'⟩;(·cases e);·cases e;exact hc.ne hg' rfl);have hblk:=hg.block b hlt hne;refine⟨?_,.inr ⟨b,hb,tH hlt hg.size,?_⟩⟩;(·obtain⟨a,cap,rfl,hcp,h⟩:=hs;refine⟨a,cap,rfl,hcp,?_⟩;rcases h with h|⟨b',o,rfl,h⟩;(·exact .inl h);·refine .inr ⟨b',o,rfl,fun i hi=>?_⟩;simp[pG]at hb;subst hb;exact hg.cell (h i hi) (by simpa using hne));·obtain⟨cur,t,fz,hc,hc2⟩:=hc;exact⟨cur,t,fz,by rw[hblk];exact hc,hc2⟩
theorem XY.grown{w w':F}{v:H}{bs:List UInt8}(h:XY w v bs)(hg:L w w' G):XY w' v bs:=h.kept hg (.inl rfl)
theorem XY.set{w:F}{v:H}{bs:List UInt8}(h:XY w v bs){c:Nat}(hc:jL w c)(i:Nat)(u:H):XY (tE w ⟨c,i,G⟩ u) v bs:=h.kept (Qi (Qb _ (I c)) i u) (.inr ⟨c,rfl,hc⟩)
abbrev SV:=kY×H
def Ho:SV:=(Lb,sK)
def Uq(us:List SV):List H:=us.flatMap fun x=>[Y tC x.1.bit,tL x.1.right,x.2]
theorem Da(a b:List SV):Uq (a++b)=Uq a++Uq b:=by
 simp[Uq]
theorem N8:∀(us:List SV)(i:Nat),i<us.length->(Uq us)[i*3]?=I (Y tC (us.getD i Ho).1.bit)∧(Uq us)[i*3+1]?=I (tL (us.getD i Ho).1.right)∧(Uq us)[i*3+2]?=I (us.getD i Ho).2|[],i,h=>by simp at h|x::r,0,_=>by simp[Uq]|x::r,i+1,h=>by have:=N8 r i (by simpa using h);rw[show(i+1)*3=i*3+3by omega,show i*3+3+1=(i*3+1)+3by omega,show i*3+3+2=(i*3+2)+3by omega];simpa[Uq]using this
theorem Hx(us:List SV):∀u∈Uq us,(∀x∈us,x.2.oneCell'=M)->u.oneCell'=M:=by
 intro u hu h;obtain⟨x,hx,hu⟩:=List.mem_flatMap.1 hu;simp only[tK,tQ,or_false]at hu;rcases hu with rfl|rfl|rfl;·rfl
 ·rfl
 ·exact h x hx
def JP(base:Nat)(w:F)(v:H)(l:List kY):Prop:=∃us:List SV,us.map (·.1)=l∧w.ownsRow base 144 3 v l.length (Uq us)∧(∀x∈us,XY w x.2 x.1.other)∧(l=[]->v=J G 0 0)
theorem uS(base:Nat)(w:F):JP base w (J G 0 0) []:=⟨[],rfl,sM _ _ _ _,fun x hx=>by
 simp at hx,fun _=>rfl⟩
theorem JP.row{base:Nat}{w:F}{v:H}{l:List kY}(h:JP base w v l):iR w v.ownBlock:=by
 obtain⟨us,hm,h,_,h0⟩:=h;cases l with|nil=>rw[h0 rfl];exact .inl rfl|cons x r=>rcases h.2with⟨rfl,_⟩|⟨g,cap,cur,rfl,hb,hg,hn,_,_,ht⟩;(·exact .inl rfl);·refine .inr ⟨g,rfl,cur,_,_,hg,iD,fun q=>?_⟩;cases us with|nil=>simp at hm|cons u us=>simp only[List.map_cons,List.cons.injEq]at hm;(have e:(cur.toList.take ((x::r).length*3))[0]?=(Uq (u::us))[0]?:=by rw[ht]);rw[sC,if_pos (by simp)]at e;rw[<-r8,e];simp[Uq]
theorem JP.lt{base:Nat}{w:F}{v:H}{l:List kY}(h:JP base w v l):∀k,v.ownBlock=I k->base<=k∧k<w.heap.size:=by
 obtain⟨us,_,h,_⟩:=h;exact sH h
theorem JP.grownNone{base:Nat}{w w':F}{v:H}{l:List kY}(h:JP base w v l)(hg:L w w' G):JP base w' v l:=by
 obtain⟨us,h1,h2,h3,h4⟩:=h;refine⟨us,h1,tU h2 hg ?_,fun x hx=>(h3 x hx).grown hg,h4⟩;cases hv:v.ownBlock with|none=>exact .inl rfl|some k=>exact .inr (by simp)
theorem JP.alloc{base:Nat}{w:F}{v:H}{l:List kY}(h:JP base w v l)(o:Obj):JP base (w.alloc o) v l:=h.grownNone (sN _ _ _)
theorem JP.shape{base:Nat}{w:F}{v:H}{l:List kY}(h:JP base w v l):∃a cap,v=J a l.length cap:=by
 obtain⟨us,_,h,_⟩:=h;rcases h.2with⟨rfl,h0⟩|⟨g,cap,cur,rfl,_⟩;·exact⟨G,0,by rw[h0]⟩
 ·exact⟨_,cap,rfl⟩
theorem JP.cells{base:Nat}{w:F}{g n cap:Nat}{us:List SV}{k:Nat}(hr:w.ownsRow base 144 3 (J (I ⟨g,0,G⟩) n cap) k (Uq us)):∀j u,(Uq us)[j]?=I u->w.cell? ⟨g,j,G⟩=I u:=by
 intro j u hj;rcases hr.2with⟨e,_⟩|⟨g',cap',cur,e,hb,hg,hn,hm,hs,ht⟩;·cases e
 ·simp only[tG,tA,rG]at e;obtain⟨⟨rfl,_⟩,_,_⟩:=e;(have hlt:j<k*3:=by have:=(sJ.1 hj).1;rw[hr.1]at this;exact this);(have e2:(cur.toList.take (k*3))[j]?=(Uq us)[j]?:=by rw[ht]);rw[sC,if_pos hlt,hj]at e2;simp[tS,hg];simpa using e2
theorem OZ{us:List SV}{l:List kY}(h:us.map (·.1)=l)(i:Nat)(hi:i<l.length):(us.getD i Ho).1=l.getD i Lb∧us.getD i Ho∈us:=by
 subst h;have hi':i<us.length:=by simpa using hi
 constructor;·simp[hi']
 ·rw[show us.getD i Ho=us[i]by simp[hi']];exact sP _
theorem JP.list{base:Nat}{w:F}{v:H}{l:List kY}(h:JP base w v l):Gm w v l:=by
 obtain⟨us,hl,hr,h3,_⟩:=h;have hul:us.length=l.length:=by rw[<-hl];simp
 rcases hr.2with⟨rfl,h0⟩|⟨g,cap,cur,rfl,hb,hg,hn,hm,hs,ht⟩;·have:l=[]:=tJ h0;subst this;exact CS w
 ·refine⟨_,cap,rfl,hn,.inr ⟨g,0,rfl,fun i hi=>?_⟩⟩;obtain⟨e1,e2⟩:=OZ hl i hi;obtain⟨c1,c2,c3⟩:=N8 us i (by omega);have hp:=h3 _ e2;rw[e1]at c1 c2 hp;rw[sO];exact⟨_,JP.cells hr _ _ c1,JP.cells hr _ _ c2,JP.cells hr _ _ c3,hp.1⟩
theorem JP.set{base:Nat}{w:F}{v:H}{l:List kY}(h:JP base w v l){c:Nat}(hc:jL w c)(hne:c<base)(i:Nat)(u:H):JP base (tE w ⟨c,i,G⟩ u) v l:=by
 have hlt:=h.lt;obtain⟨us,h1,h2,h3,h4⟩:=h;refine⟨us,h1,tU h2 (Qi (Qb _ (I c)) i u) ?_,fun x hx=>(h3 x hx).set hc i u,h4⟩;cases hv:v.ownBlock with|none=>exact .inl rfl|some k=>exact .inr (by have:=(hlt k hv).1;simp;omega)
theorem fY:(46:Nat)≠5:=by
 decide
theorem iW:(44:Nat)≠5:=by
 decide
theorem VA{W:F}{pb:Nat}{x y:H}(h:W.heap[pb]?=I (S #[x,y] 44))(hx:∀q,x≠Y r7 q)(ua va:Option sZ)(un uc vn vc:Nat){z:H}{bs:List UInt8}(hz:XY W z bs):XY ((tE W ⟨pb,0,G⟩ (J ua un uc)).setCell ⟨pb,1,G⟩ (J va vn vc)) z bs:=have h0:jL W pb:=M7 (xs:=[y]) h iW hx;have h1:=h0.set 0 (J ua un uc) (fun q=>by
 simp);(hz.set h0 0 _).set h1 1 _
theorem XY.quad{w:F}{v:H}{bs:List UInt8}(h:XY w v bs){c:Nat}(hc:jL w c){e:Bool}{sa:Option sZ}{sn sc:Nat}{ka va:Option sZ}{kn kc vn vc:Nat}:XY ((((tE w ⟨c,0,G⟩ (tL e)).setCell ⟨c,1,G⟩ (J sa sn sc)).setCell ⟨c,2,G⟩ (J ka kn kc)).setCell ⟨c,3,G⟩ (J va vn vc)) v bs:=have h1:=hc.set 0 (tL e) (fun q=>by
 simp);have h2:=h1.set 1 (J sa sn sc) (fun q=>by
 simp);have h3:=h2.set 2 (J ka kn kc) (fun q=>by
 simp);(((h.set hc 0 _).set h1 1 _).set h2 2 _).set h3 3 _
theorem JP.quad{base:Nat}{w:F}{v:H}{l:List kY}(h:JP base w v l){c:Nat}(hc:jL w c)(hne:c<base){e:Bool}{sa:Option sZ}{sn sc:Nat}{ka va:Option sZ}{kn kc vn vc:Nat}:JP base ((((tE w ⟨c,0,G⟩ (tL e)).setCell ⟨c,1,G⟩ (J sa sn sc)).setCell ⟨c,2,G⟩ (J ka kn kc)).setCell ⟨c,3,G⟩ (J va vn vc)) v l:=have h1:=hc.set 0 (tL e) (fun q=>by
 simp);have h2:=h1.set 1 (J sa sn sc) (fun q=>by
 simp);have h3:=h2.set 2 (J ka kn kc) (fun q=>by
 simp);(((h.set hc hne 0 _).set h1 hne 1 _).set h2 hne 2 _).set h3 hne 3 _
def ZA(n:Nat)(w:F)(v:H)(p:D7):Prop:=∃base vs vk vv,v=sU #[tL p.empty,vs,vk,vv]∧n<=base∧base<=w.heap.size∧JP base w vs p.steps∧XY w vk p.pair.1∧XY w vv p.pair.2
theorem ZA.is{n:Nat}{w:F}{v:H}{p:D7}(h:ZA n w v p):KJ w v p:=by
 obtain⟨base,vs,vk,vv,rfl,_,_,h1,h2,h3⟩:=h;exact⟨vs,vk,vv,rfl,h1.list,h2.1,h3.1⟩
theorem A6{base:Nat}{w W w1:F}{v:H}{l:List kY}(h:L w W G)(ho:JP base W v l)(hb:w.heap.size<=base)(hg:L W w1 v.ownBlock):L w w1 G:=⟨hg.os.trans h.os,hg.tape.trans h.tape,hg.output.trans h.output,tN h.size hg.size,fun i hi hn=>(hg.block i (tH hi h.size) (fun e=>by
 have:=(ho.lt i e.symm).1;omega)).trans (h.block i hi hn)⟩
theorem Ol:(O.info? 144).map (fun i=>(i.zero,i.size,i.bytes))=I (I (sU #[Y tC 0,tL N,J G 0 0]),3,40):=by
 kernel_rfl
theorem Rs{w:F}{o:rM}{a:Act}{K:Act->F->Prop}{Q:Exit->Act->F->Prop}(s x:rH)(ho:o.op=.call {callee:=.builtin .append,args:=#[s,x],argTypes:=#[42,42]})(base:Nat)(v:H)(l:List kY)(hs:a.eval s=v)(hown:JP base w v l)(vo:H)(p:kY)(hk:XY w vo p.other)(nb:Nat)(hb:∀j u,[Y tC p.bit,tL p.right,vo][j]?=I u->w.cell? ⟨nb,j,G⟩=I u)(hx:a.eval x=J (I ⟨nb,0,G⟩) 1 1)(hl:(l.length+1)*40<=140737488355328)(hbase:base<=w.heap.size)(h:∀v' w',JP base w' v' (l++[p])->L w w' v.ownBlock->K (a.put o.dst v') w'):o.wp O a w K Q:=by
 obtain⟨i0,hi,hz0,hz1,hz2⟩:=pA Ol;have hrow:=hown.row;obtain⟨us,hul,hr,hp,_⟩:=hown;refine wp_append_own w s x 42 ho base 144 i0 (sU #[Y tC 0,tL N,J G 0 0]) 3 40 Tryz.underlying42 hi hz0 hz1 hz2 rfl (by decide) v l.length (Uq us) hs hr ⟨nb,0,G⟩ 1 1 (Uq [(p,vo)]) hx rfl ?_ ?_ (by unfold rV;omega) hl hbase ?_;·intro j u hj;rw[ZM,sO];exact hb j u (by simpa[Uq]using hj)
 ·intro u hu;exact Hx _ u hu fun y hy=>by simp at hy;subst hy;exact Ey hk
 ·intro v' w' h1 h2 _;refine h _ w' ⟨us++[(p,vo)],by simp[hul],?_,?_,fun e=>by simp at e⟩ h2;(·rw[Da,tB];exact h1);·intro y hy;rcases sA.1 hy with hy|hy;(·exact(hp y hy).kept h2 hrow);·simp at hy;subst hy;exact hk.kept h2 hrow
theorem kO{w:F}{ops:Array rM}{rest:List rM}{o:rM}{a:Act}{Q:Exit->Act->F->Prop}(hgd:o.guard=G)(s x:rH)(ho:o.op=.call {callee:=.builtin .append,args:=#[s,x],argTypes:=#[42,42]})(base:Nat)(v:H)(l:List kY)(hs:a.eval s=v)(hown:JP base w v l)(vo:H)(p:kY)(hk:XY w vo p.other)(nb:Nat)(hb:∀j u,[Y tC p.bit,tL p.right,vo][j]?=I u->w.cell? ⟨nb,j,G⟩=I u)(hx:a.eval x=J (I ⟨nb,0,G⟩) 1 1)(hl:(l.length+1)*40<=140737488355328)(hbase:base<=w.heap.size)(h:∀v' w',JP base w' v' (l++[p])->L w w' v.ownBlock->wpList O ops Q rest (a.put o.dst v') w'):wpList O ops Q (o::rest) a w:=wpList_plain hgd fun _ hK=>Rs s x ho base v l hs hown vo p hk nb hb hx hl hbase fun v' w' h1 h2=>hK _ _ (h v' w' h1 h2)
theorem Wb{w:F}{nb:Nat}{p:kY}{vo:H}{t:tX}(h:w.heap[nb]?=I (S #[Y tC p.bit,tL p.right,vo] t)):∀j u,[Y tC p.bit,tL p.right,vo][j]?=I u->w.cell? ⟨nb,j,G⟩=I u:=by
 intro j u hj;simp[tS,h];simpa using hj
def fH:H->Nat|J _ n _=>n|_=>0
def Pm(t:tX):Prop:=t=112∨t=48∨t=210∨t=28∨t=3
def Lc(B:Nat)(w:F)(i:Nat):Prop:=i<B∨∀cs t fz,w.heap[i]?=I (S cs t fz)->(¬Pm t∨∃q,cs[0]?=I (Y r7 q))
structure Kp (B : Nat) (w w' : F) : Prop where
  os : w'.os = w.os
  tape : w'.tape = w.tape
  output : w'.output = w.output
  size : w.heap.size <= w'.heap.size
  keep : ∀ i, i < w.heap.size -> Lc B w i -> w'.heap[i]? = w.heap[i]?
theorem Kp.refl(B:Nat)(w:F):Kp B w w:=⟨rfl,rfl,rfl,tZ _,fun _ _ _=>rfl⟩
theorem Lc.same{B:Nat}{w w':F}{i:Nat}(h:Lc B w i)(e:w'.heap[i]?=w.heap[i]?):Lc B w' i:=by
 rcases h with h|h;·exact .inl h
 ·exact .inr fun cs t fz hc=>h cs t fz (by rw[<-e];exact hc)
theorem Kp.trans{B:Nat}{w w1 w2:F}(h:Kp B w w1)(k:Kp B w1 w2):Kp B w w2:=⟨k.os.trans h.os,k.tape.trans h.tape,k.output.trans h.output,tN h.size k.size,fun i hi hs=>by
 have e:=h.keep i hi hs;exact(k.keep i (tH hi h.size) (hs.same e)).trans e⟩
theorem Kp.grown{B:Nat}{w w':F}(h:L w w' G):Kp B w w':=⟨h.os,h.tape,h.output,h.size,fun i hi _=>h.block i hi (by
 simp)⟩
theorem Kp.turn{B:Nat}{w w':F}{g:Nat}{cs:Array H}{t:tX}{fz:Nat×Nat}(h:L w w' (I g))(hB:B<=g)(hb:w.heap[g]?=I (S cs t fz))(ht:Pm t)(h0:∀q,cs[0]?≠I (Y r7 q)):Kp B w w':=⟨h.os,h.tape,h.output,h.size,fun i hi hs=>by
 refine h.block i hi fun e=>?_;cases e;rcases hs with hs|hs;·omega
 ·rcases hs cs t fz hb with h1|⟨q,h1⟩;(·exact h1 ht);·exact h0 q h1⟩
theorem Kp.low{B:Nat}{w w':F}(h:Kp B w w')(w0:F)(hg:L w0 w G)(hB:w0.heap.size<=B):L w0 w' G:=⟨h.os.trans hg.os,h.tape.trans hg.tape,h.output.trans hg.output,tN hg.size h.size,fun i hi hn=>(h.keep i (tH hi hg.size) (.inl (by
 omega))).trans (hg.block i hi hn)⟩
def Vf(t:tX):Prop:=t=5∨t=44∨t=61∨t=71∨t=220∨t=144
def zS(t:tX):Prop:=¬Vf t
theorem Pm.two{t:tX}(h:Pm t):zS t:=by
 rcases h with rfl|rfl|rfl|rfl|rfl<;>simp[zS,Vf]
def MU(B:Nat)(w:F)(i:Nat):Prop:=i<B∨∀cs t fz,w.heap[i]?=I (S cs t fz)->(¬zS t∨∃q,cs[0]?=I (Y r7 q))
structure Bx (B : Nat) (w w' : F) : Prop where
  os : w'.os = w.os
  tape : w'.tape = w.tape
  output : w'.output = w.output
  size : w.heap.size <= w'.heap.size
  keep : ∀ i, i < w.heap.size -> MU B w i -> w'.heap[i]? = w.heap[i]?
theorem Kp.two{B C:Nat}{w w':F}(h:Kp B w w')(hC:C<=B):Bx C w w':=⟨h.os,h.tape,h.output,h.size,fun i hi hs=>h.keep i hi (by
 rcases hs with hs|hs;·exact .inl (tH hs hC)
 ·exact .inr fun cs t fz hc=>(hs cs t fz hc).imp (fun h1 h2=>h1 h2.two) id)⟩
theorem Bx.refl(B:Nat)(w:F):Bx B w w:=⟨rfl,rfl,rfl,tZ _,fun _ _ _=>rfl⟩
theorem MU.same{B:Nat}{w w':F}{i:Nat}(h:MU B w i)(e:w'.heap[i]?=w.heap[i]?):MU B w' i:=by
 rcases h with h|h;·exact .inl h
 ·exact .inr fun cs t fz hc=>h cs t fz (by rw[<-e];exact hc)
theorem Bx.trans{B:Nat}{w w1 w2:F}(h:Bx B w w1)(k:Bx B w1 w2):Bx B w w2:=⟨k.os.trans h.os,k.tape.trans h.tape,k.output.trans h.output,tN h.size k.size,fun i hi hs=>by
 have e:=h.keep i hi hs;exact(k.keep i (tH hi h.size) (hs.same e)).trans e⟩
theorem Bx.grown{B:Nat}{w w':F}(h:L w w' G):Bx B w w':=⟨h.os,h.tape,h.output,h.size,fun i hi _=>h.block i hi (by
 simp)⟩
def Ls(w:F)(i:Nat):Prop:=∀cs t fz,w.heap[i]?=I (S cs t fz)->(Vf t∨t=48∨∃q,cs[0]?=I (Y r7 q))
structure KL (w w' : F) : Prop where
  os : w'.os = w.os
  tape : w'.tape = w.tape
  output : w'.output = w.output
  size : w.heap.size <= w'.heap.size
  keep : ∀ i, i < w.heap.size -> Ls w i -> w'.heap[i]? = w.heap[i]?
theorem KL.two{w w':F}(h:KL w w'):Bx 0 w w':=⟨h.os,h.tape,h.output,h.size,fun i hi hs=>h.keep i hi fun cs t fz hc=>by
 rcases hs with hs|hs;·omega
 ·rcases hs cs t fz hc with h1|h1;(·exact .inl (sS h1));·exact .inr (.inr h1)⟩
theorem KL.refl(w:F):KL w w:=⟨rfl,rfl,rfl,tZ _,fun _ _ _=>rfl⟩
theorem Ls.same{w w':F}{i:Nat}(h:Ls w i)(e:w'.heap[i]?=w.heap[i]?):Ls w' i:=fun cs t fz hc=>h cs t fz (by
 rw[<-e];exact hc)
theorem KL.trans{w w1 w2:F}(h:KL w w1)(k:KL w1 w2):KL w w2:=⟨k.os.trans h.os,k.tape.trans h.tape,k.output.trans h.output,tN h.size k.size,fun i hi hs=>by
 have e:=h.keep i hi hs;exact(k.keep i (tH hi h.size) (hs.same e)).trans e⟩
theorem KL.grown{w w':F}(h:L w w' G):KL w w':=⟨h.os,h.tape,h.output,h.size,fun i hi _=>h.block i hi (by
 simp)⟩
theorem KL.turn{w w':F}{row:Option Nat}(h:L w w' row)(hr:∀g,row=I g->∃cs t fz,w.heap[g]?=I (S cs t fz)∧¬Vf t∧t≠48∧∀q,cs[0]?≠I (Y r7 q)):KL w w':=⟨h.os,h.tape,h.output,h.size,fun i hi hs=>by
 refine h.block i hi fun e=>?_;obtain⟨cs,t,fz,hb,h1,h2,h3⟩:=hr i e.symm;rcases hs cs t fz hb with h4|h4|⟨q,h4⟩;·exact h1 h4
 ·exact h2 h4
 ·exact h3 q h4⟩
def J6(w:F)(P:F->Prop):Prop:=∀w',KL w w'->P w'
theorem J6.now{w:F}{P:F->Prop}(h:J6 w P):P w:=h w (KL.refl w)
theorem J6.later{w w':F}{P:F->Prop}(h:J6 w P)(k:KL w w'):J6 w' P:=fun w2 k2=>h w2 (k.trans k2)
theorem J6.grown{w w':F}{P:F->Prop}(h:J6 w P)(k:L w w' G):J6 w' P:=h.later (KL.grown k)
def Je(w:F)(P:F->Prop):Prop:=∀w',L w w' G->P w'
theorem Je.now{w:F}{P:F->Prop}(h:Je w P):P w:=h w (Qb w G)
theorem Je.grown{w w':F}{P:F->Prop}(h:Je w P)(k:L w w' G):Je w' P:=fun w2 k2=>h w2 (Qa k k2)
def Ze(B:Nat)(w:F)(P:F->Prop):Prop:=∀w',Bx B w w'->P w'
theorem Ze.now{B:Nat}{w:F}{P:F->Prop}(h:Ze B w P):P w:=h w (Bx.refl B w)
theorem Ze.later{B C:Nat}{w w':F}{P:F->Prop}(h:Ze C w P)(k:Kp B w w')(hC:C<=B:=by
 first|exact Nat.zero_le _|exact Nat.le_refl _):Ze C w' P:=fun w2 k2=>h w2 ((k.two hC).trans k2)
theorem Ze.later2{C:Nat}{w w':F}{P:F->Prop}(h:Ze C w P)(k:Bx C w w'):Ze C w' P:=fun w2 k2=>h w2 (k.trans k2)
theorem Ze.grown{C:Nat}{w w':F}{P:F->Prop}(h:Ze C w P)(k:L w w' G):Ze C w' P:=h.later2 (Bx.grown k)
theorem Ze.mono{B:Nat}{w:F}{P Q:F->Prop}(h:Ze B w P)(k:∀w',P w'->Q w'):Ze B w Q:=fun w' h'=>k w' (h w' h')
theorem Vy{w w':F}{v:H}{bs:List UInt8}(h:Qe w v bs)(hb:bs=[]∨∃b,v.ownBlock=I b∧w'.heap[b]?=w.heap[b]?):Qe w' v bs:=by
 obtain⟨a,cap,rfl,hc,h⟩:=h;refine⟨a,cap,rfl,hc,?_⟩;rcases h with h|⟨b,o,rfl,h⟩;·exact .inl h
 ·refine .inr ⟨b,o,rfl,fun i hi=>?_⟩;rcases hb with rfl|⟨b',e,hb⟩;(·simp at hi);·simp[pG]at e;subst e;rw[sL hb];exact h i hi
theorem iS:¬zS 5:=by
 simp[zS,Vf]
theorem ZZ{B:Nat}{w:F}{v:H}{bs:List UInt8}(h:Qh 0 w v bs):Ze B w (fun w=>Qh 0 w v bs):=fun w' k=>by
 obtain⟨h1,h2⟩:=h;rcases h2 with h2|⟨b,e,hl,h2⟩;·exact⟨Vy h1 (.inl h2),.inl h2⟩
 ·(obtain⟨cur,fz,h2⟩:∃cur fz,w.heap[b]?=I (S cur 5 fz):=by rcases h2 with h2|h2;(·omega);·exact h2);have hs:w'.heap[b]?=w.heap[b]?:=k.keep b hl (.inr fun cs t f hc=>.inl (by rw[h2]at hc;simp only[tA,tW]at hc;rw[<-hc.2.1];exact iS));exact⟨Vy h1 (.inr ⟨b,e,hs⟩),.inr ⟨b,e,tH hl k.size,.inr ⟨cur,fz,by rw[hs];exact h2⟩⟩⟩
theorem Gt{B:Nat}{w:F}{v:H}{bs:List UInt8}(h:XY w v bs):Ze B w (fun w=>XY w v bs):=fun w' k=>by
 obtain⟨h1,h2⟩:=h;rcases h2 with h2|⟨b,e,hl,cur,t,fz,h2,h3⟩;·exact⟨Vy h1 (.inl h2),.inl h2⟩
 ·have hs:w'.heap[b]?=w.heap[b]?:=k.keep b hl (.inr fun cs t' f hc=>by rw[h2]at hc;simp only[tA,tW]at hc;obtain⟨rfl,rfl,_⟩:=hc;rcases h3 with rfl|h3;(·exact .inl iS);·exact .inr h3);exact⟨Vy h1 (.inr ⟨b,e,hs⟩),.inr ⟨b,e,tH hl k.size,cur,t,fz,by rw[hs];exact h2,h3⟩⟩
theorem UQ{B base:Nat}{w:F}{t:tX}{n m:Nat}{v:H}{xs:List H}(h:w.ownsRow base t n v m xs)(ht:¬zS t):Ze B w (fun w=>w.ownsRow base t n v m xs):=fun w' k=>by
 refine⟨h.1,?_⟩;rcases h.2with h|⟨g,cap,cur,e,hb,hg,rest⟩;·exact .inl h
 ·refine .inr ⟨g,cap,cur,e,hb,?_,rest⟩;rw[k.keep g (tI.1 hg).1 (.inr fun cs t' f hc=>.inl (by rw[hg]at hc;simp only[tA,tW]at hc;rw[<-hc.2.1];exact ht))];exact hg
theorem AL{B rb:Nat}{w:F}{v:H}{l:List Rd}(h:ZP rb 0 w v l):Ze B w (fun w=>ZP rb 0 w v l):=fun w' k=>by
 obtain⟨us,h1,h2,h3⟩:=h;exact⟨us,h1,UQ h2 (by simp[zS,Vf]) w' k,fun x hx=>⟨ZZ (h3 x hx).1 w' k,ZZ (h3 x hx).2.1 w' k,ZZ (h3 x hx).2.2 w' k⟩⟩
theorem Ab{B rb:Nat}{w:F}{v:H}{l:List Zd}(h:Q6 rb 0 w v l):Ze B w (fun w=>Q6 rb 0 w v l):=fun w' k=>by
 obtain⟨us,h1,h2,h3⟩:=h;exact⟨us,h1,UQ h2 (by simp[zS,Vf]) w' k,fun x hx=>⟨ZZ (h3 x hx).1 w' k,ZZ (h3 x hx).2.1 w' k,ZZ (h3 x hx).2.2 w' k⟩⟩
theorem VB{B:Nat}{w:F}{v:H}{l:PL}(h:QN 0 w v l):Ze B w (fun w=>QN 0 w v l):=fun w' k=>by
 obtain⟨a,cap,rfl,hc,h⟩:=h;refine⟨a,cap,rfl,hc,?_⟩;rcases h with h|⟨b,o,rfl,hb,h⟩;·exact .inl h
 ·(obtain⟨cur,fz,hb⟩:∃cur fz,w.heap[b]?=I (S cur 44 fz):=by rcases hb with hb|hb;(·omega);·exact hb);have hs:w'.heap[b]?=w.heap[b]?:=k.keep b (tI.1 hb).1 (.inr fun cs t f hc=>.inl (by rw[hb]at hc;simp only[tA,tW]at hc;rw[<-hc.2.1];simp[zS,Vf]));refine .inr ⟨b,o,rfl,.inr ⟨cur,fz,by rw[hs];exact hb⟩,fun i hi=>?_⟩;obtain⟨vk,vv,c1,c2,h1,h2⟩:=h i hi;exact⟨vk,vv,by rw[sL hs];exact c1,by rw[sL hs];exact c2,ZZ h1 w' k,ZZ h2 w' k⟩
theorem Ak{B rb:Nat}{w:F}{v:H}{l:FL}(h:ZG rb w v l):Ze B w (fun w=>ZG rb w v l):=fun w' k=>by
 obtain⟨vs,h1,h2,h3⟩:=h;exact⟨vs,h1,UQ h2 (by simp[zS,Vf]) w' k,fun i hi=>⟨ZZ (h3 i hi).1 w' k,VB (h3 i hi).2 w' k⟩⟩
theorem Eh{B:Nat}{w:F}{v:H}{l:List Zd}(h:Xo 0 w v l):Ze B w (fun w=>Xo 0 w v l):=fun w' k=>by
 obtain⟨a,cap,rfl,hc,h⟩:=h;refine⟨a,cap,rfl,hc,?_⟩;rcases h with h|⟨b,o,rfl,hb,h⟩;·exact .inl h
 ·(obtain⟨cur,fz,hb⟩:∃cur fz,w.heap[b]?=I (S cur 71 fz):=by rcases hb with hb|hb;(·omega);·exact hb);have hs:w'.heap[b]?=w.heap[b]?:=k.keep b (tI.1 hb).1 (.inr fun cs t f hc=>.inl (by rw[hb]at hc;simp only[tA,tW]at hc;rw[<-hc.2.1];simp[zS,Vf]));refine .inr ⟨b,o,rfl,.inr ⟨cur,fz,by rw[hs];exact hb⟩,fun i hi=>?_⟩;obtain⟨vn,vk,vv,c1,c2,c3,c4,h1,h2,h3⟩:=h i hi;exact⟨vn,vk,vv,by rw[sL hs];exact c1,by rw[sL hs];exact c2,by rw[sL hs];exact c3,by rw[sL hs];exact c4,ZZ h1 w' k,ZZ h2 w' k,ZZ h3 w' k⟩
theorem yW{B:Nat}{w:F}{v:H}{t:Tx}(h:GP w v t):Ze B w (fun w=>GP w v t):=fun w' k=>by
 obtain⟨vr,vw,rfl,h1,h2⟩:=h;exact⟨vr,vw,rfl,AL h1 w' k,Ab h2 w' k⟩
theorem Sl{B base:Nat}{w:F}{v:H}{l:List kY}(h:JP base w v l):Ze B w (fun w=>JP base w v l):=fun w' k=>by
 obtain⟨us,h1,h2,h3,h4⟩:=h;exact⟨us,h1,UQ h2 (by simp[zS,Vf]) w' k,fun x hx=>Gt (h3 x hx) w' k,h4⟩
theorem yH{B n:Nat}{w:F}{v:H}{p:D7}(h:ZA n w v p):Ze B w (fun w=>KJ w v p):=fun w' k=>by
 obtain⟨base,vs,vk,vv,rfl,_,_,h1,h2,h3⟩:=h;exact⟨vs,vk,vv,rfl,(Sl h1 w' k).list,(Gt h2 w' k).1,(Gt h3 w' k).1⟩
section
section
variable{α:Type}{T:tX}{k:Nat}{P:F->List H->α->Prop}{B:Nat}{w w':F}{v:H}{l:List α}
def JE(T:tX)(k:Nat)(P:F->List H->α->Prop)(B:Nat)(w:F)(v:H)(l:List α):Prop:=∃us:List (List H×α),us.map (·.2)=l∧w.ownsRow B T k v l.length (us.flatMap (·.1))∧(l=[]->v=J G 0 0)∧∀x∈us,x.1.length=k∧(∀u∈x.1,u.oneCell'=M)∧(∀q,x.1[0]?≠I (Y r7 q))∧Ze 0 w (fun w=>P w x.1 x.2)
theorem vL(T:tX)(k:Nat)(P:F->List H->α->Prop)(B:Nat)(w:F):JE T k P B w (J G 0 0) []:=⟨[],rfl,sM _ _ _ _,fun _=>rfl,fun x hx=>by
 simp at hx⟩
theorem JE.kept(h:JE T k P B w v l)(hk:Kp B w w')(hs:∀g,v.ownBlock=I g->w'.heap[g]?=w.heap[g]?):JE T k P B w' v l:=by
 obtain⟨us,h1,h2,h3,h4⟩:=h;refine⟨us,h1,⟨h2.1,?_⟩,h3,fun x hx=>⟨(h4 x hx).1,(h4 x hx).2.1,(h4 x hx).2.2.1,(h4 x hx).2.2.2.later hk⟩⟩;rcases h2.2with h|⟨g,cap,cur,rfl,hb,hg,rest⟩;·exact .inl h
 ·exact .inr ⟨g,cap,cur,rfl,hb,by rw[hs g rfl];exact hg,rest⟩
theorem JE.kept2(h:JE T k P B w v l)(hk:Bx 0 w w')(hs:∀g,v.ownBlock=I g->w'.heap[g]?=w.heap[g]?):JE T k P B w' v l:=by
 obtain⟨us,h1,h2,h3,h4⟩:=h;refine⟨us,h1,⟨h2.1,?_⟩,h3,fun x hx=>⟨(h4 x hx).1,(h4 x hx).2.1,(h4 x hx).2.2.1,(h4 x hx).2.2.2.later2 hk⟩⟩;rcases h2.2with h|⟨g,cap,cur,rfl,hb,hg,rest⟩;·exact .inl h
 ·exact .inr ⟨g,cap,cur,rfl,hb,by rw[hs g rfl];exact hg,rest⟩
theorem JE.lt(h:JE T k P B w v l):∀g,v.ownBlock=I g->B<=g∧g<w.heap.size:=by
 obtain⟨us,h1,h2,h3,h4⟩:=h;exact sH h2
theorem JE.grown(h:JE T k P B w v l)(hg:L w w' G):JE T k P B w' v l:=h.kept (Kp.grown hg) fun g e=>hg.block g (h.lt g e).2 (by
 simp)
theorem JE.shape(h:JE T k P B w v l):∃a cap,v=J a l.length cap:=by
 obtain⟨us,_,h,_⟩:=h;rcases h.2with⟨rfl,h0⟩|⟨g,cap,cur,rfl,_⟩;·exact⟨G,0,by rw[h0]⟩
 ·exact⟨_,cap,rfl⟩
theorem Lp{k:Nat}:∀(us:List (List H×α))(_:∀x∈us,x.1.length=k)(i:Nat)(hi:i<us.length)(j:Nat),j<k->(us.flatMap (·.1))[i*k+j]?=us[i].1[j]?|[],_,i,hi,_,_=>by simp at hi|x::us,hk,0,_,j,hj=>by have:=hk x (by simp);simp[pI (show j<x.1.length by omega)]|x::us,hk,i+1,hi,j,hj=>by have hx:=hk x (by simp);have:=Lp us (fun y hy=>hk y (by simp[hy])) i (by simpa using hi) j hj;rw[tM,List.getElem?_append_right (by rw[hx,rY];omega),hx,show(i+1)*k+j-k=i*k+j by rw[rY];omega,this];simp
theorem JE.blk(hk0:0<k)(h:JE T k P B w v l):v.ownBlock=G∨∃g cs,v.ownBlock=I g∧B<=g∧w.heap[g]?=I (S cs T (0,0))∧∀q,cs[0]?≠I (Y r7 q):=by
 obtain⟨us,h1,h2,h3,h4⟩:=h;rcases h2.2with⟨rfl,_⟩|⟨g,cap,cur,rfl,hb,hg,hn,_,hcs,ht⟩;·exact .inl rfl
 ·refine .inr ⟨g,cur,rfl,hb,hg,fun q hq=>?_⟩;cases us with|nil=>subst h1;have:=h3 rfl;cases this|cons x us=>(have hl:l.length=us.length+1:=by rw[<-h1];simp);(have e:(cur.toList.take (l.length*k))[0]?=((x::us).flatMap (·.1))[0]?:=by rw[ht]);have hx:=(h4 x (by simp)).1;rw[sC,if_pos (by rw[hl,rY];omega),tM,pI (by omega),r8,hq]at e;exact(h4 x (by simp)).2.2.1 q e.symm
theorem JE.turn(hk0:0<k)(hT:Pm T)(h:JE T k P B w v l)(hg:L w w' v.ownBlock):Kp B w w':=by
 rcases h.blk hk0 with e|⟨g,cs,e,hb,hc,h0⟩;·rw[e]at hg;exact Kp.grown hg
 ·rw[e]at hg;exact Kp.turn hg hb hc hT h0
theorem JE.other(hk0:0<k)(h:JE T k P B w v l){row:Option Nat}(hk:Kp B w w')(hg:L w w' row)(hr:row=G∨∃g cs t fz,row=I g∧w.heap[g]?=I (S cs t fz)∧t≠T):JE T k P B w' v l:=by
 refine h.kept hk fun g e=>?_;refine hg.block g (h.lt g e).2 fun e2=>?_;rcases hr with rfl|⟨g',cs,t,fz,rfl,hc,ht⟩;·cases e2
 ·cases e2;rcases h.blk hk0 with e3|⟨g2,cs2,e3,_,hc2,_⟩;(·rw[e3]at e;cases e);·rw[e3]at e;cases e;rw[hc]at hc2;simp only[tA,tW]at hc2;exact ht hc2.2.1
theorem JE.at(h:JE T k P B w v l)(d:α)(i:Nat)(hi:i<l.length):∃g cap cs,v=J (I ⟨g,0,G⟩) l.length cap∧cs.length=k∧l.length<=cap∧(∀j,j<k->w.cell? ⟨g,i*k+j,G⟩=cs[j]?)∧Ze 0 w (fun w=>P w cs (l.getD i d)):=by
 obtain⟨us,h1,h2,h3,h4⟩:=h;have hul:us.length=l.length:=by rw[<-h1];simp
 rcases h2.2with⟨rfl,h0⟩|⟨g,cap,cur,rfl,hb,hg,hn,_,hcs,ht⟩;·omega
 ·have hx:=h4 us[i] (sP (by omega));refine⟨g,cap,us[i].1,rfl,hx.1,hn,fun j hj=>?_,?_⟩;(·(have e:(cur.toList.take (l.length*k))[i*k+j]?=(us.flatMap (·.1))[i*k+j]?:=by rw[ht]);(have hlt:i*k+j<l.length*k:=by have:(i+1)*k<=l.length*k:=pC k hi;rw[rY]at this;omega);rw[Lp us (fun x hx=>(h4 x hx).1) i (by omega) j hj,sC,if_pos hlt,r8]at e;simp[tS,hg,e]);·(have e:l.getD i d=us[i].2:=by subst h1;simp[List.getD,show i<us.length by omega]);rw[e];exact hx.2.2.2
theorem yG{o:rM}{a:Act}{K:Act->F->Prop}{Q:Exit->Act->F->Prop}(s x:rH)(t:tX)(ho:o.op=.call {callee:=.builtin .append,args:=#[s,x],argTypes:=#[t,t]})(i:TypeInfo)(z:H)(bytes:Nat)(ht:O.underlying t=I (.slice T))(hi:O.info? T=I i)(hz:i.zero=I z)(hsize:i.size=k)(hby:i.bytes=bytes)(hzs:z.cells.size=k)(hsz:0<k)(hT:Pm T)(hs:a.eval s=v)(hown:JE T k P B w v l)(nb:Nat)(cs:List H)(y:α)(hx:a.eval x=J (I ⟨nb,0,G⟩) 1 1)(hcl:cs.length=k)(hc:∀j u,cs[j]?=I u->w.cell? ⟨nb,j,G⟩=I u)(h1:∀u∈cs,u.oneCell'=M)(h0:∀q,cs[0]?≠I (Y r7 q))(hP:Ze 0 w (fun w=>P w cs y))(h63:l.length+1<=rV)(hbytes:(l.length+1)*bytes<=140737488355328)(hbase:B<=w.heap.size)(h:∀v' w',JE T k P B w' v' (l++[y])->Kp B w w'->L w w' v.ownBlock->K (a.put o.dst v') w'):o.wp O a w K Q:=by
 have hown0:=hown;obtain⟨us,e1,h2,h3,h4⟩:=hown;refine wp_append_lies w s x t ho B T i z k bytes ht hi hz hsize hby hzs hsz v l.length (us.flatMap (·.1)) hs h2 ⟨nb,0,G⟩ 1 1 cs hx (by omega) (fun j u hj=>by rw[ZM,sO];exact hc j u hj) h1 (by omega) h63 hbytes hbase _ rfl ?_;intro g cap w' hr hg hgg hlt;have hk:=hown0.turn hsz hT hg;refine h _ w' ⟨us++[(cs,y)],by simp[e1],?_,fun e=>by simp at e,fun x hx=>?_⟩ hk hg;·simpa[List.flatMap_append]using hr
 ·rcases sA.1 hx with hx|hx;(·exact⟨(h4 x hx).1,(h4 x hx).2.1,(h4 x hx).2.2.1,(h4 x hx).2.2.2.later hk⟩);·(obtain rfl:x=(cs,y):=by simpa using hx);exact⟨hcl,h1,h0,hP.later hk⟩
theorem JE.take(h:JE T k P B w v l){a:Option sZ}{n cap:Nat}(hv:v=J a n cap)(m:Nat)(hm:m<=l.length)(h0:0<m):JE T k P B w (J a m cap) (l.take m):=by
 subst hv;obtain⟨us,h1,h2,h3,h4⟩:=h;have hul:us.length=l.length:=by rw[<-h1];simp
 have hlm:(l.take m).length=m:=by simp;omega
 rcases h2.2with⟨e,h0'⟩|⟨g,cp,cur,e,hb,hg,hn,hmx,hcs,ht⟩;·omega
 ·simp only[tG]at e;obtain⟨rfl,rfl,rfl⟩:=e;(have hfl:(us.take m).flatMap (·.1)=(us.flatMap (·.1)).take (m*k):=by(have hk:∀(vs:List (List H×α)),(∀x∈vs,x.1.length=k)->∀m,(vs.take m).flatMap (·.1)=(vs.flatMap (·.1)).take (m*k):=by intro vs;induction vs with|nil=>intro _ m;simp|cons x vs ih=>intro hx m;cases m with|zero=>simp|succ m=>have:=hx x (by simp);rw[rC,tM,tM,ih (fun y hy=>hx y (by simp[hy])) m,List.take_append,this,rY,show m*k+k-k=m*k by omega,List.take_of_length_le (l:=x.1) (by omega)]);exact hk us (fun x hx=>(h4 x hx).1) m);refine⟨us.take m,by rw[<-h1,List.map_take],⟨?_,.inr ⟨g,cap,cur,by rw[hlm],hb,hg,by omega,hmx,hcs,?_⟩⟩,fun e=>?_,fun x hx=>h4 x (List.mem_of_mem_take hx)⟩;(·rw[hfl,rX,h2.1,hlm];have:m*k<=l.length*k:=pC k hm;omega);(·rw[hlm,hfl,<-ht,pY];have:m*k<=l.length*k:=pC k hm;rw[pZ this]);·rw[e]at hlm;simp at hlm;omega
end
end
theorem Fl:(210:Nat)≠5:=by
 decide
theorem jP:(210:Nat)≠71:=by
 decide
def Ca(w:F)(b o:Nat)(c:XD):Prop:=∃vs,w.cell? ⟨b,o,G⟩=I (Y tC c.turn)∧w.cell? ⟨b,o+1,G⟩=I vs∧QR w vs c.writes
theorem Ca.grown{w w':F}{b o:Nat}{c:XD}(h:Ca w b o c)(hg:L w w' G):Ca w' b o c:=by
 obtain⟨vs,c1,c2,h⟩:=h;exact⟨vs,hg.cell c1 (by simp),hg.cell c2 (by simp),h.grown hg⟩
def Jc(w:F)(v:H)(l:List XD):Prop:=∃a cap,v=J a l.length cap∧l.length<=cap∧((l=[]∧(a=G->cap=0))∨∃b o,a=I ⟨b,o,G⟩∧∀i,i<l.length->Ca w b (o+i*2) (l.getD i Zl))
theorem Et(w:F):Jc w (J G 0 0) []:=⟨G,0,rfl,tZ _,.inl ⟨rfl,fun _=>rfl⟩⟩
theorem Jc.shape{w:F}{v:H}{l:List XD}(h:Jc w v l):∃a cap,v=J a l.length cap:=by
 obtain⟨a,cap,rfl,_⟩:=h;exact⟨a,cap,rfl⟩
theorem Jc.grown{w w':F}{v:H}{l:List XD}(h:Jc w v l)(hg:L w w' G):Jc w' v l:=by
 obtain⟨a,cap,rfl,hc,h⟩:=h;refine⟨a,cap,rfl,hc,?_⟩;rcases h with h|⟨b,o,rfl,h⟩;·exact .inl h
 ·exact .inr ⟨b,o,rfl,fun i hi=>(h i hi).grown hg⟩
theorem Jc.at{w:F}{a:Option sZ}{n cap:Nat}{l:List XD}(h:Jc w (J a n cap) l)(i:Nat)(hi:i<l.length):∃b o,a=I ⟨b,o,G⟩∧Ca w b (o+i*2) (l.getD i Zl):=by
 obtain⟨a',cap',e,hc,h⟩:=h;simp only[tG]at e;obtain⟨rfl,rfl,rfl⟩:=e;rcases h with⟨rfl,_⟩|⟨b,o,rfl,h⟩;·simp at hi
 ·exact⟨b,o,rfl,h i hi⟩
structure Ad (l : List XD) : Prop where
  many : l.length * 32 <= 140737488355328
  each : ∀ i, i < l.length -> Ny (l.getD i Zl)
abbrev CV:=XD×H
def jZ(us:List CV):List H:=us.flatMap fun x=>[Y tC x.1.turn,x.2]
theorem Mi(a b:List CV):jZ (a++b)=jZ a++jZ b:=by
 simp[jZ]
theorem dW:(O.info? 210).map (fun i=>(i.zero,i.size,i.bytes))=I (I (sU #[Y tC 0,J G 0 0]),2,32):=by
 kernel_rfl
def Ja(base:Nat)(w:F)(v:H)(l:List XD):Prop:=∃us:List CV,us.map (·.1)=l∧w.ownsRow base 210 2 v l.length (jZ us)∧(l=[]->v=J G 0 0)∧∀x∈us,Xo 0 w x.2 x.1.writes
theorem Cd(base:Nat)(w:F):Ja base w (J G 0 0) []:=⟨[],rfl,sM _ _ _ _,fun _=>rfl,fun x hx=>by
 simp at hx⟩
theorem Ja.row{base:Nat}{w:F}{v:H}{l:List XD}(h:Ja base w v l):v.ownBlock=G∨∃g cur t fz,v.ownBlock=I g∧base<=g∧w.heap[g]?=I (S cur t fz)∧t≠5∧t≠71:=by
 obtain⟨us,_,h,_⟩:=h;rcases h.2with⟨rfl,_⟩|⟨g,cap,cur,rfl,hb,hg,_⟩;·exact .inl rfl
 ·exact .inr ⟨g,cur,_,_,rfl,hb,hg,Fl,jP⟩
theorem Ja.row0{base:Nat}{w:F}{v:H}{l:List XD}(h:Ja base w v l):v.ownBlock=G∨∃g cur t fz,v.ownBlock=I g∧0<=g∧w.heap[g]?=I (S cur t fz)∧t≠5∧t≠71:=by
 rcases h.row with h|⟨g,cur,t,fz,h1,_,h2⟩;·exact .inl h
 ·exact .inr ⟨g,cur,t,fz,h1,tR _,h2⟩
theorem Ja.lt{base:Nat}{w:F}{v:H}{l:List XD}(h:Ja base w v l):∀k,v.ownBlock=I k->base<=k∧k<w.heap.size:=by
 obtain⟨us,_,h,_⟩:=h;exact sH h
theorem Ja.grownNone{base:Nat}{w w':F}{v:H}{l:List XD}(h:Ja base w v l)(hg:L w w' G):Ja base w' v l:=by
 obtain⟨us,h1,h2,h0,h3⟩:=h;refine⟨us,h1,tU h2 hg ?_,h0,fun x hx=>(h3 x hx).kept hg (.inl rfl)⟩;cases hv:v.ownBlock with|none=>exact .inl rfl|some k=>exact .inr (by simp)
theorem Ja.shape{base:Nat}{w:F}{v:H}{l:List XD}(h:Ja base w v l):∃a cap,v=J a l.length cap:=by
 obtain⟨us,_,h,_⟩:=h;rcases h.2with⟨rfl,h0⟩|⟨g,cap,cur,rfl,_⟩;·exact⟨G,0,by rw[h0]⟩
 ·exact⟨_,cap,rfl⟩
theorem Av{base:Nat}{w W w1:F}{v:H}{l:List XD}(h:L w W G)(ho:Ja base W v l)(hb:w.heap.size<=base)(hg:L W w1 v.ownBlock):L w w1 G:=⟨hg.os.trans h.os,hg.tape.trans h.tape,hg.output.trans h.output,tN h.size hg.size,fun i hi hn=>(hg.block i (tH hi h.size) (fun e=>by
 have:=(ho.lt i e.symm).1;omega)).trans (h.block i hi hn)⟩
theorem RZ{w:F}{o:rM}{a:Act}{K:Act->F->Prop}{Q:Exit->Act->F->Prop}(s x:rH)(ho:o.op=.call {callee:=.builtin .append,args:=#[s,x],argTypes:=#[104,104]})(base:Nat)(v:H)(l:List XD)(hs:a.eval s=v)(hown:Ja base w v l)(vw:H)(c:XD)(hw:Xo 0 w vw c.writes)(nb:Nat)(hb:w.heap[nb]?=I (S #[Y tC c.turn,vw] 210))(hx:a.eval x=J (I ⟨nb,0,G⟩) 1 1)(hl:(l.length+1)*32<=140737488355328)(hbase:base<=w.heap.size)(h:∀v' w',Ja base w' v' (l++[c])->L w w' v.ownBlock->K (a.put o.dst v') w'):o.wp O a w K Q:=by
 obtain⟨i0,hi,hz0,hz1,hz2⟩:=pA dW;have hrow:=hown.row0;obtain⟨us,hul,hr,_,hp⟩:=hown;refine wp_append_lies w s x 104 ho base 210 i0 (sU #[Y tC 0,J G 0 0]) 2 32 Tryz.underlying104 hi hz0 hz1 hz2 rfl (by decide) v l.length (jZ us) hs hr ⟨nb,0,G⟩ 1 1 (jZ [(c,vw)]) hx rfl (rB (cs:=#[Y tC c.turn,vw]) hb) ?_ (by omega) (by unfold rV;omega) hl hbase _ rfl ?_;·intro u hu;simp only[jZ,tM,rJ,rO,tK,tQ,or_false]at hu;rcases hu with rfl|rfl;(·rfl);·exact hw.oneCell
 ·intro g cap w' q1 q2 _ _;refine h _ w' ⟨us++[(c,vw)],by simp[hul],?_,fun e=>by simp at e,?_⟩ q2;(·rw[Mi,tB];exact q1);·intro y hy;rcases sA.1 hy with hy|hy;(·exact(hp y hy).kept q2 hrow);·simp only[tK,tQ,or_false]at hy;subst hy;exact hw.kept q2 hrow
theorem kL{w:F}{ops:Array rM}{rest:List rM}{o:rM}{a:Act}{Q:Exit->Act->F->Prop}(hgd:o.guard=G)(s x:rH)(ho:o.op=.call {callee:=.builtin .append,args:=#[s,x],argTypes:=#[104,104]})(base:Nat)(v:H)(l:List XD)(hs:a.eval s=v)(hown:Ja base w v l)(vw:H)(c:XD)(hw:Xo 0 w vw c.writes)(nb:Nat)(hb:w.heap[nb]?=I (S #[Y tC c.turn,vw] 210))(hx:a.eval x=J (I ⟨nb,0,G⟩) 1 1)(hl:(l.length+1)*32<=140737488355328)(hbase:base<=w.heap.size)(h:∀v' w',Ja base w' v' (l++[c])->L w w' v.ownBlock->wpList O ops Q rest (a.put o.dst v') w'):wpList O ops Q (o::rest) a w:=wpList_plain hgd fun _ hK=>RZ s x ho base v l hs hown vw c hw nb hb hx hl hbase fun v' w' h1 h2=>hK _ _ (h v' w' h1 h2)
theorem Ja.ne{base:Nat}{w:F}{v:H}{l:List XD}(h:Ja base w v l){b:Nat}{cs:Array H}{t:tX}{fz:Nat×Nat}(hb:w.heap[b]?=I (S cs t fz))(ht:t≠210):v.ownBlock≠I b:=by
 intro e;obtain⟨us,_,h,_⟩:=h;rcases h.2with⟨rfl,_⟩|⟨g,cap,cur,rfl,_,hg,_⟩;·cases e
 ·cases e;rw[hb]at hg;simp only[tA,tW]at hg;exact ht hg.2.1
theorem Ja.setOther{base:Nat}{w:F}{v:H}{l:List XD}(h:Ja base w v l){b i:Nat}{cs:Array H}{t:tX}{fz:Nat×Nat}(hb:w.heap[b]?=I (S cs t fz))(ht:t≠5)(ht2:t≠71)(ht3:t≠210)(u:H):Ja base (tE w ⟨b,i,G⟩ u) v l:=by
 have hne:=h.ne hb ht3;obtain⟨us,h1,h2,h0,h3⟩:=h;exact⟨us,h1,tU h2 (YL w b i u) (.inr hne),h0,fun x hx=>(h3 x hx).kept (YL w b i u) (.inr ⟨b,cs,t,fz,rfl,tR _,hb,ht,ht2⟩)⟩
theorem Ja.other{base:Nat}{w w':F}{v:H}{l:List XD}(h:Ja base w v l)(hg:L w w' v.ownBlock){b:Nat}{cs:Array H}{t:tX}{fz:Nat×Nat}(hb:w.heap[b]?=I (S cs t fz))(ht:t≠210):w'.heap[b]?=I (S cs t fz):=by
 rw[hg.block b (tI.1 hb).1 (fun e=>h.ne hb ht e.symm)];exact hb
def WX:Prop:=∀(w:F)(v u:H)(t:Tx)(r:Rd),GW w v t->xK t->Yv w u r->PZ r->sW O 132 #[v,u] w fun e w'=>∃x,e=tD (sI #[x,Y tC (Xf t r)])∧GP w' x (Ya t r)∧L w w' G
theorem Qg(w:F)(o:Obj):∃W:F,Hid (W=w.alloc o)∧L w W G∧Hid (W.heap[w.heap.size]?=I o):=⟨w.alloc o,rfl,sN _ _ _,oF w o⟩
theorem Z4{x y:Int}(h:x=y):tD (Y tC y)=tD (Y tC x):=by
 rw[h]
theorem YM{x y:Bool}(h:x=y):tD (tL y)=tD (tL x):=by
 rw[h]
theorem XA{W w:F}{b:Nat}{x y z:H}{t:tX}(hg:L W w G)(h:W.heap[b]?=I (S #[x,y,z] t)):w.cell? ⟨b,0,G⟩=I x∧w.cell? ⟨b,1,G⟩=I y∧w.cell? ⟨b,2,G⟩=I z:=by
 have hb:w.heap[b]?=I (S #[x,y,z] t):=by rw[hg.block b (tI.1 h).1 (by simp)];exact h
 refine⟨?_,?_,?_⟩<;>simp[tS,hb]
def Mu(p:List Rd)(r:Rd):Int:=if XE r=0then(if p.any (fun q=>XF q r)=M then 3 else 0)else XE r
def Db(p:List Zd)(w:Zd):Int:=if QD w=0then(if p.any (fun q=>ZS q w)=M then 3 else 0)else QD w
theorem aP(l:List Rd)(m:Nat)(h:m<l.length):GU (l.take m) (l.drop m)=if Mu (l.take m) (l.getD m Zg)=0then GU (l.take (m+1)) (l.drop (m+1))else Mu (l.take m) (l.getD m Zg):=by
 rw[sV h,GU,sY h,show l[m]=l.getD m Zg by simp[h]];unfold Mu;by_cases h1:XE (l.getD m Zg)=0;·rw[if_pos h1,if_pos h1];by_cases h2:(l.take m).any (fun q=>XF q (l.getD m Zg))=M;(·rw[if_pos h2,if_pos h2,if_neg (by omega)]);·rw[if_neg h2,if_neg h2,if_pos rfl]
 ·rw[if_neg h1,if_neg h1,if_neg h1]
theorem bA(l:List Zd)(m:Nat)(h:m<l.length):xW (l.take m) (l.drop m)=if Db (l.take m) (l.getD m Qs)=0then xW (l.take (m+1)) (l.drop (m+1))else Db (l.take m) (l.getD m Qs):=by
 rw[sV h,xW,sY h,show l[m]=l.getD m Qs by simp[h]];unfold Db;by_cases h1:QD (l.getD m Qs)=0;·rw[if_pos h1,if_pos h1];by_cases h2:(l.take m).any (fun q=>ZS q (l.getD m Qs))=M;(·rw[if_pos h2,if_pos h2,if_neg (by omega)]);·rw[if_neg h2,if_neg h2,if_pos rfl]
 ·rw[if_neg h1,if_neg h1,if_neg h1]
theorem PY{α:Type}(d:α)(f:α->Bool)(l:List α)(k:Nat)(h:k<l.length):(l.take (k+1)).any f=((l.take k).any f||f (l.getD k d)):=by
 rw[sY h,List.any_append,show l[k]=l.getD k d by simp[h]];simp
theorem EO{α:Type}(d:α)(f:α->Bool)(l:List α)(k m:Nat)(hk:k<m)(hm:m<=l.length)(h:f (l.getD k d)=M):(l.take m).any f=M:=by
 rw[rA];refine⟨l.getD k d,?_,h⟩;rw[show l.getD k d=(l.take m)[k]'(by rw[rX];omega)by rw[List.getElem_take];simp[show k<l.length by omega]];exact sP _
theorem zZ{w:F}{a:Option sZ}{n cap:Nat}{l:List Rd}(h:Xa w (J a n cap) l)(i:Nat)(hi:i<l.length):∃b o,a=I ⟨b,o,G⟩∧∃u1 u2 u3 u4 u5 u6,(w.cell? ⟨b,o+i*4,G⟩=I (J u1 (l.getD i Zg).name.length u2)∧w.cell? ⟨b,o+i*4+1,G⟩=I (J u3 (l.getD i Zg).key.length u4)∧w.cell? ⟨b,o+i*4+2,G⟩=I (tL (l.getD i Zg).wide)∧w.cell? ⟨b,o+i*4+3,G⟩=I (J u5 (l.getD i Zg).last.length u6))∧Yv w (sU #[J u1 (l.getD i Zg).name.length u2,J u3 (l.getD i Zg).key.length u4,tL (l.getD i Zg).wide,J u5 (l.getD i Zg).last.length u6]) (l.getD i Zg):=by
 obtain⟨b,o,rfl,hat⟩:=h.at i hi;obtain⟨vn,vk,vl,c1,c2,c3,c4,s1,s2,s3⟩:=hat;obtain⟨u1,u2,rfl⟩:=s1.shape;obtain⟨u3,u4,rfl⟩:=s2.shape;obtain⟨u5,u6,rfl⟩:=s3.shape;exact⟨b,o,rfl,u1,u2,u3,u4,u5,u6,⟨c1,c2,c3,c4⟩,⟨_,_,_,rfl,s1,s2,s3⟩⟩
theorem Ye{w:F}{a:Option sZ}{n cap:Nat}{l:List Zd}(h:QR w (J a n cap) l)(i:Nat)(hi:i<l.length):∃b o,a=I ⟨b,o,G⟩∧∃u1 u2 u3 u4 u5 u6,(w.cell? ⟨b,o+i*4,G⟩=I (J u1 (l.getD i Qs).name.length u2)∧w.cell? ⟨b,o+i*4+1,G⟩=I (J u3 (l.getD i Qs).key.length u4)∧w.cell? ⟨b,o+i*4+2,G⟩=I (tL (l.getD i Qs).gone)∧w.cell? ⟨b,o+i*4+3,G⟩=I (J u5 (l.getD i Qs).value.length u6))∧Xb w (sU #[J u1 (l.getD i Qs).name.length u2,J u3 (l.getD i Qs).key.length u4,tL (l.getD i Qs).gone,J u5 (l.getD i Qs).value.length u6]) (l.getD i Qs):=by
 obtain⟨b,o,rfl,hat⟩:=h.at i hi;obtain⟨vn,vk,vl,c1,c2,c3,c4,s1,s2,s3⟩:=hat;obtain⟨u1,u2,rfl⟩:=s1.shape;obtain⟨u3,u4,rfl⟩:=s2.shape;obtain⟨u5,u6,rfl⟩:=s3.shape;exact⟨b,o,rfl,u1,u2,u3,u4,u5,u6,⟨c1,c2,c3,c4⟩,⟨_,_,_,rfl,s1,s2,s3⟩⟩
theorem Ec{x y:Bool}{a b:Int}(h:x=y)(k:a=b):tD (sI #[tL y,Y tC b])=tD (sI #[tL x,Y tC a]):=by
 rw[h,k]
theorem Oh{α:Type}(f:α->Bool)(l:List α)(d:α)(i:Nat)(hi:i<l.length)(h:f (l.getD i d)=M):l.any f=M:=by
 have:=EO d f l i l.length hi (tZ _) h;rw[sE]at this;exact this
theorem zJ:(107:Nat)≠5:=by
 decide
theorem kA:(107:Nat)≠220:=by
 decide
theorem G0:(107:Nat)≠71:=by
 decide
theorem ZP.block{rb pb:Nat}{W w':F}{v:H}{l:List Rd}(ho:ZP rb pb W v l)(hg:L W w' v.ownBlock){b:Nat}{cs:Array H}{t:tX}{fz:Nat×Nat}(h:W.heap[b]?=I (S cs t fz))(ht:t≠220):w'.heap[b]?=I (S cs t fz):=by
 rw[hg.block b (tI.1 h).1 (fun e=>ho.ne h ht e.symm)];exact h
theorem Q6.block{rb pb:Nat}{W w':F}{v:H}{l:List Zd}(ho:Q6 rb pb W v l)(hg:L W w' v.ownBlock){b:Nat}{cs:Array H}{t:tX}{fz:Nat×Nat}(h:W.heap[b]?=I (S cs t fz))(ht:t≠71):w'.heap[b]?=I (S cs t fz):=by
 rw[hg.block b (tI.1 h).1 (fun e=>ho.ne h ht e.symm)];exact h
theorem ZP.keptV{rb rb':Nat}{W w':F}{v u:H}{l:List Rd}{k:List Zd}(hR:ZP rb 0 W v l)(hV:Q6 rb' 0 W u k)(hg:L W w' u.ownBlock):ZP rb 0 w' v l:=by
 refine hR.kept hg ?_ ?_;·rcases hR.row with h|⟨g,cur,fz,e,_,h⟩;(·exact .inl h);·refine .inr ?_;rw[e];exact fun e2=>hV.ne h (fun e=>iM e) e2.symm
 ·rcases hV.row with h|⟨g,cur,fz,e,_,h⟩;(·exact .inl h);·exact .inr ⟨g,cur,_,fz,e,tR _,h,uA⟩
theorem QK{w:F}{b:Nat}{x y z:H}{t:tX}(h:w.heap[b]?=I (S #[x,y,z] t)):(w.cell? ⟨b,0,G⟩=I x∧w.cell? ⟨b,1,G⟩=I y∧w.cell? ⟨b,2,G⟩=I z)∧w.frozen? ⟨b,0,G⟩=N∧w.frozen? ⟨b,1,G⟩=N∧w.frozen? ⟨b,2,G⟩=N:=by
 refine⟨⟨?_,?_,?_⟩,?_,?_,?_⟩<;>simp[tS,rW,h]
theorem UT{rb:Nat}{w wr:F}{RB:Nat}{x y z:H}{st:Int}{va ua:Option sZ}{n m vc uc:Nat}{R:List Rd}{V:List Zd}(h:wr.heap[RB]?=I (S #[x,y,z] 107))(hR:ZP rb 0 wr (J va n vc) R)(hV:Q6 rb 0 wr (J ua m uc) V)(hg:L w wr G)(hw:w.heap.size<=RB):((((tE wr ⟨RB,0,G⟩ (Y tC st)).setCell ⟨RB,1,G⟩ (J va n vc)).setCell ⟨RB,2,G⟩ (J ua m uc)).cell? ⟨RB,0,G⟩=I (Y tC st)∧(((tE wr ⟨RB,0,G⟩ (Y tC st)).setCell ⟨RB,1,G⟩ (J va n vc)).setCell ⟨RB,2,G⟩ (J ua m uc)).cell? ⟨RB,1,G⟩=I (J va n vc)∧(((tE wr ⟨RB,0,G⟩ (Y tC st)).setCell ⟨RB,1,G⟩ (J va n vc)).setCell ⟨RB,2,G⟩ (J ua m uc)).cell? ⟨RB,2,G⟩=I (J ua m uc))∧ZP rb 0 (((tE wr ⟨RB,0,G⟩ (Y tC st)).setCell ⟨RB,1,G⟩ (J va n vc)).setCell ⟨RB,2,G⟩ (J ua m uc)) (J va n vc) R∧Q6 rb 0 (((tE wr ⟨RB,0,G⟩ (Y tC st)).setCell ⟨RB,1,G⟩ (J va n vc)).setCell ⟨RB,2,G⟩ (J ua m uc)) (J ua m uc) V∧L w (((tE wr ⟨RB,0,G⟩ (Y tC st)).setCell ⟨RB,1,G⟩ (J va n vc)).setCell ⟨RB,2,G⟩ (J ua m uc)) G:=by
 have b1:=Qk (i:=0) (u:=Y tC st) h;have b2:=Qk (i:=1) (u:=J va n vc) b1;have b3:=Qk (i:=2) (u:=J ua m uc) b2;exact⟨(QK (x:=Y tC st) (y:=J va n vc) (z:=J ua m uc) b3).1,((hR.setOther h zJ kA (tR _) _).setOther b1 zJ kA (tR _) _).setOther b2 zJ kA (tR _) _,((hV.setOther h zJ G0 (tR _) _).setOther b1 zJ G0 (tR _) _).setOther b2 zJ G0 (tR _) _,Qc (Qc (Qc hg _ hw _ _) _ hw _ _) _ hw _ _⟩
theorem Q6.keptR{rb rb':Nat}{W w':F}{v u:H}{l:List Zd}{k:List Rd}(hV:Q6 rb 0 W v l)(hR:ZP rb' 0 W u k)(hg:L W w' u.ownBlock):Q6 rb 0 w' v l:=by
 refine hV.kept hg ?_ ?_;·rcases hV.row with h|⟨g,cur,fz,e,_,h⟩;(·exact .inl h);·refine .inr ?_;rw[e];exact fun e2=>hR.ne h (fun e=>iM e.symm) e2.symm
 ·rcases hR.row with h|⟨g,cur,fz,e,_,h⟩;(·exact .inl h);·exact .inr ⟨g,cur,_,fz,e,tR _,h,gS⟩
theorem GF{w:F}{v1 v2:H}{st:Int}{R:List Rd}{V:List Zd}{rb:Nat}{t:Tx}(e:t=⟨st,R,V⟩)(h1:ZP rb 0 w v1 R)(h2:Q6 rb 0 w v2 V):GP w (sU #[Y tC st,v1,v2]) t:=by
 subst e;exact⟨_,_,rfl,h1.down 0 (tR _),h2.down 0 (tR _)⟩
theorem UR{v:H}{a b:Int}(h:a=b):tD (sI #[v,Y tC b])=tD (sI #[v,Y tC a]):=by
 rw[h]
theorem Lt:∀(l:List Zd)(w:Zd)(m:Nat),m<l.length->(l.take m).any (fun q=>ZS q w)=N->ZS (l.getD m Qs) w=M->xB l w=l.set m w|[],_,_,h,_,_=>by simp at h|a::l,w,0,_,_,h=>by have h':ZS a w=M:=h;rw[xB,if_pos h'];rfl|a::l,w,m+1,h0,h1,h2=>by rw[rC,pD,rN]at h1;rw[xB,if_neg (by rw[h1.1];decide),pM,Lt l w m (by simpa using h0) h1.2 (by simpa using h2)]
theorem Dq:∀(l:List Zd)(w:Zd),l.any (fun q=>ZS q w)=N->xB l w=l++[w]|[],_,_=>rfl|a::l,w,h=>by rw[pD,rN]at h;rw[xB,if_neg (by rw[h.1];decide),Dq l w h.2];rfl
theorem Q6.zero{rb:Nat}{w:F}{b o n cap:Nat}{l:List Zd}(h:Q6 rb 0 w (J (I ⟨b,o,G⟩) n cap) l):o=0:=by
 obtain⟨us,hl,hr,h3⟩:=h;rcases hr.2with⟨e,_⟩|⟨g',cap',cur,e,_⟩;·cases e
 ·simp only[tG,tA,rG]at e;exact e.1.2.1
theorem Q6.frozenT{rb:Nat}{w:F}{g n cap:Nat}{l:List Zd}(h:Q6 rb 0 w (J (I ⟨g,0,G⟩) n cap) l)(j:Nat):w.frozen? ⟨g,j,G⟩=N:=by
 obtain⟨us,hl,hr,h3⟩:=h;rcases hr.2with⟨e,_⟩|⟨g',cap',cur,e,hb,hg,_⟩;·cases e
 ·simp only[tG,tA,rG]at e;obtain⟨⟨rfl,_⟩,_⟩:=e;simp[rW,hg]
theorem Ee:∀(us:List WV)(i:Nat)(x:WV),Y8 (us.set i x)=((((Y8 us).set (i*4) x.2.1).set (i*4+1) x.2.2.1).set (i*4+2) (tL x.1.gone)).set (i*4+3) x.2.2.2|[],i,x=>by simp[Y8]|y::us,0,x=>by simp[Y8]|y::us,i+1,x=>by have ih:=Ee us i x;(have e:∀us:List WV,Y8 (y::us)=y.2.1::y.2.2.1::tL y.1.gone::y.2.2.2::Y8 us:=fun us=>by simp[Y8]);rw[pM,e,e,ih,show(i+1)*4=i*4+4by omega];rfl
theorem Q6.setT{rb:Nat}{w:F}{g n cap:Nat}{l:List Zd}(h:Q6 rb 0 w (J (I ⟨g,0,G⟩) n cap) l)(i:Nat)(vn vk vv:H)(p:Zd)(h1:Qh 0 w vn p.name)(h2:Qh 0 w vk p.key)(h3:Qh 0 w vv p.value):Q6 rb 0 ((((tE w ⟨g,i*4,G⟩ vn).setCell ⟨g,i*4+1,G⟩ vk).setCell ⟨g,i*4+2,G⟩ (tL p.gone)).setCell ⟨g,i*4+3,G⟩ vv) (J (I ⟨g,0,G⟩) n cap) (l.set i p):=by
 obtain⟨us,hul,hr,hp⟩:=h;have hgr:L w ((((tE w ⟨g,i*4,G⟩ vn).setCell ⟨g,i*4+1,G⟩ vk).setCell ⟨g,i*4+2,G⟩ (tL p.gone)).setCell ⟨g,i*4+3,G⟩ vv) (I g):=Qi (Qi (Qi (Qi (Qb _ _) _ _) _ _) _ _) _ _;rcases hr.2with⟨e,_⟩|⟨g',cap',cur,e,hb,hg,hn,hm,hs,ht⟩;·cases e
 ·simp only[tG,tA,rG]at e;obtain⟨⟨rfl,_⟩,rfl,rfl⟩:=e;have hrow:(I g:Option Nat)=G∨∃g' cur t fz,(I g:Option Nat)=I g'∧0<=g'∧w.heap[g']?=I (S cur t fz)∧t≠5:=.inr ⟨g,cur,_,_,rfl,tR _,hg,uA⟩;(have hus:us.length=l.length:=by rw[<-hul];simp);refine⟨us.set i (p,vn,vk,vv),by rw[List.map_set,hul],⟨by rw[Hs,rP,rP,hus],.inr ⟨g,cap,_,by rw[rP],hb,Qk (Qk (Qk (Qk hg))),by rw[rP];exact hn,hm,by simpa using hs,?_⟩⟩,?_⟩;(·rw[Ee,rP];simp only[Array.toList_setIfInBounds];rw[pE,pE,pE,pE,ht]);·intro x hx;rcases List.mem_or_eq_of_mem_set hx with hx|rfl;(·exact⟨(hp x hx).1.keptT hgr hrow,(hp x hx).2.1.keptT hgr hrow,(hp x hx).2.2.keptT hgr hrow⟩);·exact⟨h1.keptT hgr hrow,h2.keptT hgr hrow,h3.keptT hgr hrow⟩
def Uh(n k:List UInt8)(q:Zd):Bool:=tP (q.name=n)&&tP (q.key=k)
theorem Bh{α:Type}(p:α->Bool)(d:α):∀(l:List α)(m:Nat),m<l.length->(l.take m).any p=N->p (l.getD m d)=M->l.find? p=I (l.getD m d)|[],_,h,_,_=>by simp at h|a::l,0,_,_,h=>by have h':p a=M:=h;rw[List.find?_cons_of_pos h'];rfl|a::l,m+1,h0,h1,h2=>by rw[rC,pD,rN]at h1;rw[List.find?_cons_of_neg (by rw[h1.1];decide),Bh p d l m (by simpa using h0) h1.2 (by simpa using h2)];simp
theorem LL{α:Type}(p:α->Bool)(l:List α)(h:l.any p=N):l.find? p=G:=by
 rw[List.find?_eq_none];intro x hx hp;rw[List.any_eq_false]at h;exact h x hx hp
theorem f7{l:List Zd}{n k:List UInt8}{m:Nat}(h:m<l.length)(h1:(l.take m).any (Uh n k)=N)(h2:Uh n k (l.getD m Qs)=M):gW l n k=I (l.getD m Qs):=Bh (Uh n k) Qs l m h h1 h2
theorem cL{l:List Zd}{n k:List UInt8}(h:l.any (Uh n k)=N):gW l n k=G:=LL (Uh n k) l h
theorem IW{l:FL}{t:Tx}{n k:List UInt8}(h:Kv l t n k≠0):U6 l t n k=N∧Vh l t n k=N∧UZ l t n k=[]:=by
 rw[U6,Vh,UZ,if_neg h,if_neg h,if_neg h];exact⟨rfl,rfl,rfl⟩
theorem dH{l:FL}{t:Tx}{n k:List UInt8}(h:zY l t≠0):Kv l t n k=zY l t:=by
 rw[Kv,if_neg h]
theorem Dw{l:FL}{t:Tx}(h:zY l t=0):Z5 l∧qK t:=by
 unfold zY at h;by_cases hf:Q8 l=0;·rw[if_pos hf]at h;exact⟨(X6 l).1 hf,(kW t).1 h⟩
 ·rw[if_neg hf]at h;exact absurd h hf
theorem aL{l:FL}{t:Tx}{n k:List UInt8}(h:zY l t=0){m:Nat}(hm:m<t.writes.length)(h1:(t.writes.take m).any (Uh n k)=N)(h2:Uh n k (t.writes.getD m Qs)=M):Kv l t n k=0∧U6 l t n k=M∧Vh l t n k=!(t.writes.getD m Qs).gone∧UZ l t n k=(t.writes.getD m Qs).value:=by
 obtain⟨hf,ht⟩:=Dw h;have ha:=f7 hm h1 h2;have hs:=Oe ha;have hw:=(XK _).1 (ht.wrs _ hs.1);rw[hs.2.1,hs.2.2]at hw;have h0:=SR hf ht hw.1 hw.2.1;refine⟨h0,?_,?_,?_⟩;·rw[U6,if_pos h0,ha];rfl
 ·rw[Vh,if_pos h0,ha]
 ·rw[UZ,if_pos h0,ha]
theorem aI{l:FL}{t:Tx}{n k:List UInt8}(h:zY l t=0)(h1:t.writes.any (Uh n k)=N):Kv l t n k=VL l n k∧U6 l t n k=N∧Vh l t n k=Vc l n k∧UZ l t n k=Vg l n k:=by
 obtain⟨hf,ht⟩:=Dw h;have ha:=cL h1;have hfo:=(X6 l).2 hf;have hE:Kv l t n k=VL l n k:=by rw[Kv,if_pos h,VL,qG,if_pos hfo];by_cases hn:Qt n.length=0;(·rw[if_pos hn,if_pos hn,Xc,if_pos ((YP _).2 (KG hf n))]);·rw[if_neg hn,if_neg hn]
 refine⟨hE,?_,?_,?_⟩;·rw[U6,ha];by_cases h0:Kv l t n k=0;(·rw[if_pos h0];rfl);·rw[if_neg h0]
 ·rw[Vh,ha];by_cases h0:Kv l t n k=0;(·rw[if_pos h0]);·rw[if_neg h0];rw[hE]at h0;rw[Vc];by_cases hn:qG l n=0;(·rw[VL,if_pos hn]at h0;rw[if_pos hn,Ei];simp[h0]);·rw[if_neg hn]
 ·rw[UZ,ha];by_cases h0:Kv l t n k=0;(·rw[if_pos h0]);·rw[if_neg h0];rw[hE]at h0;rw[Vg];by_cases hn:qG l n=0;(·rw[VL,if_pos hn]at h0;rw[if_pos hn,Ek,if_neg h0]);·rw[if_neg hn]
theorem Ip{X:PL}(h:ZH X)(k:List UInt8):ZH (zV X k):=⟨tN (Mm X k) h.room,fun p hp=>h.pairs p (pW.1 hp).1,Nu X k h.rises⟩
theorem Dr{X:PL}(h:ZH X)(f u:List UInt8):ZH (Vl X f u):=⟨tN (Wv X f u) h.room,fun p hp=>h.pairs p (pW.1 hp).1,C9 X f u h.rises⟩
theorem LX{X:PL}(h:ZH X){p:Pr}(hp:(1<=p.1.length∧p.1.length<=16)∧p.2.length<=32)(hl:(JI X p).length<=60):ZH (JI X p):=⟨hl,EX X p h.pairs hp,Pi X p h.rises⟩
theorem kB(n a b:List UInt8)(w:Zd):XS ⟨n,a,M,b⟩ w=M↔w.name=n∧iP a b w.key=M:=by
 show(tP (n=w.name)&&iP a b w.key)=M↔_;rw[rI,decide_eq_true_iff];exact⟨fun h=>⟨h.1.symm,h.2⟩,fun h=>⟨h.1.symm,h.2⟩⟩
theorem IL{n a b:List UInt8}{w:Zd}(h:XS ⟨n,a,M,b⟩ w=N)(X:PL):K2 n a b X w=X:=by
 rw[K2,if_neg];intro e;rw[(kB n a b w).2 e]at h;cases h
theorem OQ{n a b:List UInt8}{w:Zd}(h:XS ⟨n,a,M,b⟩ w=M)(hg:w.gone=M){X:PL}(hX:ZH X)(hw:QD w=0):Xc X w.key=0∧zX X w.key=K2 n a b X w∧ZH (K2 n a b X w):=by
 have hk:=((XK w).1 hw).2.1;have h0:=vZ hX hk;have e:K2 n a b X w=zV X w.key:=by rw[K2,if_pos ((kB n a b w).1 h),if_pos hg]
 refine⟨h0,by rw[e,zX,if_pos h0],by rw[e];exact Ip hX _⟩
theorem aF{n a b:List UInt8}{w:Zd}(h:XS ⟨n,a,M,b⟩ w=M)(hg:w.gone=N){X:PL}(hX:ZH X)(hw:QD w=0):K2 n a b X w=JI X (w.key,w.value)∧(60<(K2 n a b X w).length->Kh X (w.key,w.value)=11)∧(¬60<(K2 n a b X w).length->Kh X (w.key,w.value)=0∧Vv X (w.key,w.value)=K2 n a b X w∧ZH (K2 n a b X w)):=by
 have hk:=(XK w).1 hw;have hv:w.value.length<=32:=by have:=hk.2.2;rw[hg,if_neg (by decide)]at this;exact this
 have e:K2 n a b X w=JI X (w.key,w.value):=by rw[K2,if_pos ((kB n a b w).1 h),hg,if_neg (by decide)]
 have h0:V1 X (w.key,w.value)=0:=by rw[V1,if_pos ((YP X).2 hX)];exact(JD _).2 ⟨hk.2.1,hv⟩
 refine⟨e,fun hl=>?_,fun hl=>?_⟩;·rw[e]at hl;rw[Kh,if_pos h0,if_pos hl]
 ·rw[e]at hl;(have h1:Kh X (w.key,w.value)=0:=by rw[Kh,if_pos h0,if_neg hl]);refine⟨h1,by rw[e,Vv,if_pos h1],?_⟩;rw[e];exact LX hX ⟨hk.2.1,hv⟩ (by omega)
def JG(n a b:List UInt8)(X:PL)(ws:List Zd):Int×PL:=(kU n a b X ws,if kU n a b X ws=0then Sk n a b X ws else[])
theorem SC(n a b:List UInt8)(X:PL):JG n a b X []=(0,X):=rfl
theorem Pt{n a b:List UInt8}{X:PL}{ws:List Zd}{m:Nat}(hm:m<ws.length)(h:¬60<(K2 n a b X (ws.getD m Qs)).length):JG n a b X (ws.drop m)=JG n a b (K2 n a b X (ws.getD m Qs)) (ws.drop (m+1)):=by
 rw[sV hm,show ws[m]=ws.getD m Qs by simp[hm]];rw[JG,JG,kU,if_neg h];rfl
theorem Ce{n a b:List UInt8}{X:PL}{ws:List Zd}{m:Nat}(hm:m<ws.length)(h:60<(K2 n a b X (ws.getD m Qs)).length):JG n a b X (ws.drop m)=(11,[]):=by
 rw[sV hm,show ws[m]=ws.getD m Qs by simp[hm]];rw[JG,kU,if_pos h,if_neg (by decide)]
theorem cH{l:FL}{t:Tx}{n a b:List UInt8}(h:zY l t≠0):JU l t n a b=zY l t∧VZ l t n a b=[]:=by
 have e:JU l t n a b=zY l t:=by rw[JU,if_neg h]
 exact⟨e,by rw[VZ,e,if_neg h]⟩
theorem Sa{l:FL}{t:Tx}{n a b:List UInt8}(h:zY l t=0)(h1:YF l n a b≠0):JU l t n a b=YF l n a b∧VZ l t n a b=[]:=by
 obtain⟨hf,ht⟩:=Dw h;have hfo:=(X6 l).2 hf;have e:JU l t n a b=YF l n a b:=by(have hE:YF l n a b=if Qt n.length=0then(if Qp a.length=0then Qp b.length else Qp a.length)else Qt n.length:=by rw[YF,qG,if_pos hfo];by_cases hn:Qt n.length=0;(·rw[if_pos hn,if_pos hn,Yz,Xc,if_pos ((YP _).2 (KG hf n))]);·rw[if_neg hn,if_neg hn]);rw[JU,if_pos h,hE];by_cases hn:Qt n.length=0;(·rw[if_pos hn,if_pos hn];by_cases ha:Qp a.length=0;(·rw[if_pos ha,if_pos ha];by_cases hb:Qp b.length=0;(·rw[hE,if_pos hn,if_pos ha]at h1;exact absurd hb h1);·rw[if_neg hb]);·rw[if_neg ha,if_neg ha]);·rw[if_neg hn,if_neg hn]
 exact⟨e,by rw[VZ,e,if_neg h1]⟩
theorem Aj{l:FL}{t:Tx}{n a b:List UInt8}(h:zY l t=0)(h1:YF l n a b=0):JG n a b (Kj l n a b) t.writes=(JU l t n a b,VZ l t n a b)∧ZH (Kj l n a b):=by
 obtain⟨hf,ht⟩:=Dw h;have hfo:=(X6 l).2 hf;have hn:qG l n=0:=by by_cases hn:qG l n=0;(·exact hn);·rw[YF,if_neg hn]at h1;exact absurd h1 hn
 have hr:Yz (YE l n) a b=0:=by rw[YF,if_pos hn]at h1;exact h1
 have hg:=BE hr;have hb:Qp b.length=0:=by rw[Yz,if_pos hg]at hr;exact hr
 have ha:Qp a.length=0:=(Zv _).2 (Ot hg);have hnn:Qt n.length=0:=(ZD _).2 (qY hn).2;have e:Kj l n a b=Vl (YE l n) a b:=by rw[Kj,if_pos hn,KT,if_pos hr]
 have eE:JU l t n a b=kU n a b (Vl (YE l n) a b) t.writes:=by rw[JU,if_pos h,if_pos hnn,if_pos ha,if_pos hb]
 refine⟨?_,by rw[e];exact Dr (KG hf n) a b⟩;rw[e,JG,VZ,eE]
def Wu:Prop:=∀(w:F)(v:H)(t:Tx),GW w v t->xK t->sW O 136 #[v] w fun e w'=>e=tD (Y tC (Gj t))∧L w w' G
def IF:Prop:=∀(w:F)(v:H)(l:PL),Qr w v l->uB l->sW O 52 #[v] w fun e w'=>e=tD (Y tC (QC l))∧L w w' G
theorem FS{w:F}{o:rM}{a:Act}{K:Act->F->Prop}{Q:Exit->Act->F->Prop}(s x:rH)(ho:o.op=.call {callee:=.builtin .append,args:=#[s,x],argTypes:=#[41,41]})(rb base:Nat)(hrb:base<=rb)(v:H)(l:PL)(hs:a.eval s=v)(hown:Ko rb base w v l)(vk vv:H)(p:Pr)(hk:Qh base w vk p.1)(hv:Qh base w vv p.2)(nb:Nat)(hb:w.heap[nb]?=I (S #[vk,vv] 44))(hx:a.eval x=J (I ⟨nb,0,G⟩) 1 1)(hl:(l.length+1)*48<=140737488355328)(hbase:rb<=w.heap.size)(h:∀v' w',Ko rb base w' v' (l++[p])->L w w' v.ownBlock->K (a.put o.dst v') w'):o.wp O a w K Q:=by
 obtain⟨i0,hi,hz0,hz1,hz2⟩:=pA Cp;have hrow:=hown.row hrb;obtain⟨vs,hvl,hr,hp⟩:=hown;refine wp_append_lies w s x 41 ho rb 44 i0 (sU #[J G 0 0,J G 0 0]) 2 48 Tryz.underlying41 hi hz0 hz1 hz2 rfl (by decide) v l.length (flat vs) hs hr ⟨nb,0,G⟩ 1 1 (flat [(vk,vv)]) hx rfl (rB (cs:=#[vk,vv]) hb) ?_ (by omega) (by unfold rV;omega) hl hbase _ rfl ?_;·intro u hu;simp only[flat,tM,rJ,rO,tK,tQ,or_false]at hu;rcases hu with rfl|rfl;(·exact Zw hk);·exact Zw hv
 ·intro g cap w' h1 h2 _ _;refine h _ w' ⟨vs++[(vk,vv)],by simp[hvl],?_,?_⟩ h2;(·rw[JX,tB];exact h1);·intro i hi;rw[Jm,Jm,hvl];by_cases hil:i<l.length;(·rw[if_pos hil,if_pos hil];exact⟨(hp i hil).1.kept h2 hrow,(hp i hil).2.kept h2 hrow⟩);·rw[if_neg hil,if_neg hil];(obtain rfl:i=l.length:=by simp at hi;omega);rw[oE];exact⟨hk.kept h2 hrow,hv.kept h2 hrow⟩
theorem Gg{w:F}{ops:Array rM}{o:rM}{a:Act}{K:Act->F->Prop}{Q:Exit->Act->F->Prop}{E:Prop}(hgd:o.guard=G)(s x:rH)(ho:o.op=.call {callee:=.builtin .append,args:=#[s,x],argTypes:=#[41,41]})(rb base:Nat)(hrb:base<=rb)(v:H)(l:PL)(hs:a.eval s=v)(hown:Ko rb base w v l)(vk vv:H)(p:Pr)(hk:Qh base w vk p.1)(hv:Qh base w vv p.2)(nb:Nat)(hb:w.heap[nb]?=I (S #[vk,vv] 44))(hx:a.eval x=J (I ⟨nb,0,G⟩) 1 1)(hl:(l.length+1)*48<=140737488355328)(hbase:rb<=w.heap.size)(h:∀v' w',Ko rb base w' v' (l++[p])->L w w' v.ownBlock->K (a.put o.dst v') w'):if sF o (pB ops a.tmps)=M then Oper.wp O o a w K Q else E:=by
 have hw:sF o (pB ops a.tmps)=M:=by simp[sF,hgd]
 rw[if_pos hw];exact FS s x ho rb base hrb v l hs hown vk vv p hk hv nb hb hx hl hbase h
theorem RA(w:F):(sizeOf (O.elem 41)).run O w=.ok 2 w:=by
 kernel_rfl
theorem Qr.sliced{w:F}{a:Option sZ}{cap:Nat}{l:PL}(h:Qr w (J a l.length cap) l)(i j:Nat)(hij:i<=j)(hj:j<=l.length):Qr w (sR a i j cap 2) ((l.take j).drop i):=by
 obtain⟨a',cap',e,hc,h⟩:=h;simp only[tG,true_and]at e;obtain⟨rfl,rfl⟩:=e;have hlen:((l.take j).drop i).length=j-i:=by simp;omega
 refine⟨if cap=i then a else a.map (·.add (i*2)),cap-i,by rw[hlen];rfl,by rw[hlen];omega,?_⟩;by_cases hci:cap=i;·left;exact⟨tJ (by rw[hlen];omega),fun _=>by omega⟩
 ·rw[if_neg hci];rcases h with⟨rfl,h⟩|⟨b,o,rfl,h⟩;(·left;refine⟨by simp,fun e=>?_⟩;cases a with|none=>have:=h rfl;simp at hj;omega|some x=>cases e);·right;refine⟨b,o+i*2,by simp[ZM],fun k hk=>?_⟩;rw[hlen]at hk;have:=h (i+k) (by omega);(have e:((l.take j).drop i).getD k ([],[])=l.getD (i+k) ([],[]):=by simp[show i+k<j by omega]);rw[e,show o+i*2+k*2=o+(i+k)*2by omega];exact this
theorem vM(a:Option sZ)(cap:Nat)(l:PL)(n:Nat)(hn:n<=l.length)(hc:l.length<=cap):∃a1 c1,(∀W,(rT 41 (J a l.length cap) G (I (Y tC (n:Int))) G).run O W=.ok (J a1 n c1) W)∧∀W,Qr W (J a l.length cap) l->Qr W (J a1 n c1) (l.take n):=by
 refine⟨if cap=0then a else a.map (·.add (0*2)),cap-0,fun W=>?_,fun W h=>?_⟩;·rw[run_slice_h _ _ _ _ _ (by kernel_rfl) _ _ (by omega) (by omega),RA];simp only[rF,sR,sX,pF]
 ·have:=h.sliced 0 n (by omega) hn;simpa only[sR,oD,pF]using this
theorem v8(a:Option sZ)(cap:Nat)(l:PL)(n:Nat)(hn:n<=l.length):∃a1 c1,(∀W,(rT 41 (J a l.length cap) (I (Y tC (n:Int))) G G).run O W=.ok (J a1 (l.length-n) c1) W)∧∀W,Qr W (J a l.length cap) l->Qr W (J a1 (l.length-n) c1) (l.drop n):=by
 refine⟨if cap=n then a else a.map (·.add (n*2)),cap-n,fun W=>?_,fun W h=>?_⟩;·rw[run_slice_l _ _ _ _ _ (by kernel_rfl) _ _ (by omega) (by omega),RA];simp only[rF,sR,sX]
 ·have:=h.sliced n l.length hn (tZ _);simpa only[sR,sE]using this
theorem NZ(a:Option sZ)(cap:Nat)(l:PL)(i j:Nat)(hij:i<=j)(hj:j<=l.length)(hc:l.length<=cap):∃a1 c1,(∀W,(rT 41 (J a l.length cap) (I (Y tC (i:Int))) (I (Y tC (j:Int))) G).run O W=.ok (J a1 (j-i) c1) W)∧∀W,Qr W (J a l.length cap) l->Qr W (J a1 (j-i) c1) ((l.take j).drop i):=by
 refine⟨if cap=i then a else a.map (·.add (i*2)),cap-i,fun W=>?_,fun W h=>?_⟩;·rw[run_slice_lh _ _ _ _ _ (by kernel_rfl) _ _ _ _ (by omega) (by omega) (by omega),RA];simp only[rF,sR,sX]
 ·have:=h.sliced i j hij hj;simpa only[sR]using this
theorem Qr.cap{w:F}{a:Option sZ}{n cap:Nat}{l:PL}(h:Qr w (J a n cap) l):l.length<=cap:=by
 obtain⟨a',cap',e,hc,_⟩:=h;simp only[tG]at e;obtain⟨_,_,rfl⟩:=e;exact hc
def aE:Prop:=∀(w:F)(v:H)(l:FL),ZC w v l->Ve l->sW O 30 #[v] w fun e w'=>e=tD (Y tC (Q8 l))∧L w w' G
def Dx:Prop:=∀(w:F)(v u:H)(l:FL)(ws:List Zd),ZC w v l->QR w u ws->Ve l->uE ws->sW O 25 #[v,u] w fun e w'=>∃x,e=tD (sI #[x,Y tC (QQ l ws)])∧ZC w' x (Xv l ws)∧L w w' G
theorem ZG.down{base:Nat}{w:F}{v:H}{l:FL}(h:ZG base w v l)(b2:Nat)(hb:b2<=base):ZG b2 w v l:=by
 obtain⟨vs,h1,h2,h3⟩:=h;refine⟨vs,h1,⟨h2.1,?_⟩,h3⟩;rcases h2.2with h|⟨g,cap,cur,e,hb2,rest⟩;·exact .inl h
 ·exact .inr ⟨g,cap,cur,e,tN hb hb2,rest⟩
def yI:Prop:=∀(w:F)(v u:H)(l:FL)(ws:List Zd),ZC w v l->QR w u ws->Ve l->uE ws->sW O 25 #[v,u] w fun e w'=>∃x,e=tD (sI #[x,Y tC (QQ l ws)])∧ZG w.heap.size w' x (Xv l ws)∧L w w' G
theorem yI.ok(h:yI):Dx:=fun w v u l ws h1 h2 h3 h4=>(h w v u l ws h1 h2 h3 h4).mono (by
 rintro e w'⟨x,rfl,hx,hg⟩;exact⟨x,rfl,hx.list,hg⟩)
theorem zD(w:F)(b i:Nat)(u:H):∃W:F,Hid (W=tE w ⟨b,i,G⟩ u)∧L w W (I b):=⟨_,rfl,YL w b i u⟩
theorem zN{w:F}{ops:Array rM}{o:rM}{a:Act}{K:Act->F->Prop}{Q:Exit->Act->F->Prop}{E:Prop}(hgd:o.guard=G)(s x:rH)(ho:o.op=.call {callee:=.builtin .append,args:=#[s,x],argTypes:=#[72,72]})(rb:Nat)(v:H)(l:List Zd)(hs:a.eval s=v)(hown:Q6 rb 0 w v l)(vn vk vv:H)(p:Zd)(h1:Qh 0 w vn p.name)(h2:Qh 0 w vk p.key)(h3:Qh 0 w vv p.value)(nb:Nat)(hb:w.heap[nb]?=I (S #[vn,vk,tL p.gone,vv] 71))(hx:a.eval x=J (I ⟨nb,0,G⟩) 1 1)(hl:(l.length+1)*80<=140737488355328)(hbase:rb<=w.heap.size)(h:∀v' w',Q6 rb 0 w' v' (l++[p])->L w w' v.ownBlock->K (a.put o.dst v') w'):if sF o (pB ops a.tmps)=M then Oper.wp O o a w K Q else E:=by
 have hw:sF o (pB ops a.tmps)=M:=by simp[sF,hgd]
 rw[if_pos hw];obtain⟨i0,hi,hz0,hz1,hz2⟩:=pA aW;have hrow:v.ownBlock=G∨∃g cur t fz,v.ownBlock=I g∧0<=g∧w.heap[g]?=I (S cur t fz)∧t≠5:=by rcases hown.row with h|⟨g,cur,fz,e,_,h⟩;(·exact .inl h);·exact .inr ⟨g,cur,_,fz,e,tR _,h,uA⟩
 obtain⟨us,hul,hr,hp⟩:=hown;refine wp_append_lies w s x 72 ho rb 71 i0 (sU #[J G 0 0,J G 0 0,tL N,J G 0 0]) 4 80 Tryz.underlying72 hi hz0 hz1 hz2 rfl (by decide) v l.length (Y8 us) hs hr ⟨nb,0,G⟩ 1 1 (Y8 [(p,vn,vk,vv)]) hx rfl (rB (cs:=#[vn,vk,tL p.gone,vv]) hb) ?_ (by omega) (by unfold rV;omega) hl hbase _ rfl ?_;·intro u hu;simp only[Y8,tM,rJ,rO,tK,tQ,or_false]at hu;rcases hu with rfl|rfl|rfl|rfl;(·exact Zw h1);(·exact Zw h2);(·rfl);·exact Zw h3
 ·intro g cap w' q1 q2 _ _;refine h _ w' ⟨us++[(p,vn,vk,vv)],by simp[hul],?_,?_⟩ q2;(·rw[uM,tB];exact q1);·intro y hy;rcases sA.1 hy with hy|hy;(·exact⟨(hp y hy).1.keptT q2 hrow,(hp y hy).2.1.keptT q2 hrow,(hp y hy).2.2.keptT q2 hrow⟩);·simp only[tK,tQ,or_false]at hy;subst hy;exact⟨h1.keptT q2 hrow,h2.keptT q2 hrow,h3.keptT q2 hrow⟩
theorem xY{w:F}{ops:Array rM}{o:rM}{a:Act}{K:Act->F->Prop}{Q:Exit->Act->F->Prop}{E:Prop}(hgd:o.guard=G)(s x:rH)(ho:o.op=.call {callee:=.builtin .append,args:=#[s,x],argTypes:=#[105,105]})(rb:Nat)(v:H)(l:List Rd)(hs:a.eval s=v)(hown:ZP rb 0 w v l)(vn vk vv:H)(p:Rd)(h1:Qh 0 w vn p.name)(h2:Qh 0 w vk p.key)(h3:Qh 0 w vv p.last)(nb:Nat)(hb:w.heap[nb]?=I (S #[vn,vk,tL p.wide,vv] 220))(hx:a.eval x=J (I ⟨nb,0,G⟩) 1 1)(hl:(l.length+1)*80<=140737488355328)(hbase:rb<=w.heap.size)(h:∀v' w',ZP rb 0 w' v' (l++[p])->L w w' v.ownBlock->K (a.put o.dst v') w'):if sF o (pB ops a.tmps)=M then Oper.wp O o a w K Q else E:=by
 have hw:sF o (pB ops a.tmps)=M:=by simp[sF,hgd]
 rw[if_pos hw];obtain⟨i0,hi,hz0,hz1,hz2⟩:=pA gP;have hrow:v.ownBlock=G∨∃g cur t fz,v.ownBlock=I g∧0<=g∧w.heap[g]?=I (S cur t fz)∧t≠5:=by rcases hown.row with h|⟨g,cur,fz,e,_,h⟩;(·exact .inl h);·exact .inr ⟨g,cur,_,fz,e,tR _,h,gS⟩
 obtain⟨us,hul,hr,hp⟩:=hown;refine wp_append_lies w s x 105 ho rb 220 i0 (sU #[J G 0 0,J G 0 0,tL N,J G 0 0]) 4 80 Tryz.underlying105 hi hz0 hz1 hz2 rfl (by decide) v l.length (Gs us) hs hr ⟨nb,0,G⟩ 1 1 (Gs [(p,vn,vk,vv)]) hx rfl (rB (cs:=#[vn,vk,tL p.wide,vv]) hb) ?_ (by omega) (by unfold rV;omega) hl hbase _ rfl ?_;·intro u hu;simp only[Gs,tM,rJ,rO,tK,tQ,or_false]at hu;rcases hu with rfl|rfl|rfl|rfl;(·exact Zw h1);(·exact Zw h2);(·rfl);·exact Zw h3
 ·intro g cap w' q1 q2 _ _;refine h _ w' ⟨us++[(p,vn,vk,vv)],by simp[hul],?_,?_⟩ q2;(·rw[Mc,tB];exact q1);·intro y hy;rcases sA.1 hy with hy|hy;(·exact⟨(hp y hy).1.keptT q2 hrow,(hp y hy).2.1.keptT q2 hrow,(hp y hy).2.2.keptT q2 hrow⟩);·simp only[tK,tQ,or_false]at hy;subst hy;exact⟨h1.keptT q2 hrow,h2.keptT q2 hrow,h3.keptT q2 hrow⟩
def aQ:Prop:=∀(w:F)(v:H)(r:Rq),KR w->Xp w v r->yO r->sW O 131 #[v] w fun e w'=>∃x,e=tD (sI #[x,Y tC (Uo r)])∧Yv w' x (Zs r)∧L w w' G
def ZY(K:Int)(n q l v:Nat):Nat->Bool|0=>N|1=>!QT K 0&&tP (0<n)|2=>(!QT K 0&&tP (0<n))||(!QT K 1&&tP (0<q))|3=>((!QT K 0&&tP (0<n))||(!QT K 1&&tP (0<q)))||(!QT K 2&&tP (0<l))|_=>(((!QT K 0&&tP (0<n))||(!QT K 1&&tP (0<q)))||(!QT K 2&&tP (0<l)))||(!QT K 3&&tP (0<v))
def lN(K:Int)(n q l v:Nat):Int:=if(tP (Qt n≠0)&&QT K 0)=M then Qt n else if(tP (Qp q≠0)&&QT K 1)=M then Qp q else if(tP (Qp l≠0)&&QT K 2)=M then Qp l else if 32<v then 1 else if ZY K n q l v 4=M then 4 else 0
theorem gO(r:Rq)(hk:1<=r.kind∧r.kind<=8):Yi r=lN r.kind r.name.length r.key.length r.last.length r.value.length:=by
 rw[Yi,if_pos hk];have hf:Eb r=if ZY r.kind r.name.length r.key.length r.last.length r.value.length 4=M then 4 else 0:=by unfold Eb;by_cases h1:QU r.kind=N∧0<r.name.length+r.key.length;(·rw[if_pos h1,if_pos];by_cases h2:0<r.name.length;(·simp[ZY,QT,h1.1,h2]);·(have h3:0<r.key.length:=by omega);simp[ZY,QT,h1.1,h3]);·rw[if_neg h1];by_cases h2:(r.kind≠3∧0<r.last.length)∨(r.kind≠4∧0<r.value.length);(·rw[if_pos h2,if_pos];rcases h2 with⟨h2,h3⟩|⟨h2,h3⟩;(·simp[ZY,QT,h2,h3]);·simp[ZY,QT,h2,h3]);·rw[if_neg h2,if_neg];intro hb;simp only[ZY,QT,Bool.or_eq_true,rI,Bool.not_eq_true',decide_eq_true_iff,decide_eq_false_iff_not]at hb;rcases hb with((hb|hb)|hb)|hb;(·exact h1 ⟨hb.1,by omega⟩);(·exact h1 ⟨hb.1,by omega⟩);(·exact h2 (.inl hb));·exact h2 (.inr hb)
 rw[hf];unfold yV lN;generalize ZY r.kind r.name.length r.key.length r.last.length r.value.length 4=B;show _=if(tP (Qt r.name.length≠0)&&QU r.kind)=M then _ else if(tP (Qp r.key.length≠0)&&QU r.kind)=M then _ else if(tP (Qp r.last.length≠0)&&tP (r.kind=3))=M then _ else _;have h3:r.kind=3->QU r.kind=M:=fun h=>by rw[h];decide
 generalize Qt r.name.length=A at*;generalize Qp r.key.length=C at*;generalize Qp r.last.length=D at*;cases hN:QU r.kind with|false=>(have h3':¬r.kind=3:=fun h=>by rw[h3 h]at hN;cases hN);simp[h3']|true=>by_cases hA:A=0;(·by_cases hC:C=0;(·by_cases h4:r.kind=3;(·by_cases hD:D=0;(·simp[hA,hC,h4,hD]);·simp[hA,hC,h4,hD]);·simp[hA,hC,h4]);·simp[hA,hC]);·simp[hA]
theorem gD(r:Rq)(hk:¬(1<=r.kind∧r.kind<=8)):Yi r=5:=by
 rw[Yi,if_neg hk]
def LW:Prop:=∀(w:F)(v u a b:H)(l:FL)(t:Tx)(n k:List UInt8),ZC w v l->Ve l->GW w u t->xK t->Qe w a n->Qe w b k->n.length<=140737488355328->k.length<=140737488355328->sW O 119 #[v,u,a,b] w fun e w'=>∃x,e=tD (sI #[sU #[tL (Vh l t n k),x],tL (U6 l t n k),Y tC (Kv l t n k)])∧Qh 0 w' x (UZ l t n k)∧L w w' G
theorem XO{w:F}{b:Nat}{x y:H}{t:tX}(h:w.heap[b]?=I (S #[x,y] t)):w.cell? ⟨b,0,G⟩=I x∧w.cell? ⟨b,1,G⟩=I y∧w.frozen? ⟨b,0,G⟩=N∧w.frozen? ⟨b,1,G⟩=N:=by
 refine⟨?_,?_,?_,?_⟩<;>simp[tS,rW,h]
section
variable{D:List UInt8->List UInt8}{v u:Sv}
theorem DZ(hD:∀x,(D x).length=4)(h:Zb D v)(hs:v.synced=v.commits.length){k:Int}(hk:0<=k):UN D v k=Gb N v.tape v.commits v.out:=by
 obtain⟨j,h1,h2,h3,_⟩:=qO hD h hk;obtain rfl:j=v.commits.length:=by omega
 rw[h3,sE];have hm:=h.mark;rw[hs,sE]at hm;have:(⟨QW D v.commits,((QW D v.commits).length:Int)⟩:V8)=v.tape:=by rw[<-hm,<-h.data]
 rw[this]
end
section
variable{D:List UInt8->List UInt8}{v:Sv}
def eW(s:Nat)(r:Rq):Ac:=⟨1,(s:Int),0,Kb r⟩
def Bq:Ac:=⟨2,0,0,[]⟩
def Te(k:Int):Ac:=⟨3,0,k,[]⟩
def F3:Ac:=⟨4,0,0,[]⟩
def gU(k:Int):Rq:=⟨k,[],[],[],[]⟩
theorem act_ask(v:Sv)(s:Nat){r:Rq}(hr:X8 r):UJ D v (eW s r)=if v.up=N then Zx v (Vj s 13)else Js D v s r:=by
 show(if(1:Int)=1then Xi D v (s:Int).toNat (Kb r)else _)=_;rw[if_pos rfl,sX,Xi,(CD hr).1,(CD hr).2,if_pos rfl]
theorem act_sync(v:Sv):UJ D v Bq=if v.up=M then Vp v else v:=by
 show(if(2:Int)=1then _ else if(2:Int)=2then _ else _)=_;rw[if_neg (by decide),if_pos rfl]
theorem prove_ask(v:Sv)(s:Nat){r:Rq}(hr:X8 r)(hk:r.kind=8):UJ D v (eW s r)=if v.up=N then Zx v (Vj s 13)else Rk v s r:=by
 rw[act_ask v s hr,Js,if_pos hk]
theorem kept_now(n:Nat):Zu (n:Int) (n:Int)=M:=by
 rw[Zu,decide_eq_true_iff];omega
theorem lW{k:Int}(h:k=1∨k=6∨k=7):X8 (gU k):=by
 have hn:QU k=N:=by rcases h with h|h|h<;>subst h<;>decide
 exact⟨by rcases h with h|h|h<;>subst h<;>decide,(fun e=>by rw[show(gU k).kind=k from rfl,hn]at e;cases e),(fun e=>by rw[show(gU k).kind=k from rfl,hn]at e;cases e),(fun e=>by have:k=3:=e;omega),(by decide:(0:Nat)<=32),fun _=>rfl,fun _=>rfl,fun _=>rfl,fun _=>rfl⟩
end
section
structure Se where
  begun : Bool
  start : Int
  writes : List Zd
structure Md where
  ses : Nat -> Se
  states : List FL
variable{D:List UInt8->List UInt8}{v:Sv}{m:Md}
theorem Gv(v:Sv)(n:Nat):Z5 (QE v n):=vA _ _ qM
end
section
variable{D:List UInt8->List UInt8}{v:Sv}{m:Md}
theorem Cb{r:Rq}(hr:X8 r)(hk:r.kind=2∨r.kind=3):(1<=r.name.length∧r.name.length<=8)∧(1<=r.key.length∧r.key.length<=16):=by
 have:QU r.kind=M:=by rcases hk with e|e<;>rw[e]<;>decide
 exact⟨hr.name this,hr.key this⟩
end
def Wy:Prop:=∀(w:F)(v u:H)(t:Tx)(l:List XD),GW w v t->xK t->Jc w u l->Ad l->sW O 140 #[v,u] w fun e w'=>e=tD (sI #[tL (JW t l),Y tC (Tv t)])∧L w w' G
def eA:Prop:=∀(w:F)(v:H)(c:XD),J5 w v c->Ny c->sW O 161 #[v] w fun e w'=>∃x,e=tD (sI #[x,Y tC (QZ c)])∧Qe w' x (TI c)∧L w w' G
def LU:Prop:=∀(w:F)(v:H)(c:XD),J5 w v c->Ny c->sW O 165 #[v] w fun e w'=>e=tD (Y tC (QZ c))∧L w w' G
theorem Tr(w:F):(sizeOf (O.elem 24)).run O w=.ok 1 w:=by
 kernel_rfl
theorem Qe.cap{w:F}{a:Option sZ}{n cap:Nat}{bs:List UInt8}(h:Qe w (J a n cap) bs):bs.length<=cap∧n=bs.length:=by
 obtain⟨a',cap',e,hc,_⟩:=h;simp only[tG]at e;obtain⟨_,rfl,rfl⟩:=e;exact⟨hc,rfl⟩
theorem Qe.byte{w:F}{a:Option sZ}{n cap:Nat}{bs:List UInt8}(h:Qe w (J a n cap) bs)(i:Nat)(hi:i<bs.length):∃b o,a=I ⟨b,o,G⟩∧KP w b o bs:=by
 obtain⟨a',cap',e,hc,h⟩:=h;simp only[tG]at e;obtain⟨rfl,rfl,rfl⟩:=e;rcases h with⟨rfl,_⟩|⟨b,o,rfl,h⟩;·simp at hi
 ·exact⟨b,o,rfl,h⟩
theorem Qe.sliced{w:F}{a:Option sZ}{cap:Nat}{l:List UInt8}(h:Qe w (J a l.length cap) l)(i j:Nat)(hij:i<=j)(hj:j<=l.length):Qe w (sR a i j cap 1) ((l.take j).drop i):=by
 obtain⟨a',cap',e,hc,h⟩:=h;simp only[tG,true_and]at e;obtain⟨rfl,rfl⟩:=e;have hlen:((l.take j).drop i).length=j-i:=by simp;omega
 refine⟨if cap=i then a else a.map (·.add (i*1)),cap-i,by rw[hlen];rfl,by rw[hlen];omega,?_⟩;by_cases hci:cap=i;·left;exact⟨tJ (by rw[hlen];omega),fun _=>by omega⟩
 ·rw[if_neg hci];rcases h with⟨rfl,h⟩|⟨b,o,rfl,h⟩;(·left;refine⟨by simp,fun e=>?_⟩;cases a with|none=>have:=h rfl;simp at hj;omega|some x=>cases e);·right;refine⟨b,o+i,by simp[ZM],fun k hk=>?_⟩;rw[hlen]at hk;have:=h (i+k) (by omega);(have e:((l.take j).drop i).getD k 0=l.getD (i+k) 0:=by simp[show i+k<j by omega]);rw[e,show o+i+k=o+(i+k)by omega];exact this
theorem xE(a:Option sZ)(cap:Nat)(l:List UInt8)(n:Nat)(hn:n<=l.length)(hc:l.length<=cap):∃a1 c1,(∀W,(rT 24 (J a l.length cap) G (I (Y tC (n:Int))) G).run O W=.ok (J a1 n c1) W)∧∀W,Qe W (J a l.length cap) l->Qe W (J a1 n c1) (l.take n):=by
 refine⟨if cap=0then a else a.map (·.add (0*1)),cap-0,fun W=>?_,fun W h=>?_⟩;·rw[run_slice_h _ _ _ _ _ (by kernel_rfl) _ _ (by omega) (by omega),Tr];simp only[rF,sR,sX,pF]
 ·have:=h.sliced 0 n (by omega) hn;simpa only[sR,oD,pF]using this
theorem GO(a:Option sZ)(cap:Nat)(l:List UInt8)(i j:Nat)(hij:i<=j)(hj:j<=l.length)(hc:l.length<=cap):∃a1 c1,(∀W,(rT 24 (J a l.length cap) (I (Y tC (i:Int))) (I (Y tC (j:Int))) G).run O W=.ok (J a1 (j-i) c1) W)∧∀W,Qe W (J a l.length cap) l->Qe W (J a1 (j-i) c1) ((l.take j).drop i):=by
 refine⟨if cap=i then a else a.map (·.add (i*1)),cap-i,fun W=>?_,fun W h=>?_⟩;·rw[run_slice_lh _ _ _ _ _ (by kernel_rfl) _ _ _ _ (by omega) (by omega) (by omega),Tr];simp only[rF,sR,sX]
 ·have:=h.sliced i j hij hj;simpa only[sR]using this
theorem VV(a:Option sZ)(cap:Nat)(l:List UInt8)(n:Nat)(hn:n<=l.length):∃a1 c1,(∀W,(rT 24 (J a l.length cap) (I (Y tC (n:Int))) G G).run O W=.ok (J a1 (l.length-n) c1) W)∧∀W,Qe W (J a l.length cap) l->Qe W (J a1 (l.length-n) c1) (l.drop n):=by
 refine⟨if cap=n then a else a.map (·.add (n*1)),cap-n,fun W=>?_,fun W h=>?_⟩;·rw[run_slice_l _ _ _ _ _ (by kernel_rfl) _ _ (by omega) (by omega),Tr];simp only[rF,sR,sX]
 ·have:=h.sliced n l.length hn (tZ _);simpa only[sR,sE]using this
theorem Cc{ws:List Zd}(hn:ws.length<=1000)(h:∀w∈ws,QD w=0):uE ws:=⟨by
 omega,fun j hj=>by
 have h0:=h ws[j] (sP hj);rw[show ws[j]=ws.getD j Qs by simp[hj]]at h0;have h2:=(XK _).1 h0;have h3:(ws.getD j Qs).value.length<=32:=by have:=h2.2.2;split at this;(·rw[this];simp);·exact this
 exact⟨by omega,by omega,by omega⟩⟩
theorem Dl{c:XD}(h:QZ c=0):Ny c:=by
 obtain⟨h1,h2,h3⟩:=(KW c).1 h;exact⟨by omega,Cc (by omega) h3⟩
def WZ:Prop:=∀(w:F)(v u a b c:H)(l:FL)(t:Tx)(n k m:List UInt8),ZC w v l->Ve l->GW w u t->xK t->Qe w a n->Qe w b k->Qe w c m->n.length<=140737488355328->k.length<=140737488355328->m.length<=140737488355328->sW O 121 #[v,u,a,b,c] w fun e w'=>∃x,e=tD (sI #[x,Y tC (JU l t n k m)])∧QN 0 w' x (VZ l t n k m)∧L w w' G
def Iw:Prop:=∀(w:F)(v u x:H)(l:PL)(f t:List UInt8),Qr w v l->Qe w u f->Qe w x t->uB l->f.length<=140737488355328->t.length<=140737488355328->sW O 154 #[v,u,x] w fun e w'=>∃y,e=tD (sI #[y,Y tC (Yz l f t)])∧QN 0 w' y (KT l f t)∧L w w' G
def W9:Prop:=∀(w:F)(v r u t:H)(l:FL)(n k m:List UInt8),ZC w v l->Qe w r n->Qe w u k->Qe w t m->Ve l->n.length<=140737488355328->k.length<=140737488355328->m.length<=140737488355328->sW O 133 #[v,r,u,t] w fun e w'=>∃x,e=tD (sI #[x,Y tC (YF l n k m)])∧QN 0 w' x (Kj l n k m)∧L w w' G
def N5:Prop:=∀(w:F)(v:H)(bs:List UInt8)(i:Int),Qe w v bs->sW O 97 #[v,Y tC i] w fun e w'=>e=tD (sI #[tL (An bs i).1,Y tC (An bs i).2])∧L w w' G
theorem N5.of(hB:N5)(w:F)(v:H)(k:List UInt8)(i:Nat)(hv:Qe w v k)(hk:1<=k.length∧k.length<=16)(hi:i<145):sW O 97 #[v,Y tC (i:Int)] w fun e w'=>e=tD (sI #[tL (ZU k i),Y tC 0])∧L w w' G:=by
 have:=hB w v k i hv;rw[cU k i hk hi]at this;exact this
def RY:Prop:=∀(w:F)(v u:H)(a b:List UInt8),Qe w v a->Qe w u b->sW O 95 #[v,u] w fun e w'=>e=tD (sI #[Y tC (Tf a b).1,Y tC (Tf a b).2])∧L w w' G
theorem RY.of(hP:RY)(w:F)(v u:H)(a b:List UInt8)(hv:Qe w v a)(hu:Qe w u b)(ha:1<=a.length∧a.length<=16)(hb:1<=b.length∧b.length<=16):sW O 95 #[v,u] w fun e w'=>e=tD (sI #[Y tC (JM a b),Y tC 0])∧L w w' G:=by
 have:=hP w v u a b hv hu;rw[OK a b ha hb]at this;exact this
def Ss:Prop:=∀(w:F)(v u:H)(t:Tx)(r:Zd),GW w v t->xK t->Xb w u r->YQ r->sW O 123 #[v,u] w fun e w'=>∃x,e=tD (sI #[x,Y tC (Z7 t r)])∧GP w' x (Yg t r)∧L w w' G
def L7:Prop:=∀(w:F)(v:H)(r:Rq),KR w->Xp w v r->yO r->sW O 122 #[v] w fun e w'=>∃x,e=tD (sI #[x,Y tC (Jb r)])∧Xb w' x (Xj r)∧L w w' G
def OL:Prop:=∀(w:F)(n t:Int),-9223372036854775808<=n->n<=9223372036854775807->-9223372036854775808<=t->t<=9223372036854775807->sW O 118 #[Y tC n,Y tC t] w fun e w'=>e=tD (tL (Zu n t))∧L w w' G
def bZ:Prop:=∀(w:F)(v:H)(b:List UInt8),KR w->Qe w v b->b.length<=140737488355328->sW O 26 #[v] w fun e w'=>∃x,e=tD (sI #[x,Y tC (QJ b)])∧Xp w' x (Qu b)∧L w w' G
theorem If(b:List UInt8)(n:Nat)(h:n<b.length):Zt (b.drop n)=if n+1+(b.getD n 0).toNat<=b.length then I ((b.take (n+1+(b.getD n 0).toNat)).drop (n+1),b.drop (n+1+(b.getD n 0).toNat))else G:=by
 rw[sV h,Zt,show b[n]=b.getD n 0 by simp[h],pQ];by_cases hc:n+1+(b.getD n 0).toNat<=b.length;·rw[if_pos (by omega),if_pos hc,List.drop_take,List.drop_drop,Nat.add_sub_cancel_left]
 ·rw[if_neg (by omega),if_neg hc]
def Rw(ws:List Zd):Prop:=∀p∈ws,p.name.length<=255∧p.key.length<=255∧p.value.length<=255
theorem C7{ws:List Zd}{p:Zd}(h:Rw ws)(hp:p.name.length<=255∧p.key.length<=255∧p.value.length<=255):Rw (ws++[p]):=fun q hq=>by
 rcases sA.1 hq with hq|hq;·exact h q hq
 ·simp only[tK,tQ,or_false]at hq;rw[hq];exact hp
theorem Wr{b:List UInt8}(h:4000<b.length):YH b=1∧JF b=Zl:=by
 have:YH b=1:=by rw[YH,if_pos h]
 exact⟨this,by rw[JF,this,if_neg (by decide)]⟩
theorem So{b:List UInt8}(h:b.length<4):YH b=14∧JF b=Zl:=by
 have:YH b=14:=by rw[YH,if_neg (by omega),if_pos h]
 exact⟨this,by rw[JF,this,if_neg (by decide)]⟩
theorem L9{b:List UInt8}(h1:¬4000<b.length)(h2:¬b.length<4)(h:G2 b=G):YH b=14∧JF b=Zl:=by
 have:YH b=14:=by rw[YH,if_neg h1,if_neg h2,h]
 exact⟨this,by rw[JF,this,if_neg (by decide)]⟩
theorem LR{b r:List UInt8}{ws:List Zd}(h1:¬4000<b.length)(h2:¬b.length<4)(h:G2 b=I (ws,r))(hr:r.length≠0):YH b=4∧JF b=Zl:=by
 have:YH b=4:=by rw[YH,if_neg h1,if_neg h2,h];show(if r.length=0then _ else(4:Int))=4;rw[if_neg hr]
 exact⟨this,by rw[JF,this,if_neg (by decide)]⟩
theorem WK{b r:List UInt8}{ws:List Zd}(h1:¬4000<b.length)(h2:¬b.length<4)(h:G2 b=I (ws,r))(hr:r.length=0):YH b=QZ ⟨(Gd b:Int),ws⟩∧(YH b=0->JF b=⟨(Gd b:Int),ws⟩)∧(YH b≠0->JF b=Zl):=by
 have:YH b=QZ ⟨(Gd b:Int),ws⟩:=by rw[YH,if_neg h1,if_neg h2,h];show(if r.length=0then _ else(4:Int))=_;rw[if_pos hr]
 refine⟨this,fun h0=>?_,fun h0=>?_⟩;·rw[JF,if_pos h0,h]
 ·rw[JF,if_neg h0]
def Xg(k:Int)(m:Nat)(p0 p1 p2 p3 r:List UInt8):Option (Rq×List UInt8):=match m with|0=>Yd k r|1=>Vq k p0 r|2=>Vs k p0 p1 r|3=>Vr k p0 p1 p2 r|_=>I (⟨k,p0,p1,p2,p3⟩,r)
theorem J4(r:List UInt8):Jl M r=Zt r:=rfl
theorem yX(r:List UInt8)(h:r.length=0):Zt r=G:=by
 rw[tJ h];rfl
theorem uH(r:List UInt8)(h:0<r.length):Zt r=if 1+(r.getD 0 0).toNat<=r.length then I ((r.take (1+(r.getD 0 0).toNat)).drop 1,r.drop (1+(r.getD 0 0).toNat))else G:=by
 have:=If r 0 h;rw[sO]at this;exact this
theorem qH(k:Int)(p0 p1 p2 p3 r:List UInt8):(QT k 0=N->Xg k 0 p0 p1 p2 p3 r=Xg k 1 [] p1 p2 p3 r)∧(QT k 1=N->Xg k 1 p0 p1 p2 p3 r=Xg k 2 p0 [] p2 p3 r)∧(QT k 2=N->Xg k 2 p0 p1 p2 p3 r=Xg k 3 p0 p1 [] p3 r)∧(QT k 3=N->Xg k 3 p0 p1 p2 p3 r=Xg k 4 p0 p1 p2 [] r):=by
 refine⟨fun h=>?_,fun h=>?_,fun h=>?_,fun h=>?_⟩;·show Yd k r=Vq k [] r;rw[Yd,show QU k=N from h];rfl
 ·show Vq k p0 r=Vs k p0 [] r;rw[Vq,show QU k=N from h];rfl
 ·show Vs k p0 p1 r=Vr k p0 p1 [] r;rw[Vs,show tP (k=3)=N from h];rfl
 ·show Vr k p0 p1 p2 r=I (⟨k,p0,p1,p2,[]⟩,r);rw[Vr,show tP (k=4)=N from h];rfl
theorem Ge(k:Int)(p0 p1 p2 p3 r:List UInt8)(h0:Zt r=G)(m:Nat)(hm:m<4)(h:QT k m=M):Xg k m p0 p1 p2 p3 r=G:=by
 match m,hm with|0,_=>show Yd k r=G;rw[Yd,show QU k=M from h,J4,h0]|1,_=>show Vq k p0 r=G;rw[Vq,show QU k=M from h,J4,h0]|2,_=>show Vs k p0 p1 r=G;rw[Vs,show tP (k=3)=M from h,J4,h0]|3,_=>show Vr k p0 p1 p2 r=G;rw[Vr,show tP (k=4)=M from h,J4,h0]
theorem Gf(k:Int)(p0 p1 p2 p3 r p r2:List UInt8)(h0:Zt r=I (p,r2)):(QT k 0=M->Xg k 0 p0 p1 p2 p3 r=Xg k 1 p p1 p2 p3 r2)∧(QT k 1=M->Xg k 1 p0 p1 p2 p3 r=Xg k 2 p0 p p2 p3 r2)∧(QT k 2=M->Xg k 2 p0 p1 p2 p3 r=Xg k 3 p0 p1 p p3 r2)∧(QT k 3=M->Xg k 3 p0 p1 p2 p3 r=Xg k 4 p0 p1 p2 p r2):=by
 refine⟨fun h=>?_,fun h=>?_,fun h=>?_,fun h=>?_⟩;·show Yd k r=Vq k p r2;rw[Yd,show QU k=M from h,J4,h0]
 ·show Vq k p0 r=Vs k p0 p r2;rw[Vq,show QU k=M from h,J4,h0]
 ·show Vs k p0 p1 r=Vr k p0 p1 p r2;rw[Vs,show tP (k=3)=M from h,J4,h0]
 ·show Vr k p0 p1 p2 r=I (⟨k,p0,p1,p2,p⟩,r2);rw[Vr,show tP (k=4)=M from h,J4,h0]
def Wt(k:Int)(b:List UInt8):Int:=match Yd k b with|none=>14|I (_,x)=>if x.length=0then 0 else 4
def TL(k:Int)(b:List UInt8):Rq:=match Yd k b with|none=>V9|I (r,x)=>if x.length=0then r else V9
theorem F1{k:Int}{b:List UInt8}(h:Yd k b=G):Wt k b=14∧TL k b=V9:=by
 unfold Wt TL;rw[h];exact⟨rfl,rfl⟩
theorem F7{k:Int}{b x:List UInt8}{r:Rq}(h:Yd k b=I (r,x))(hx:0<x.length):Wt k b=4∧TL k b=V9:=by
 unfold Wt TL;rw[h];exact⟨if_neg (by omega),if_neg (by omega)⟩
theorem FZ{k:Int}{b x:List UInt8}{r:Rq}(h:Yd k b=I (r,x))(hx:x.length=0):Wt k b=0∧TL k b=r:=by
 unfold Wt TL;rw[h];exact⟨if_pos hx,if_pos hx⟩
theorem dE{k:Int}{b:List UInt8}(h:Wt k b=0):(TL k b).kind=k:=by
 match hD:Yd k b with|none=>rw[(F1 hD).1]at h;cases h|I (r,x)=>by_cases hx:x.length=0;(·rw[(FZ hD hx).2];exact(TG hD).2);·rw[(F7 hD (by omega)).1]at h;cases h
theorem cY{b:List UInt8}(h1:¬4000<b.length)(h2:¬b.length=0)(hk:1<=Uv b∧Uv b<=8):QJ b=(if Wt (Uv b) (b.drop 1)=0then Yi (TL (Uv b) (b.drop 1))else Wt (Uv b) (b.drop 1))∧(QJ b=0->Qu b=TL (Uv b) (b.drop 1)):=by
 match hD:Yd (Uv b) (b.drop 1)with|none=>obtain⟨e1,e2⟩:=F1 hD;(have:QJ b=14:=by rw[QJ,if_neg h1,if_neg h2,if_pos hk,hD]);rw[e1,this];exact⟨rfl,fun h=>by cases h⟩|I (r,x)=>(have hw:QJ b=if x.length=0then Yi r else 4:=by rw[QJ,if_neg h1,if_neg h2,if_pos hk,hD]);by_cases hx:x.length=0;(·obtain⟨e1,e2⟩:=FZ hD hx;rw[if_pos hx]at hw;rw[e1,e2,if_pos rfl];exact⟨hw,fun h=>by rw[Qu,if_pos h,hD]⟩);·obtain⟨e1,e2⟩:=F7 hD (by omega);rw[if_neg hx]at hw;rw[e1,hw];exact⟨rfl,fun h=>by cases h⟩
theorem bY{k:Int}{b:List UInt8}(hb:b.length<=4000):(TL k b).name.length<=4000∧(TL k b).key.length<=4000∧(TL k b).last.length<=4000∧(TL k b).value.length<=4000:=by
 match hD:Yd k b with|none=>rw[(F1 hD).2];simp[V9]|I (r,x)=>by_cases hx:x.length=0;(·rw[(FZ hD hx).2];obtain⟨_,r1,r2,r3,h1,h2,h3,h4⟩:=kV hD;(have key:∀{c:Bool}{r p r2:List UInt8},Jl c r=I (p,r2)->p.length<=r.length∧r2.length<=r.length:=by intro c r p r2 h;have hf:=VT h;cases c with|false=>have:=WG h rfl;subst this;rw[hf];exact⟨tR _,by simp[Xn]⟩|true=>rw[hf];simp[Xn,XM];omega);have a1:=key h1;have a2:=key h2;have a3:=key h3;have a4:=key h4;omega);·rw[(F7 hD (by omega)).2];simp[V9]
structure Vx where
  rest : List UInt8
  short : Bool
def FF(r:Vx)(n:Nat):List UInt8:=if r.short=M∨r.rest.length<n then[]else r.rest.take n
def Bw(r:Vx)(n:Nat):Vx:=if r.short=M∨r.rest.length<n then⟨r.rest,M⟩else⟨r.rest.drop n,N⟩
theorem Td{r:Vx}{n:Nat}(h:r.short=M∨r.rest.length<n):FF r n=[]∧Bw r n=⟨r.rest,M⟩:=⟨if_pos h,if_pos h⟩
theorem vK{r:Vx}{n:Nat}(h:¬(r.short=M∨r.rest.length<n)):FF r n=r.rest.take n∧Bw r n=⟨r.rest.drop n,N⟩:=⟨if_neg h,if_neg h⟩
theorem bS(r:Vx)(n:Nat):(FF r n).length<=n:=by
 unfold FF;split;·simp
 ·rw[rX];omega
def Xe(r:Vx):Vx:=Bw r 1
def JH(r:Vx):Nat:=if(Xe r).short=M then 0 else((FF r 1).getD 0 0).toNat
theorem Yp(r:Vx):JH r<256:=by
 unfold JH;split;·omega
 ·exact((FF r 1).getD 0 0).toNat_lt
theorem YY(x:UInt8)(l:List UInt8):Xe ⟨x::l,N⟩=⟨l,N⟩∧JH ⟨x::l,N⟩=x.toNat:=by
 have h:¬((⟨x::l,N⟩:Vx).short=M∨(⟨x::l,N⟩:Vx).rest.length<1):=by simp
 obtain⟨h1,h2⟩:=vK h;have h3:Xe ⟨x::l,N⟩=⟨l,N⟩:=h2;refine⟨h3,?_⟩;rw[JH,h3,h1,if_neg (by simp)];rfl
theorem Pf{r:Vx}(h:r.short=M)(n:Nat):(Bw r n).short=M:=by
 rw[(Td (.inl h)).2]
theorem Kg{r:Vx}(h:r.short=M):(Xe r).short=M:=Pf h 1
theorem yQ:(Xe ⟨[],N⟩).short=M:=rfl
def La(r:Vx):List UInt8:=FF (Xe r) (JH r)
def KM(r:Vx):Vx:=Bw (Xe r) (JH r)
theorem VJ{r:Vx}(h:r.short=M):(KM r).short=M:=Pf (Kg h) _
theorem vW{l p l2:List UInt8}(h:Zt l=I (p,l2)):La ⟨l,N⟩=p∧KM ⟨l,N⟩=⟨l2,N⟩:=by
 cases l with|nil=>cases h|cons x l=>rw[Zt]at h;obtain⟨h1,h2⟩:=YY x l;unfold La KM;rw[h1,h2];by_cases hx:x.toNat<=l.length;(·rw[if_pos hx]at h;simp only[tA,rU]at h;obtain⟨rfl,rfl⟩:=h;exact vK (by simp;omega));·rw[if_neg hx]at h;cases h
theorem F2{l:List UInt8}(h:Zt l=G):(KM ⟨l,N⟩).short=M:=by
 cases l with|nil=>exact Pf yQ _|cons x l=>rw[Zt]at h;obtain⟨h1,h2⟩:=YY x l;unfold KM;rw[h1,h2];by_cases hx:x.toNat<=l.length;(·rw[if_pos hx]at h;cases h);·rw[(Td (.inr (by show l.length<x.toNat;omega))).2]
theorem Rr(r:Vx):(La r).length<=255:=tN (bS _ _) (pR (Yp r))
def Tg(r:Vx):Zd:=if JH (KM (KM r))=255then⟨La r,La (KM r),[],M⟩else⟨La r,La (KM r),La (KM (KM r)),N⟩
def Bo(r:Vx):Vx:=if JH (KM (KM r))=255then Xe (KM (KM r))else KM (KM (KM r))
theorem Co{r:Vx}(h:r.short=M):(Bo r).short=M:=by
 unfold Bo;split;·exact Kg (VJ (VJ h))
 ·exact VJ (VJ (VJ h))
theorem Rg{r:Vx}(h:(KM (KM r)).short=M):(Bo r).short=M:=by
 unfold Bo;split;·exact Kg h
 ·exact VJ h
theorem dB{l l2:List UInt8}{p:Zd}(h:Jd l=I (p,l2)):Tg ⟨l,N⟩=p∧Bo ⟨l,N⟩=⟨l2,N⟩:=by
 unfold Jd at h;cases h1:Zt l with|none=>rw[h1]at h;cases h|some q=>obtain⟨n,la⟩:=q;rw[h1]at h;have h:MS n la=I (p,l2):=h;unfold MS at h;obtain⟨a1,a2⟩:=vW h1;cases h2:Zt la with|none=>rw[h2]at h;cases h|some q=>obtain⟨k,lb⟩:=q;rw[h2]at h;have h:uT n k lb=I (p,l2):=h;unfold uT at h;obtain⟨b1,b2⟩:=vW h2;unfold Tg Bo;rw[a1,a2,b1,b2];cases lb with|nil=>cases h|cons x lb=>obtain⟨c1,c2⟩:=YY x lb;by_cases hx:(x::lb).head?=I 255;(·rw[if_pos hx]at h;simp only[tA,rU]at h;obtain⟨rfl,rfl⟩:=h;have:x=255:=oG hx;subst this;rw[c2,c1,if_pos (by rfl),if_pos (by rfl)];exact⟨rfl,rfl⟩);·rw[if_neg hx]at h;have hne:¬x.toNat=255:=fun e=>hx (by rw[show x=255from pS.1 e];rfl);rw[c2,if_neg hne,if_neg hne];cases h3:Zt (x::lb)with|none=>rw[h3]at h;cases h|some q=>obtain⟨v,lc⟩:=q;rw[h3]at h;simp only[tA,rU]at h;obtain⟨rfl,rfl⟩:=h;obtain⟨d1,d2⟩:=vW h3;rw[d1,d2];exact⟨rfl,rfl⟩
theorem cK{l:List UInt8}(h:Jd l=G):(Bo ⟨l,N⟩).short=M:=by
 unfold Jd at h;cases h1:Zt l with|none=>exact Rg (VJ (F2 h1))|some q=>obtain⟨n,la⟩:=q;rw[h1]at h;have h:MS n la=G:=h;unfold MS at h;obtain⟨a1,a2⟩:=vW h1;cases h2:Zt la with|none=>exact Rg (by rw[a2];exact F2 h2)|some q=>obtain⟨k,lb⟩:=q;rw[h2]at h;have h:uT n k lb=G:=h;unfold uT at h;obtain⟨b1,b2⟩:=vW h2;unfold Bo;rw[a2,b2];cases lb with|nil=>split;(·exact yQ);·exact F2 rfl|cons x lb=>obtain⟨c1,c2⟩:=YY x lb;by_cases hx:(x::lb).head?=I 255;(·rw[if_pos hx]at h;cases h);·rw[if_neg hx]at h;have hne:¬x.toNat=255:=fun e=>hx (by rw[show x=255from pS.1 e];rfl);rw[c2,if_neg hne];cases h3:Zt (x::lb)with|none=>exact F2 h3|some q=>obtain⟨v,lc⟩:=q;rw[h3]at h;cases h
theorem Od(r:Vx):(Tg r).name.length<=255∧(Tg r).key.length<=255∧(Tg r).value.length<=255:=by
 unfold Tg;split;·exact⟨Rr _,Rr _,by simp⟩
 ·exact⟨Rr _,Rr _,Rr _⟩
def UF:Nat->Vx->Vx|0,r=>r|n+1,r=>Bo (UF n r)
def Uz:Nat->Vx->List Zd|0,_=>[]|n+1,r=>Uz n r++[Tg (UF n r)]
theorem M5:∀(n:Nat)(r:Vx),(Uz n r).length=n|0,_=>rfl|n+1,r=>by rw[Uz,tB,M5 n r];rfl
theorem Ng:∀(n:Nat)(r:Vx),Rw (Uz n r)|0,_=>fun p hp=>by simp[Uz]at hp|n+1,r=>C7 (Ng n r) (Od _)
theorem Na:∀(n:Nat){r:Vx},r.short=M->(UF n r).short=M|0,_,h=>h|n+1,_,h=>Co (Na n h)
theorem vI:∀(n:Nat){l l2:List UInt8}{ws:List Zd},ZW n l=I (ws,l2)->Uz n ⟨l,N⟩=ws∧UF n ⟨l,N⟩=⟨l2,N⟩|0,l,l2,ws,h=>by rw[ZW]at h;simp only[tA,rU]at h;obtain⟨rfl,rfl⟩:=h;exact⟨rfl,rfl⟩|n+1,l,l2,ws,h=>by rw[xG]at h;cases h1:ZW n l with|none=>rw[h1]at h;cases h|some q=>obtain⟨ws1,l1⟩:=q;rw[h1]at h;have h:(match Jd l1 with|I (w,r2)=>I (ws1++[w],r2)|none=>G)=I (ws,l2):=h;obtain⟨e1,e2⟩:=vI n h1;cases h2:Jd l1 with|none=>rw[h2]at h;cases h|some q=>obtain⟨p,l3⟩:=q;rw[h2]at h;simp only[tA,rU]at h;obtain⟨rfl,rfl⟩:=h;obtain⟨d1,d2⟩:=dB h2;rw[Uz,UF,e1,e2,d1,d2];exact⟨rfl,rfl⟩
theorem Cg:∀(n:Nat){l:List UInt8},ZW n l=G->(UF n ⟨l,N⟩).short=M|0,l,h=>by rw[ZW]at h;cases h|n+1,l,h=>by rw[xG]at h;cases h1:ZW n l with|none=>exact Co (Cg n h1)|some q=>obtain⟨ws1,l1⟩:=q;rw[h1]at h;have h:(match Jd l1 with|I (w,r2)=>I (ws1++[w],r2)|none=>G)=G:=h;obtain⟨e1,e2⟩:=vI n h1;cases h2:Jd l1 with|none=>rw[UF,e2];exact cK h2|some q=>obtain⟨p,l3⟩:=q;rw[h2]at h;cases h
def EA(r:Vx):Vx:=UF (JH (Xe (Xe (Xe r)))) (Xe (Xe (Xe (Xe r))))
def EM(r:Vx):XD:=⟨((65536*JH r+256*JH (Xe r)+JH (Xe (Xe r)):Nat):Int),Uz (JH (Xe (Xe (Xe r)))) (Xe (Xe (Xe (Xe r))))⟩
theorem DM(r:Vx):Rw (EM r).writes∧(EM r).writes.length<=255:=⟨Ng _ _,by
 show(Uz _ _).length<=255;rw[M5];exact pR (Yp _)⟩
theorem LA(b:List UInt8)(h:¬b.length<4):JH ⟨b,N⟩=(b.getD 0 0).toNat∧JH (Xe ⟨b,N⟩)=(b.getD 1 0).toNat∧JH (Xe (Xe ⟨b,N⟩))=(b.getD 2 0).toNat∧JH (Xe (Xe (Xe ⟨b,N⟩)))=(b.getD 3 0).toNat∧Xe (Xe (Xe (Xe ⟨b,N⟩)))=⟨b.drop 4,N⟩:=by
 match b,h with|[],h=>exact absurd (by simp) h|[_],h=>exact absurd (by simp) h|[_,_],h=>exact absurd (by simp) h|[_,_,_],h=>exact absurd (by simp) h|x0::x1::x2::x3::b,_=>obtain⟨a1,a2⟩:=YY x0 (x1::x2::x3::b);obtain⟨b1,b2⟩:=YY x1 (x2::x3::b);obtain⟨c1,c2⟩:=YY x2 (x3::b);obtain⟨d1,d2⟩:=YY x3 b;rw[a1,b1,c1,d1];exact⟨a2,b2,c2,d2,rfl⟩
theorem gL(b:List UInt8)(h:b.length<4):(EA ⟨b,N⟩).short=M:=by
 unfold EA;refine Na _ ?_;match b,h with|[],_=>exact Kg (Kg (Kg yQ))|[x],_=>rw[(YY x []).1];exact Kg (Kg yQ)|[x,y],_=>rw[(YY x [y]).1,(YY y []).1];exact Kg yQ|[x,y,z],_=>rw[(YY x [y,z]).1,(YY y [z]).1,(YY z []).1];exact yQ|_::_::_::_::_,h=>exact absurd h (by simp only[sD];omega)
theorem I6{b:List UInt8}(h0:¬4000<b.length)(h:(EA ⟨b,N⟩).short=M):YH b=14∧JF b=Zl:=by
 by_cases h4:b.length<4;·exact So h4
 ·obtain⟨_,_,_,e3,e4⟩:=LA b h4;cases hb:G2 b with|none=>exact L9 h0 h4 hb|some q=>obtain⟨ws,l⟩:=q;obtain⟨_,e5⟩:=vI _ hb;unfold EA at h;rw[e3,e4,e5]at h;cases h
theorem Dy{b:List UInt8}(h:(EA ⟨b,N⟩).short=N):¬b.length<4∧G2 b=I ((EM ⟨b,N⟩).writes,(EA ⟨b,N⟩).rest)∧(Gd b:Int)=(EM ⟨b,N⟩).turn:=by
 by_cases h4:b.length<4;·rw[gL b h4]at h;cases h
 ·obtain⟨e0,e1,e2,e3,e4⟩:=LA b h4;refine⟨h4,?_,?_⟩;(·cases hb:G2 b with|none=>have:=Cg _ hb;unfold EA at h;rw[e3,e4,this]at h;cases h|some q=>obtain⟨ws,l⟩:=q;obtain⟨e5,e6⟩:=vI _ hb;unfold EA EM;rw[e3,e4,e5,e6]);·unfold EM;rw[e0,e1,e2];rfl
theorem eJ{b:List UInt8}(h0:¬4000<b.length)(h:(EA ⟨b,N⟩).short=N)(hr:(EA ⟨b,N⟩).rest.length≠0):YH b=4∧JF b=Zl:=by
 obtain⟨h4,hb,_⟩:=Dy h;exact LR h0 h4 hb hr
theorem dV{b:List UInt8}(h0:¬4000<b.length)(h:(EA ⟨b,N⟩).short=N)(hr:(EA ⟨b,N⟩).rest.length=0):YH b=QZ (EM ⟨b,N⟩)∧(YH b=0->JF b=EM ⟨b,N⟩)∧(YH b≠0->JF b=Zl):=by
 obtain⟨h4,hb,ht⟩:=Dy h;have:=WK h0 h4 hb hr;rw[ht]at this;exact this
theorem ZK(w:F)(o:Obj):∃W:F,Hid (W=w.alloc o)∧L w W G∧Hid (W.heap[w.heap.size]?=I o):=⟨w.alloc o,rfl,sN _ _ _,oF w o⟩
theorem kE(w:F)(b i:Nat)(u:H):∃W:F,Hid (W=tE w ⟨b,i,G⟩ u)∧L w W (I b):=⟨_,rfl,YL w b i u⟩
theorem lO:(251:Nat)≠5:=by
 decide
theorem eX:(251:Nat)≠71:=by
 decide
theorem Qe.rdr{w w':F}{b:Nat}{a0:Option sZ}{n0 c0:Nat}{s:Bool}{t:tX}{v:H}{bs:List UInt8}(h:Qe w v bs)(hb:w.heap[b]?=I (S #[J a0 n0 c0,tL s] t))(hg:L w w' (I b)):Qe w' v bs:=by
 obtain⟨a,cap,rfl,hc,h⟩:=h;refine⟨a,cap,rfl,hc,?_⟩;rcases h with h|⟨pb,o,rfl,h⟩;·exact .inl h
 ·by_cases h0:bs=[];(·exact .inl ⟨h0,fun e=>by cases e⟩);·refine .inr ⟨pb,o,rfl,h.grown hg ?_⟩;intro e;cases e;have hc0:=h 0 (rS.2 h0);simp only[tS,hb,Nat.add_zero]at hc0;match o,hc0 with|0,hc0=>simp at hc0|1,hc0=>simp at hc0|o+2,hc0=>simp at hc0
structure Zf (w0 w : F) (b : Nat) (r : Vx) : Prop where
  at_ : ∃ a cap, w.heap[b]? = I (S #[J a r.rest.length cap, tL r.short] 251) ∧ Qe w0 (J a r.rest.length cap) r.rest
  old : ∃ a n c s, w0.heap[b]? = I (S #[J a n c, tL s] 251)
  grown : L w0 w (I b)
theorem Zf.lt{w0 w:F}{b:Nat}{r:Vx}(h:Zf w0 w b r):b<w.heap.size:=by
 obtain⟨a,cap,h,_⟩:=h.at_;exact(tI.1 h).1
theorem Zf.now{w0 w:F}{b:Nat}{r:Vx}(h:Zf w0 w b r){v:H}{bs:List UInt8}(hv:Qe w0 v bs):Qe w v bs:=by
 obtain⟨a,n,c,s,h0⟩:=h.old;exact hv.rdr h0 h.grown
theorem Zf.row{w0 w:F}{b:Nat}{r:Vx}(h:Zf w0 w b r):I b=G∨∃g cur t fz,I b=I g∧0<=g∧w.heap[g]?=I (S cur t fz)∧t≠5:=by
 obtain⟨a,cap,h,_⟩:=h.at_;exact .inr ⟨b,_,_,_,rfl,tR _,h,lO⟩
theorem Qh.rdr{w0 w w':F}{b:Nat}{r:Vx}{v:H}{bs:List UInt8}(h:Qh 0 w v bs)(hb:Zf w0 w b r)(hg:L w w' (I b)):Qh 0 w' v bs:=h.keptT hg hb.row
theorem Xq{w w':F}(hg:L w w' G)(r:Option Nat):L w w' r:=⟨hg.os,hg.tape,hg.output,hg.size,fun i hi _=>hg.block i hi (by
 simp)⟩
theorem Zf.kept{w0 w w':F}{b:Nat}{r:Vx}(h:Zf w0 w b r)(hg:L w w' G):Zf w0 w' b r:=by
 have hl:=h.lt;obtain⟨a,cap,h1,hs⟩:=h.at_;exact⟨⟨a,cap,by rw[hg.block b hl (by simp)];exact h1,hs⟩,h.old,Qa h.grown (Xq hg _)⟩
theorem Xd{w w':F}{b:Nat}(hg:L w w' (I b)){c:Nat}{o:Obj}(hc:w.heap[c]?=I o)(hne:c≠b):w'.heap[c]?=I o:=by
 rw[hg.block c (tI.1 hc).1 (by simpa using hne)];exact hc
theorem Zf.apart{w0 w w':F}{b:Nat}{r:Vx}(h:Zf w0 w b r){c:Nat}(hne:b≠c)(hc:w0.heap.size<=c)(hg:L w w' (I c)):Zf w0 w' b r:=by
 have hl:=h.lt;obtain⟨a,cap,h1,hs⟩:=h.at_;exact⟨⟨a,cap,by rw[hg.block b hl (by simpa using hne)];exact h1,hs⟩,h.old,JB h.grown hc hg⟩
theorem Q6.rdr{rb:Nat}{w0 w w':F}{b:Nat}{r:Vx}{v:H}{l:List Zd}(h:Q6 rb 0 w v l)(hb:Zf w0 w b r)(hg:L w w' (I b)):Q6 rb 0 w' v l:=by
 obtain⟨a,cap,h0,_⟩:=hb.at_;exact h.kept hg (.inr (h.ne h0 eX)) hb.row
theorem Zf.ownV{rb:Nat}{w0 w w':F}{b:Nat}{r:Vx}{v:H}{l:List Zd}(h:Zf w0 w b r)(ho:Q6 rb 0 w v l)(hb:w0.heap.size<=rb)(hg:L w w' v.ownBlock):Zf w0 w' b r:=by
 obtain⟨a,cap,h1,hs⟩:=h.at_;have hne:=ho.ne h1 eX;cases hv:v.ownBlock with|none=>rw[hv]at hg;exact h.kept hg|some g=>rw[hv]at hg hne;exact h.apart (c:=g) (fun e=>hne (by rw[e])) (tN hb (ho.lt g hv).1) hg
section
open Go.ChangeShapes Go.WideShapes Go.ChangeAt Go.RowKit
theorem own:ownKnob O.godebug=G:=by
 kernel_rfl
theorem lZ:laidOutB O=M:=by
 kernel_rfl
def fN(k:IntKind)(w:F)(a:Option sZ)(len cap:Nat)(zs:List Int):Prop:=(a=G∧len=0∧cap=0∧zs=[])∨∃x,a=I x∧len<=cap∧cap<=rV∧zs.length=cap∧(∀i,i<zs.length->w.cell? (x.add i)=I (Y k (zs.getD i 0)))∧∀n∈zs,(Lit.int k n).wf=M
theorem fJ{w:F}{a:Option sZ}{len cap:Nat}{zs:List Int}(h:fN r7 w a len cap zs):∃bs:List UInt8,bs.length=len∧len<=rV∧Qe w (J a len cap) bs:=by
 rcases h with⟨rfl,rfl,rfl,rfl⟩|⟨x,rfl,hl,hm,hz,hc,hw⟩;·exact⟨[],rfl,by unfold rV;omega,Qw w⟩
 ·(have hlen:((zs.take len).map fun z=>sG z.toNat).length=len:=by simp;omega);refine⟨(zs.take len).map fun z=>sG z.toNat,hlen,by omega,_,cap,by rw[hlen],by omega,?_⟩;by_cases h0:len=0;(·subst h0;exact .inl ⟨by simp,fun h=>by cases h⟩);·obtain⟨b,o,sp⟩:=x;have h00:=hc 0 (by omega);(obtain rfl:sp=G:=by cases sp with|none=>rfl|some q=>simp[Addr.add,tS]at h00;split at h00<;>simp at h00);refine .inr ⟨b,o,rfl,fun i hi=>?_⟩;rw[hlen]at hi;(have hi2:i<zs.length:=by omega);have:=hc i hi2;rw[ZM]at this;rw[this];have hwf:=hw (zs.getD i 0) (by simp[hi2]);have hb:=bounds_u8 hwf;simp[hi,hi2]at hb⊢;omega
theorem YA{n:Int}(h:(Lit.int tC n).wf=M):-9223372036854775808<=n∧n<=9223372036854775807:=bounds_i64 h
theorem l5{n:Int}(h:(Lit.int r7 n).wf=M):∃c:UInt8,n=(c.toNat:Int):=by
 have hb:=bounds_u8 h;exact⟨sG n.toNat,by simp;omega⟩
theorem l8:O.bytesOf 5=1:=by
 kernel_rfl
theorem i6{w w':F}(h:L w w' G):Below w.heap.size w w':=⟨h.os,h.tape,h.output,h.size,fun k hk=>h.block k hk (by
 simp)⟩
end
structure Pg(g:Gr):Prop where kind:-9223372036854775808<=g.kind∧g.kind<=9223372036854775807sess:-9223372036854775808<=g.sess∧g.sess<=9223372036854775807name:-9223372036854775808<=g.name∧g.name<=9223372036854775807key:-9223372036854775808<=g.key∧g.key<=9223372036854775807value:-9223372036854775808<=g.value∧g.value<=9223372036854775807
def bK(w:F)(b o:Nat)(g:Gr):Prop:=w.cell? ⟨b,o,G⟩=I (Y tC g.kind)∧w.cell? ⟨b,o+1,G⟩=I (Y tC g.sess)∧w.cell? ⟨b,o+2,G⟩=I (Y tC g.name)∧w.cell? ⟨b,o+3,G⟩=I (Y tC g.key)∧w.cell? ⟨b,o+4,G⟩=I (Y tC g.value)
theorem bK.grown{w w':F}{b o:Nat}{g:Gr}(h:bK w b o g)(hg:L w w' G):bK w' b o g:=⟨hg.cell h.1 (by
 simp),hg.cell h.2.1 (by
 simp),hg.cell h.2.2.1 (by
 simp),hg.cell h.2.2.2.1 (by
 simp),hg.cell h.2.2.2.2 (by
 simp)⟩
def UU(w:F)(v:H)(l:List Gr):Prop:=∃a cap,v=J a l.length cap∧l.length<=cap∧(l=[]∨∃b o,a=I ⟨b,o,G⟩∧∀i,i<l.length->bK w b (o+i*5) (l.getD i kP))
theorem UU.shape{w:F}{v:H}{l:List Gr}(h:UU w v l):∃a cap,v=J a l.length cap:=by
 obtain⟨a,cap,rfl,_⟩:=h;exact⟨a,cap,rfl⟩
theorem UU.grown{w w':F}{v:H}{l:List Gr}(h:UU w v l)(hg:L w w' G):UU w' v l:=by
 obtain⟨a,cap,rfl,hc,h⟩:=h;refine⟨a,cap,rfl,hc,?_⟩;rcases h with h|⟨b,o,rfl,h⟩;·exact .inl h
 ·exact .inr ⟨b,o,rfl,fun i hi=>(h i hi).grown hg⟩
theorem UU.at{w:F}{a:Option sZ}{n cap:Nat}{l:List Gr}(h:UU w (J a n cap) l)(i:Nat)(hi:i<l.length):∃b o,a=I ⟨b,o,G⟩∧bK w b (o+i*5) (l.getD i kP):=by
 obtain⟨a',cap',e,_,h⟩:=h;simp only[tG]at e;obtain⟨rfl,_,_⟩:=e;rcases h with rfl|⟨b,o,rfl,h⟩;·simp at hi
 ·exact⟨b,o,rfl,h i hi⟩
def Lv(l:List Gr):Prop:=∀g∈l,Pg g
theorem M3{l:List Gr}{m:Nat}(h:m<l.length):YX l (m+1)=YX l m++[Cl (l.getD m kP)]:=by
 unfold YX;rw[List.take_add_one,List.map_append];simp[h]
theorem Bb(l:List Gr)(m:Nat):(YX l m).length=min m l.length:=by
 simp[YX]
def L2:Prop:=∀(w:F)(v:H)(l:List Gr)(most:Nat),UU w v l->Lv l->KR w->most<=1000->sW O 20 #[v,Y tC (most:Int)] w fun e w'=>∃x,e=tD x∧Ji w.heap.size w' x (YX l most)∧L w w' G
def xX(w:F)(v:H)(zs:List Int):Prop:=∃a cap,v=J a zs.length cap∧zs.length<=cap∧(zs=[]∨∃b o,a=I ⟨b,o,G⟩∧∀i,i<zs.length->w.cell? ⟨b,o+i,G⟩=I (Y tC (zs.getD i 0))∧-9223372036854775808<=zs.getD i 0∧zs.getD i 0<=9223372036854775807)
theorem xX.shape{w:F}{v:H}{zs:List Int}(h:xX w v zs):∃a cap,v=J a zs.length cap:=by
 obtain⟨a,cap,rfl,_⟩:=h;exact⟨a,cap,rfl⟩
theorem xX.grown{w w':F}{v:H}{zs:List Int}(h:xX w v zs)(hg:L w w' G):xX w' v zs:=by
 obtain⟨a,cap,rfl,hc,h⟩:=h;refine⟨a,cap,rfl,hc,?_⟩;rcases h with h|⟨b,o,rfl,h⟩;·exact .inl h
 ·exact .inr ⟨b,o,rfl,fun i hi=>⟨hg.cell (h i hi).1 (by simp),(h i hi).2⟩⟩
theorem xX.at{w:F}{a:Option sZ}{n cap:Nat}{zs:List Int}(h:xX w (J a n cap) zs)(i:Nat)(hi:i<zs.length):∃b o,a=I ⟨b,o,G⟩∧w.cell? ⟨b,o+i,G⟩=I (Y tC (zs.getD i 0))∧-9223372036854775808<=zs.getD i 0∧zs.getD i 0<=9223372036854775807:=by
 obtain⟨a',cap',e,hc,h⟩:=h;simp only[tG]at e;obtain⟨rfl,rfl,rfl⟩:=e;rcases h with rfl|⟨b,o,rfl,h⟩;·simp at hi
 ·exact⟨b,o,rfl,h i hi⟩
section
open Go.ChangeShapes Go.WideShapes Go.ChangeAt Go.RowKit
theorem fQ{w:F}{a:Option sZ}{len cap:Nat}{zs:List Int}(h:fN tC w a len cap zs):∃ys:List Int,ys.length=len∧len<=rV∧xX w (J a len cap) ys:=by
 rcases h with⟨rfl,rfl,rfl,rfl⟩|⟨x,rfl,hl,hm,hz,hc,hw⟩;·exact⟨[],rfl,by unfold rV;omega,G,0,rfl,tZ _,.inl rfl⟩
 ·(have hlen:(zs.take len).length=len:=by simp;omega);refine⟨zs.take len,hlen,by omega,I x,cap,by rw[hlen],by omega,?_⟩;by_cases h0:len=0;(·left;subst h0;simp);·obtain⟨b,o,sp⟩:=x;have h00:=hc 0 (by omega);(obtain rfl:sp=G:=by cases sp with|none=>rfl|some q=>simp[Addr.add,tS]at h00;split at h00<;>simp at h00);refine .inr ⟨b,o,rfl,fun i hi=>?_⟩;rw[hlen]at hi;(have hi2:i<zs.length:=by omega);have:=hc i hi2;rw[ZM]at this;(have e:(zs.take len).getD i 0=zs.getD i 0:=by simp[hi]);have hwf:=hw (zs.getD i 0) (by simp[hi2]);have hb:=YA hwf;rw[e,this];exact⟨rfl,hb⟩
end
theorem I7(s q:Int)(d:List UInt8):Y1 ⟨1,s,q,d⟩=if 0<=s∧s<=7then(if 4000<d.length then 1 else if q=0then 0 else 4)else 2:=by
 unfold Y1;rw[if_pos (by show(1:Int)<=1∧(1:Int)<=4;omega)];by_cases h1:0<=s∧s<=7;·rw[if_pos h1,if_neg (by rintro(⟨_,h⟩|⟨h,_⟩);exact h h1;cases h)];by_cases h2:4000<d.length;(·rw[if_pos h2,if_pos h2]);·rw[if_neg h2,if_neg h2];by_cases h3:q=0;(·rw[if_pos h3,if_neg];rintro(⟨h,_⟩|⟨_,h⟩|⟨h,_⟩);(·exact h rfl);(·exact h h3);·exact h rfl);·rw[if_neg h3,if_pos (.inr (.inl ⟨by show(1:Int)≠3;decide,h3⟩))]
 ·rw[if_neg h1,if_pos (.inl ⟨rfl,h1⟩)]
theorem Sh(s q:Int)(d:List UInt8):Y1 ⟨3,s,q,d⟩=if 0<=q∧q<=200000then(if 4000<d.length then 1 else if s=0then(if 0<d.length then 4 else 0)else 4)else 2:=by
 unfold Y1;rw[if_pos (by show(1:Int)<=3∧(3:Int)<=4;omega)];by_cases h1:0<=q∧q<=200000;·rw[if_pos h1,if_neg (by rintro(⟨h,_⟩|⟨_,h⟩);cases h;exact h h1)];by_cases h2:4000<d.length;(·rw[if_pos h2,if_pos h2]);·rw[if_neg h2,if_neg h2];by_cases h3:s=0;(·rw[if_pos h3];by_cases h4:0<d.length;(·rw[if_pos h4,if_pos (.inr (.inr ⟨by show(3:Int)≠1;decide,h4⟩))]);·rw[if_neg h4,if_neg];rintro(⟨_,h⟩|⟨h,_⟩|⟨_,h⟩);(·exact h h3);(·exact h rfl);·exact h4 h);·rw[if_neg h3,if_pos (.inl ⟨by show(3:Int)≠1;decide,h3⟩)]
 ·rw[if_neg h1,if_pos (.inr ⟨rfl,h1⟩)]
theorem Bi(k s q:Int)(d:List UInt8)(hk:k=2∨k=4):Y1 ⟨k,s,q,d⟩=if 4000<d.length then 1 else if s=0then(if q=0then(if 0<d.length then 4 else 0)else 4)else 4:=by
 unfold Y1;have k1:¬k=1:=by omega
 have k3:¬k=3:=by omega
 rw[if_pos (by show 1<=k∧k<=4;omega),if_neg (by rintro(⟨h,_⟩|⟨h,_⟩);exact k1 h;exact k3 h)];by_cases h2:4000<d.length;·rw[if_pos h2,if_pos h2]
 ·rw[if_neg h2,if_neg h2];by_cases h3:s=0;(·rw[if_pos h3];by_cases h5:q=0;(·rw[if_pos h5];by_cases h4:0<d.length;(·rw[if_pos h4,if_pos (.inr (.inr ⟨k1,h4⟩))]);·rw[if_neg h4,if_neg];rintro(⟨_,h⟩|⟨_,h⟩|⟨_,h⟩);(·exact h h3);(·exact h h5);·exact h4 h);·rw[if_neg h5,if_pos (.inr (.inl ⟨k3,h5⟩))]);·rw[if_neg h3,if_pos (.inl ⟨k1,h3⟩)]
def Ii:Prop:=∀(w:F)(v:H)(a:Ac),Hq w v a->AO a->sW O 45 #[v] w fun e w'=>e=tD (Y tC (Y1 a))∧L w w' G
def XT(r:Rq):Nat->List UInt8|0=>[sG r.kind.toNat]|1=>[sG r.kind.toNat]++Xn (QT r.kind 0) r.name|2=>[sG r.kind.toNat]++Xn (QT r.kind 0) r.name++Xn (QT r.kind 1) r.key|3=>[sG r.kind.toNat]++Xn (QT r.kind 0) r.name++Xn (QT r.kind 1) r.key++Xn (QT r.kind 2) r.last|_=>[sG r.kind.toNat]++Xn (QT r.kind 0) r.name++Xn (QT r.kind 1) r.key++Xn (QT r.kind 2) r.last++Xn (QT r.kind 3) r.value
theorem Wo(r:Rq):XT r 4=Kb r:=by
 show[sG r.kind.toNat]++Xn (QU r.kind) r.name++Xn (QU r.kind) r.key++Xn (tP (r.kind=3)) r.last++Xn (tP (r.kind=4)) r.value=_;rw[Kb,zR];simp[List.append_assoc]
theorem He{r:Rq}(h:X8 r)(m:Nat):(XT r m).length<=200:=by
 have k1:r.name.length<=8:=by by_cases e:QU r.kind=M;(·exact(h.name e).2);·rw[h.noName (by simpa using e)];simp
 have k2:r.key.length<=16:=by by_cases e:QU r.kind=M;(·exact(h.key e).2);·rw[h.noKey (by simpa using e)];simp
 have k3:r.last.length<=16:=by by_cases e:r.kind=3;(·exact(h.last e).2);·rw[h.noLast e];simp
 have k4:=h.value;have l1:=K4 (QT r.kind 0) r.name;have l2:=K4 (QT r.kind 1) r.key;have l3:=K4 (QT r.kind 2) r.last;have l4:=K4 (QT r.kind 3) r.value;match m with|0=>simp[XT]|1=>simp only[XT,tB,sB];omega|2=>simp only[XT,tB,sB];omega|3=>simp only[XT,tB,sB];omega|m+4=>simp only[XT,tB,sB];omega
section
variable{D:List UInt8->List UInt8}{v:Sv}
theorem Lf(hD:∀x,(D x).length=4):∀(cs:List XD),(∀c∈cs,QZ c=0)->(QW D cs).length<=600*cs.length|[],_=>by simp[QW]|c::cs,h=>by have h1:=(yN hD (h c sQ)).2;have h2:=Lf hD cs (fun x hx=>h x (tY _ hx));(have e:QW D (c::cs)=ZI D c++QW D cs:=by simp[QW]);rw[e,tB,sD];omega
theorem Zb.each(h:Zb D v):∀c∈v.commits,QZ c=0:=fun c hc=>by
 obtain⟨i,hi,e⟩:=List.getElem_of_mem hc;have:=(h.goes.at i hi).1;rw[List.getD_eq_getElem?_getD,List.getElem?_eq_getElem hi,e]at this;exact this
theorem bG(hD:∀x,(D x).length=4)(h:Zb D v){s:Nat}(hb:v.begun s=M)(hw:¬(v.txns s).writes.length=0):Vd D v.tape (YV v s)=0:=by
 have hm:=h.many;have hc:QZ (YV v s)=0:=Fn (h.tx s hb).1 hw v.commits.length hm;have h1:=(yN hD hc).2;have h2:=Lf hD v.commits h.each;have hd:=h.data;rw[Vd,if_pos h.may,if_pos hc,if_neg (by rw[hd];omega)]
def Mk(v:Sv)(s:Nat):Sv:=if(v.txns s).writes.length=0then Zx (Xk v s) (IA s (v.txns s).start)else if v.queue.length=6∨v.commits.length=300then Zx v (Vj s 11)else if JW (v.txns s) v.commits=M then Zx (Xk v s) (Vj s 9)else if QQ (QE v v.commits.length) (v.txns s).writes≠0then Zx (Xk v s) (Vj s (QQ (QE v v.commits.length) (v.txns s).writes))else{Xk v s with commits:=v.commits++[YV v s],queue:=v.queue++[s],waits:=UA v.waits s M}
def f8(v:Sv)(s:Nat)(r:Rq):Sv:=if r.kind=8then Rk v s r else if QI v s r=M then Zx v (Vj s 6)else if r.kind=1then Zx {v with begun:=UA v.begun s M,txns:=UA v.txns s ⟨(v.synced:Int),[],[]⟩} (IA s (v.synced:Int))else if r.kind=7then Zx (Xk v s) (Vj s 0)else if Zu (v.synced:Int) (v.txns s).start=N then Zx (Xk v s) (Vj s 10)else if r.kind=6then Mk v s else G6 v s r
def iI(v:Sv)(s:Nat)(data:List UInt8):Sv:=if v.up=N then Zx v (Vj s 13)else if QJ data=0then f8 v s (Qu data)else Zx v (Vj s (QJ data))
def lK(v:Sv):Sv:={v with synced:=v.synced+v.queue.length,waits:=UE v.waits v.queue,queue:=[],out:=v.out++Vt v.synced v.queue}
def dJ(v:Sv)(a:Ac):Sv:=if a.kind=1then iI v a.sess.toNat a.data else if a.kind=2then(if v.up=M then lK v else v)else{v with up:=M}
def mB(l:List Ac):Sv:=l.foldl dJ AG
def Ga(v:Sv):Sv:={v with tape:=VQ}
theorem bD(v:Sv):Er (Ga v)=Er v:=rfl
theorem Nv(v:Sv)(s:Nat)(x:Rd)(o:Rp):Ga (Uk v s x o)=Uk (Ga v) s x o:=by
 unfold Uk;show Ga (if Xf (v.txns s) x=0then _ else _)=if Xf (v.txns s) x=0then _ else _;split<;>rfl
theorem L6(v:Sv)(s:Nat)(r:Rq):Ga (G6 v s r)=G6 (Ga v) s r:=by
 unfold G6;split;·unfold Vn;show Ga (Zx (if Z7 (v.txns s) _=0then _ else _) _)=Zx (if Z7 (v.txns s) _=0then _ else _) _;split<;>rfl
 ·split;(·unfold Me;show Ga (if U6 (QE v (v.txns s).start.toNat) (v.txns s) r.name r.key=M then _ else _)=if U6 (QE v (v.txns s).start.toNat) (v.txns s) r.name r.key=M then _ else _;split;(·rfl);·exact Nv v s _ _);·unfold vN;show Ga (if JU (QE v (v.txns s).start.toNat) (v.txns s) r.name r.key r.last=0then _ else _)=if JU (QE v (v.txns s).start.toNat) (v.txns s) r.name r.key r.last=0then _ else _;split;(·exact Nv v s _ _);·rfl
theorem D6(hD:∀x,(D x).length=4)(h:Zb D v){s:Nat}(hb:v.begun s=M):Ga (Jr D v s)=Mk (Ga v) s:=by
 unfold Jr Mk;show Ga (if(v.txns s).writes.length=0then _ else if v.queue.length=6∨v.commits.length=300then _ else if JW (v.txns s) v.commits=M then _ else if QQ (QE v v.commits.length) (v.txns s).writes≠0then _ else _)=if(v.txns s).writes.length=0then _ else if v.queue.length=6∨v.commits.length=300then _ else if JW (v.txns s) v.commits=M then _ else if QQ (QE v v.commits.length) (v.txns s).writes≠0then _ else _;by_cases h1:(v.txns s).writes.length=0;·rw[if_pos h1,if_pos h1];rfl
 ·rw[if_neg h1,if_neg h1];by_cases h2:v.queue.length=6∨v.commits.length=300;(·rw[if_pos h2,if_pos h2];rfl);·rw[if_neg h2,if_neg h2];by_cases h3:JW (v.txns s) v.commits=M;(·rw[if_pos h3,if_pos h3];rfl);·rw[if_neg h3,if_neg h3];by_cases h4:QQ (QE v v.commits.length) (v.txns s).writes≠0;(·rw[if_pos h4,if_pos h4];rfl);·rw[if_neg h4,if_neg h4,if_neg (fun e=>e (bG hD h hb h1))];rfl
theorem O8(hD:∀x,(D x).length=4)(h:Zb D v)(s:Nat)(r:Rq):Ga (Js D v s r)=f8 (Ga v) s r:=by
 unfold Js f8;have es:QI (Ga v) s r=QI v s r:=rfl;rw[es];by_cases h1:r.kind=8;·rw[if_pos h1,if_pos h1];rfl
 ·rw[if_neg h1,if_neg h1];by_cases h2:QI v s r=M;(·rw[if_pos h2,if_pos h2];rfl);·rw[if_neg h2,if_neg h2];by_cases h3:r.kind=1;(·rw[if_pos h3,if_pos h3];rfl);·rw[if_neg h3,if_neg h3];(have hb:v.begun s=M:=by unfold QI at h2;rw[if_neg h3]at h2;cases hw:v.waits s<;>cases hv:v.begun s<;>simp[hw,hv]at h2⊢);by_cases h4:r.kind=7;(·rw[if_pos h4,if_pos h4];rfl);·rw[if_neg h4,if_neg h4];show Ga (if Zu (v.synced:Int) (v.txns s).start=N then _ else _)=if Zu (v.synced:Int) (v.txns s).start=N then _ else _;by_cases h5:Zu (v.synced:Int) (v.txns s).start=N;(·rw[if_pos h5,if_pos h5];rfl);·rw[if_neg h5,if_neg h5];by_cases h6:r.kind=6;(·rw[if_pos h6,if_pos h6];exact D6 hD h hb);·rw[if_neg h6,if_neg h6];exact L6 v s r
theorem bB(hD:∀x,(D x).length=4)(h:Zb D v){a:Ac}(ha:a.kind≠3):Ga (UJ D v a)=dJ (Ga v) a:=by
 unfold UJ dJ;by_cases h1:a.kind=1;·rw[if_pos h1,if_pos h1];unfold Xi iI;show Ga (if v.up=N then _ else _)=if v.up=N then _ else _;split;(·rfl);·split;(·exact O8 hD h _ _);·rfl
 ·rw[if_neg h1,if_neg h1];by_cases h2:a.kind=2;(·rw[if_pos h2,if_pos h2];show Ga (if v.up=M then _ else _)=if v.up=M then _ else _;split<;>rfl);·rw[if_neg h2,if_neg h2,if_neg ha];rfl
theorem E8(hD:∀x,(D x).length=4):∀(l:List Ac)(v:Sv),Zb D v->(∀a∈l,Ku a∧a.kind≠3)->Ga (l.foldl (UJ D) v)=l.foldl dJ (Ga v)|[],_,_,_=>rfl|a::l,v,h,ha=>by have h1:=ha a sQ;rw[pX,pX,E8 hD l _ (h.act hD h1.1) (fun x hx=>ha x (tY _ hx)),bB hD h h1.2]
theorem runW_out(hD:∀x,(D x).length=4)(l:List Ac)(h:∀a∈l,Ku a∧a.kind≠3):Er (GG D l)=Er (mB l):=by
 rw[<-bD,GG,E8 hD l AG (TH D) h];rfl
end
def Im:Prop:=∀(w:F)(v:H)(t:V8),KY w v t->yC t->sW O 92 #[v] w fun e w'=>∃x,e=tD (sI #[x,Y tC (Ru t)])∧Yx w' x (Km t)∧L w w' G
def Am:Prop:=∀(w:F)(v:H)(t:V8)(keep:Int),KY w v t->yC t->-9223372036854775808<=keep->keep<=9223372036854775807->sW O 110 #[v,Y tC keep] w fun e w'=>∃x,e=tD (sI #[x,Y tC (Ut t keep)])∧Yx w' x (Xs t keep)∧L w w' G
theorem EJ:(103:Nat)≠5:=by
 decide
theorem Lq:(103:Nat)≠71:=by
 decide
theorem ED:(103:Nat)≠210:=by
 decide
end Go.Proofs.YtjnapechlkbfmaaGreatDoor
