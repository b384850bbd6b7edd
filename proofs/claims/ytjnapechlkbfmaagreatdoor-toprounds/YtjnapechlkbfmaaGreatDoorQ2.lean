/-
  Texts of this proof, joined, with few blanks: AcM0, PairM0, PairB, WrMem, CmtMem, TapeA, TapeB, TapeK, HistF, HistC, TxnF, TxnG, SrvF, SrvI, SrvO, TopF, TenMem, CmtSet, RdMem, StepMem, SvK, SvG, CmtTy, CmtRow, CmtRowD, TxNote, TxM, TxnL, TxCheck, TCCheck, PairStepQ, PairSlice, FCCheck, FCApply, TxMs, RqRd, WrCkF, TxLook, FindM, SrvS, SrvL, SrvM, SrvN, TxClash, TpEnc, TpCheck, BSlice, CmtFit, TxScan, TCRange, FCRange, BitC, PartC, TxWrite, RqWt, HsKept, RqDe, TapeH, WrDtF, RdrF, RdrMem, FrameB, GearM, TpSync, TpCrash, TapTy, LnCk, LineH, SrvW, WrEnF.
-/
import Derived.Deep.AppendLies
import Derived.Test.YtjnapechlkbfmaaGreatDoorQ1
import Derived.Maps.AppendAt
import Derived.Deep.RegionWith
import Derived.Handy
import Derived.ProofKit
import Derived.OpenShut
import Derived.ShutString
import Derived.ChangeOld
import Derived.Deep.DeepHandedRow
import Derived.SizedLaws
import Derived.Test.YtjnapechlkbfmaaGreatDoorRows
set_option maxRecDepth 100000
set_option maxHeartbeats 8000000
open Array renaming getElem?_eq_some_iff->tI,getElem?_modify->tV,getElem?_toList->rY
open Bool renaming true->M,false->N,and_eq_true->rI,or_eq_false_iff->rN
open Classical renaming byContradiction->sQ
open Decidable renaming decide->tP
open Go renaming World->F,Value->H,TypeId->tX,undef->sJ,sliced->sP,Calls->sW,Addr->rA,Operand->rH,Oper->rM,info_parts->r7,yielded->r8,maxLen->pG,heap_alloc_new->oF
open Go.Addr.mk renaming injEq->rG
open Go.Ending renaming returned->tE
open Go.Instr renaming slice->rT
open Go.IntKind renaming i64->tC,u8->pJ
open Go.Obj renaming cells->S
open Go.Obj.cells renaming injEq->tW
open Go.Proofs.Tryz renaming prog->O
open Go.Region renaming wanted->sF
open Go.Result renaming andThen->rF
open Go.Value renaming slice->J,int->Y,bool->tL,tuple->sH,agg->sR,ownBlock->pE
open Go.Value.slice renaming injEq->tH
open Go.World renaming grownBy->L,setCell->tD,cell?->tU,cell?_of_block->sK,ownsRow_nil->sL,grownBy_alloc->sV,news_of_block->rB,frozen?->rV,cell?_setCell_same'->pF
open Go.World.ownsRow renaming kept->tS,lt->sG
open Int renaming toNat_natCast->sY,emod_lt_of_pos->pO,emod_nonneg->oC
open List renaming length_append->tB,eq_nil_of_length_eq_zero->tJ,mem_cons->tK,flatMap_cons->tM,not_mem_nil->tQ,mem_cons_of_mem->tY,mem_append->tZ,length_singleton->sA,getElem?_take->sC,length_cons->sD,take_length->sE,getElem?_eq_some_iff->sI,getElem_mem->sN,mem_cons_self->sO,drop_eq_getElem_cons->sS,take_succ_eq_append_getElem->sU,any_eq_true->sZ,take_succ_cons->rC,pairwise_cons->rD,flatMap_nil->rJ,append_nil->rO,length_set->rP,length_pos_iff->rS,length_take->rW,any_cons->pB,take_set->pC,getElem?_append_left->pH,take_append_drop->pI,getElem?_append->pK,drop_succ_cons->pL,set_cons_succ->pM,nodup_append->pN,cons_append->pP,length_drop->pQ,length_nil->pT,nil_append->pU,nodup_cons->pV,mem_filter->pW,foldl_cons->pX,take_take->pY,drop_zero->oD
open Nat renaming lt_of_lt_of_le->tG,le_trans->tN,zero_le->tR,le_refl->sB,zero_add->sM,succ_mul->rX,mul_le_mul_right->pA,sub_zero->pD,le_of_lt_succ->pR,min_eq_left->pZ,sub_self->oE
open Option renaming none->G,some->I,map_some->rK
open Option.some renaming injEq->tA,inj->oG
open Prod.mk renaming injEq->rU
open UInt8 renaming ofNat->sX,toNat_inj->pS
namespace Go.Proofs.YtjnapechlkbfmaaGreatDoor
open Go.RowKit
def Wh(w:F)(v:H)(a:Ac):Prop:=∃vd,v=sR #[Y tC a.kind,Y tC a.sess,Y tC a.keep,vd]∧Qe w vd a.data
theorem Wh.grown{w w':F}{v:H}{a:Ac}(h:Wh w v a)(hg:L w w' G):Wh w' v a:=by
 obtain⟨vd,rfl,h1⟩:=h;exact⟨vd,rfl,h1.grown hg⟩
theorem Wh.agg{w:F}{v:H}{a:Ac}(h:Wh w v a):∃da dc,v=sR #[Y tC a.kind,Y tC a.sess,Y tC a.keep,J da a.data.length dc]∧Qe w (J da a.data.length dc) a.data:=by
 obtain⟨vd,rfl,h1⟩:=h;obtain⟨da,dc,rfl⟩:=h1.shape;exact⟨da,dc,rfl,h1⟩
def Bd(w:F)(b o:Nat)(a:Ac):Prop:=∃vd,w.cell? ⟨b,o,G⟩=I (Y tC a.kind)∧w.cell? ⟨b,o+1,G⟩=I (Y tC a.sess)∧w.cell? ⟨b,o+2,G⟩=I (Y tC a.keep)∧w.cell? ⟨b,o+3,G⟩=I vd∧Qe w vd a.data
theorem Bd.grown{w w':F}{b o:Nat}{a:Ac}(h:Bd w b o a)(hg:L w w' G):Bd w' b o a:=by
 obtain⟨vd,c1,c2,c3,c4,h1⟩:=h;exact⟨vd,hg.cell c1 (by simp),hg.cell c2 (by simp),hg.cell c3 (by simp),hg.cell c4 (by simp),h1.grown hg⟩
def Y6(w:F)(v:H)(l:List Ac):Prop:=∃a cap,v=J a l.length cap∧l.length<=cap∧((l=[]∧(a=G->cap=0))∨∃b o,a=I ⟨b,o,G⟩∧∀i,i<l.length->Bd w b (o+i*4) (l.getD i UF))
theorem RI(w:F):Y6 w (J G 0 0) []:=⟨G,0,rfl,sB _,.inl ⟨rfl,fun _=>rfl⟩⟩
theorem Y6.shape{w:F}{v:H}{l:List Ac}(h:Y6 w v l):∃a cap,v=J a l.length cap:=by
 obtain⟨a,cap,rfl,_⟩:=h;exact⟨a,cap,rfl⟩
theorem Y6.grown{w w':F}{v:H}{l:List Ac}(h:Y6 w v l)(hg:L w w' G):Y6 w' v l:=by
 obtain⟨a,cap,rfl,hc,h⟩:=h;refine⟨a,cap,rfl,hc,?_⟩;rcases h with h|⟨b,o,rfl,h⟩;·exact .inl h
 ·exact .inr ⟨b,o,rfl,fun i hi=>(h i hi).grown hg⟩
theorem Y6.at{w:F}{a:Option rA}{n cap:Nat}{l:List Ac}(h:Y6 w (J a n cap) l)(i:Nat)(hi:i<l.length):∃b o,a=I ⟨b,o,G⟩∧Bd w b (o+i*4) (l.getD i UF):=by
 obtain⟨a',cap',e,hc,h⟩:=h;simp only[tH]at e;obtain⟨rfl,rfl,rfl⟩:=e;rcases h with⟨rfl,_⟩|⟨b,o,rfl,h⟩;·simp at hi
 ·exact⟨b,o,rfl,h i hi⟩
structure Sb(a:Ac):Prop where kind:-9223372036854775808<=a.kind∧a.kind<=9223372036854775807sess:-9223372036854775808<=a.sess∧a.sess<=9223372036854775807keep:-9223372036854775808<=a.keep∧a.keep<=9223372036854775807data:a.data.length<=140737488355328
structure Rf (l : List Ac) : Prop where
  many : l.length * 48 <= 140737488355328
  each : ∀ i, i < l.length -> Sb (l.getD i UF)
theorem LP{a:Ac}(h:JG a):Sb a:=by
 have h0:=h.kind;have h1:=h.data;have h2:0<=a.sess∧a.sess<=7:=by by_cases e:a.kind=1;(·exact h.sess e);·rw[h.noSess e];omega
 have h3:0<=a.keep∧a.keep<=200000:=by by_cases e:a.kind=3;(·exact h.keep e);·rw[h.noKeep e];omega
 exact⟨by omega,by omega,by omega,by omega⟩
abbrev AV:=Ac×H
def Sn:AV:=(UF,sJ)
def Jk(us:List AV):List H:=us.flatMap fun x=>[Y tC x.1.kind,Y tC x.1.sess,Y tC x.1.keep,x.2]
theorem yN(us:List AV):(Jk us).length=us.length*4:=by
 induction us with|nil=>rfl|cons x us ih=>rw[Jk,tM,tB,<-Jk,ih,sD];simp;omega
theorem MY(a b:List AV):Jk (a++b)=Jk a++Jk b:=by
 simp[Jk]
theorem NW:∀(us:List AV)(i:Nat),i<us.length->(Jk us)[i*4]?=I (Y tC (us.getD i Sn).1.kind)∧(Jk us)[i*4+1]?=I (Y tC (us.getD i Sn).1.sess)∧(Jk us)[i*4+2]?=I (Y tC (us.getD i Sn).1.keep)∧(Jk us)[i*4+3]?=I (us.getD i Sn).2|[],i,h=>by simp at h|x::us,0,_=>⟨rfl,rfl,rfl,rfl⟩|x::us,i+1,h=>by have:=NW us i (by simpa using h);rw[show(i+1)*4=i*4+4by omega];exact this
theorem lN:(35:Nat)≠5:=by
 decide
def GC(rb:Nat)(w:F)(v:H)(l:List Ac):Prop:=∃us:List AV,us.map (·.1)=l∧w.ownsRow rb 35 4 v l.length (Jk us)∧∀x∈us,Qh 0 w x.2 x.1.data
theorem Oy(rb:Nat)(w:F):GC rb w (J G 0 0) []:=⟨[],rfl,sL _ _ _ _,fun x hx=>by
 simp at hx⟩
theorem GC.row{rb:Nat}{w:F}{v:H}{l:List Ac}(h:GC rb w v l):v.ownBlock=G∨∃g cur fz,v.ownBlock=I g∧rb<=g∧w.heap[g]?=I (S cur 35 fz):=by
 obtain⟨us,_,h,_⟩:=h;rcases h.2with⟨rfl,_⟩|⟨g,cap,cur,rfl,hb,hg,_⟩;·exact .inl rfl
 ·exact .inr ⟨g,cur,_,rfl,hb,hg⟩
theorem GC.lt{rb:Nat}{w:F}{v:H}{l:List Ac}(h:GC rb w v l):∀k,v.ownBlock=I k->rb<=k∧k<w.heap.size:=by
 obtain⟨us,_,h,_⟩:=h;exact sG h
theorem GC.grownNone{rb:Nat}{w w':F}{v:H}{l:List Ac}(h:GC rb w v l)(hg:L w w' G):GC rb w' v l:=by
 obtain⟨us,h1,h2,h3⟩:=h;refine⟨us,h1,tS h2 hg ?_,fun x hx=>(h3 x hx).keptT hg (.inl rfl)⟩;cases hv:v.ownBlock with|none=>exact .inl rfl|some k=>exact .inr (by simp)
theorem GC.shape{rb:Nat}{w:F}{v:H}{l:List Ac}(h:GC rb w v l):∃a cap,v=J a l.length cap:=by
 obtain⟨us,_,h,_⟩:=h;rcases h.2with⟨rfl,h0⟩|⟨g,cap,cur,rfl,_⟩;·exact⟨G,0,by rw[h0]⟩
 ·exact⟨_,cap,rfl⟩
theorem Ws{us:List AV}{l:List Ac}(h:us.map (·.1)=l)(i:Nat)(hi:i<l.length):(us.getD i Sn).1=l.getD i UF∧us.getD i Sn∈us:=by
 subst h;have hi':i<us.length:=by simpa using hi
 refine⟨by simp[hi'],?_⟩;rw[show us.getD i Sn=us[i]by simp[hi']];exact sN hi'
theorem GC.list{rb:Nat}{w:F}{v:H}{l:List Ac}(h:GC rb w v l):Y6 w v l:=by
 obtain⟨us,hl,hr,h3⟩:=h;rcases hr.2with⟨rfl,h0⟩|⟨g,cap,cur,rfl,hb,hg,hn,hm,hs,ht⟩;·have:l=[]:=tJ h0;rw[this];exact RI w
 ·(have hcell:∀j u,(Jk us)[j]?=I u->w.cell? ⟨g,j,G⟩=I u:=by intro j u hj;(have hlt:j<l.length*4:=by have:=(sI.1 hj).1;rw[hr.1]at this;exact this);(have e2:(cur.toList.take (l.length*4))[j]?=(Jk us)[j]?:=by rw[ht]);rw[sC,if_pos hlt,hj]at e2;simp[tU,hg];simpa using e2);refine⟨_,cap,rfl,hn,.inr ⟨g,0,rfl,fun i hi=>?_⟩⟩;obtain⟨e1,e2⟩:=Ws hl i hi;(have hlen:us.length=l.length:=by rw[<-hl];simp);obtain⟨c1,c2,c3,c4⟩:=NW us i (by omega);have hp:=h3 _ e2;rw[e1]at c1 c2 c3 hp;rw[sM];exact⟨_,hcell _ _ c1,hcell _ _ c2,hcell _ _ c3,hcell _ _ c4,hp.1⟩
theorem BJ{rb:Nat}{w W w1:F}{v:H}{l:List Ac}(h:L w W G)(ho:GC rb W v l)(hb:w.heap.size<=rb)(hg:L W w1 v.ownBlock):L w w1 G:=⟨hg.os.trans h.os,hg.tape.trans h.tape,hg.output.trans h.output,tN h.size hg.size,fun i hi hn=>(hg.block i (tG hi h.size) (fun e=>by
 have:=(ho.lt i e.symm).1;omega)).trans (h.block i hi hn)⟩
theorem SA:(O.info? 35).map (fun i=>(i.zero,i.size,i.bytes))=I (I (sR #[Y tC 0,Y tC 0,Y tC 0,J G 0 0]),4,48):=by
 kernel_rfl
def Pv(w:F)(v:H)(p:Pr):Prop:=∃vk vv,v=sR #[vk,vv]∧Qe w vk p.1∧Qe w vv p.2
theorem Pv.grown{w w':F}{v:H}{p:Pr}(h:Pv w v p)(hg:L w w' G):Pv w' v p:=by
 obtain⟨vk,vv,rfl,h1,h2⟩:=h;exact⟨vk,vv,rfl,h1.grown hg,h2.grown hg⟩
def PA(w:F)(b o:Nat)(p:Pr):Prop:=∃vk vv,w.cell? ⟨b,o,G⟩=I vk∧w.cell? ⟨b,o+1,G⟩=I vv∧Qe w vk p.1∧Qe w vv p.2
theorem PA.grown{w w':F}{b o:Nat}{p:Pr}(h:PA w b o p)(hg:L w w' G):PA w' b o p:=by
 obtain⟨vk,vv,c1,c2,h1,h2⟩:=h;exact⟨vk,vv,hg.cell c1 (by simp),hg.cell c2 (by simp),h1.grown hg,h2.grown hg⟩
def Qs(w:F)(v:H)(l:PL):Prop:=∃a cap,v=J a l.length cap∧l.length<=cap∧((l=[]∧(a=G->cap=0))∨∃b o,a=I ⟨b,o,G⟩∧∀i,i<l.length->PA w b (o+i*2) (l.getD i ([],[])))
theorem Yl(w:F):Qs w (J G 0 0) []:=⟨G,0,rfl,sB _,.inl ⟨rfl,fun _=>rfl⟩⟩
theorem Qs.grown{w w':F}{v:H}{l:PL}(h:Qs w v l)(hg:L w w' G):Qs w' v l:=by
 obtain⟨a,cap,rfl,hc,h⟩:=h;refine⟨a,cap,rfl,hc,?_⟩;rcases h with h|⟨b,o,rfl,h⟩;·exact .inl h
 ·exact .inr ⟨b,o,rfl,fun i hi=>(h i hi).grown hg⟩
theorem Qs.shape{w:F}{v:H}{l:PL}(h:Qs w v l):∃a cap,v=J a l.length cap:=by
 obtain⟨a,cap,rfl,_⟩:=h;exact⟨a,cap,rfl⟩
theorem Qs.at{w:F}{a:Option rA}{n cap:Nat}{l:PL}(h:Qs w (J a n cap) l)(i:Nat)(hi:i<l.length):∃b o,a=I ⟨b,o,G⟩∧PA w b (o+i*2) (l.getD i ([],[])):=by
 obtain⟨a',cap',e,hc,h⟩:=h;simp only[tH]at e;obtain⟨rfl,rfl,rfl⟩:=e;rcases h with⟨rfl,_⟩|⟨b,o,rfl,h⟩;·simp at hi
 ·exact⟨b,o,rfl,h i hi⟩
theorem Qh.kept{base:Nat}{w w':F}{v:H}{bs:List UInt8}(h:Qh base w v bs){row:Option Nat}(hg:L w w' row)(hrow:row=G∨∃g cur fz,row=I g∧base<=g∧w.heap[g]?=I (S cur 44 fz)):Qh base w' v bs:=by
 obtain⟨hs,ho⟩:=h;rcases ho with rfl|⟨b,hb,hlt,hc⟩;·obtain⟨a,cap,rfl,hc,h⟩:=hs;refine⟨⟨a,cap,rfl,hc,?_⟩,.inl rfl⟩;rcases h with h|⟨b,o,rfl,h⟩;(·exact .inl h);·exact .inr ⟨b,o,rfl,fun i hi=>by simp at hi⟩
 ·(have hne:I b≠row:=by intro e;rcases hrow with rfl|⟨g,cur,fz,rfl,hbg,hgc⟩;(·cases e);·cases e;rcases hc with hc|⟨cur2,fz2,hc⟩;(·omega);·rw[hc]at hgc;simp at hgc);have hblk:=hg.block b hlt hne;refine⟨?_,.inr ⟨b,hb,tG hlt hg.size,?_⟩⟩;(·obtain⟨a,cap,rfl,hcp,h⟩:=hs;refine⟨a,cap,rfl,hcp,?_⟩;rcases h with h|⟨b',o,rfl,h⟩;(·exact .inl h);·refine .inr ⟨b',o,rfl,fun i hi=>?_⟩;simp[pE]at hb;subst hb;exact hg.cell (h i hi) (by simpa using hne));·rcases hc with hc|⟨cur,fz,hc⟩;(·exact .inl hc);·exact .inr ⟨cur,fz,by rw[hblk];exact hc⟩
def flat(vs:List (H×H)):List H:=vs.flatMap fun x=>[x.1,x.2]
theorem Kt(vs:List (H×H)):(flat vs).length=vs.length*2:=by
 induction vs with|nil=>rfl|cons x r ih=>simp only[flat,tM,tB,sD,pT]at ih⊢;omega
theorem JS(a b:List (H×H)):flat (a++b)=flat a++flat b:=by
 simp[flat]
theorem xL:∀(vs:List (H×H))(i:Nat),i<vs.length->(flat vs)[i*2]?=I (vs.getD i (sJ,sJ)).1∧(flat vs)[i*2+1]?=I (vs.getD i (sJ,sJ)).2|[],i,h=>by simp at h|x::r,0,_=>by simp[flat]|x::r,i+1,h=>by have:=xL r i (by simpa using h);rw[show(i+1)*2=i*2+2by omega,show i*2+2+1=(i*2+1)+2by omega];simpa[flat]using this
def Gw(base:Nat)(w:F)(v:H)(l:PL):Prop:=∃vs:List (H×H),vs.length=l.length∧w.ownsRow base 44 2 v l.length (flat vs)∧∀i,i<l.length->Qh base w (vs.getD i (sJ,sJ)).1 (l.getD i ([],[])).1∧Qh base w (vs.getD i (sJ,sJ)).2 (l.getD i ([],[])).2
theorem Gw.row{base:Nat}{w:F}{v:H}{l:PL}(h:Gw base w v l):v.ownBlock=G∨∃g cur fz,v.ownBlock=I g∧base<=g∧w.heap[g]?=I (S cur 44 fz):=by
 obtain⟨vs,_,h,_⟩:=h;rcases h.2with⟨rfl,_⟩|⟨g,cap,cur,rfl,hb,hg,_⟩;·exact .inl rfl
 ·exact .inr ⟨g,cur,_,rfl,hb,hg⟩
theorem Gw.lt{base:Nat}{w:F}{v:H}{l:PL}(h:Gw base w v l):∀k,v.ownBlock=I k->base<=k∧k<w.heap.size:=by
 obtain⟨vs,_,h,_⟩:=h;exact sG h
theorem Gw.grownNone{base:Nat}{w w':F}{v:H}{l:PL}(h:Gw base w v l)(hg:L w w' G):Gw base w' v l:=by
 obtain⟨vs,h1,h2,h3⟩:=h;refine⟨vs,h1,tS h2 hg ?_,fun i hi=>⟨((h3 i hi).1).kept hg (.inl rfl),((h3 i hi).2).kept hg (.inl rfl)⟩⟩;cases hv:v.ownBlock with|none=>exact .inl rfl|some k=>exact .inr (by simp)
theorem Gw.alloc{base:Nat}{w:F}{v:H}{l:PL}(h:Gw base w v l)(o:Obj):Gw base (w.alloc o) v l:=h.grownNone (sV _ _ _)
theorem Gw.shape{base:Nat}{w:F}{v:H}{l:PL}(h:Gw base w v l):∃a cap,v=J a l.length cap:=by
 obtain⟨vs,_,h,_⟩:=h;rcases h.2with⟨rfl,h0⟩|⟨g,cap,cur,rfl,_⟩;·exact⟨G,0,by rw[h0]⟩
 ·exact⟨_,cap,rfl⟩
theorem gE{base:Nat}{w W w1:F}{v:H}{l:PL}(h:L w W G)(ho:Gw base W v l)(hb:w.heap.size<=base)(hg:L W w1 v.ownBlock):L w w1 G:=⟨hg.os.trans h.os,hg.tape.trans h.tape,hg.output.trans h.output,tN h.size hg.size,fun i hi hn=>(hg.block i (tG hi h.size) (fun e=>by
 have:=(ho.lt i e.symm).1;omega)).trans (h.block i hi hn)⟩
theorem CA:(O.info? 44).map (fun i=>(i.zero,i.size,i.bytes))=I (I (sR #[J G 0 0,J G 0 0]),2,48):=by
 kernel_rfl
theorem Jh{α:Type}(a b:List α)(i:Nat)(d:α):(a++b).getD i d=if i<a.length then a.getD i d else b.getD (i-a.length) d:=by
 by_cases h:i<a.length;·rw[if_pos h];simp[pK,h]
 ·rw[if_neg h];simp[pK,h]
theorem yY(vs:List (H×H))(k:Nat):flat (vs.take k)=(flat vs).take (k*2):=by
 induction vs generalizing k with|nil=>simp[flat]|cons x r ih=>cases k with|zero=>simp[flat]|succ k=>rw[rC,show(k+1)*2=k*2+2by omega];have:=ih k;simp only[flat,tM,pP,pU,rC]at this⊢;rw[this]
theorem ET(vs:List (H×H))(k:Nat):flat (vs.drop k)=(flat vs).drop (k*2):=by
 induction vs generalizing k with|nil=>simp[flat]|cons x r ih=>cases k with|zero=>simp[flat]|succ k=>rw[pL,show(k+1)*2=k*2+2by omega];have:=ih k;simp only[flat,tM,pP,pU,pL]at this⊢;rw[this]
theorem Gw.cells{base:Nat}{w:F}{g n cap:Nat}{vs:List (H×H)}{l:PL}(hr:w.ownsRow base 44 2 (J (I ⟨g,0,G⟩) n cap) l.length (flat vs)):∀j u,(flat vs)[j]?=I u->w.cell? ⟨g,j,G⟩=I u:=by
 intro j u hj;rcases hr.2with⟨e,_⟩|⟨g',cap',cur,e,hb,hg,hn,hm,hs,ht⟩;·cases e
 ·simp only[tH,tA,rG]at e;obtain⟨⟨rfl,_⟩,_,_⟩:=e;(have hlt:j<l.length*2:=by have:=(sI.1 hj).1;rw[hr.1]at this;exact this);(have e2:(cur.toList.take (l.length*2))[j]?=(flat vs)[j]?:=by rw[ht]);rw[sC,if_pos hlt,hj]at e2;simp[tU,hg];simpa using e2
theorem Za.setOther{base:Nat}{w:F}{v:H}{bs:List UInt8}(h:Za base w v bs)(c i:Nat)(x:H)(hc:c<base):Za base (tD w ⟨c,i,G⟩ x) v bs:=by
 refine h.grown (row:=I c) (Qg (Qb _ _) i x) ?_;cases hv:v.ownBlock with|none=>exact .inl rfl|some k=>have:=(h.lt k hv).1;exact .inr (by simp;omega)
theorem UW{W w:F}{b:Nat}{x y:H}{t:tX}(hg:L W w G)(h:W.heap[b]?=I (S #[x,y] t))(u v:H):(tD w ⟨b,0,G⟩ u).cell? ⟨b,0,G⟩=I u∧((tD w ⟨b,0,G⟩ u).setCell ⟨b,1,G⟩ v).cell? ⟨b,1,G⟩=I v:=by
 have hb:w.heap[b]?=I (S #[x,y] t):=by rw[hg.block b (tI.1 h).1 (by simp)];exact h
 have c0:w.cell? ⟨b,0,G⟩=I x:=by simp[tU,hb]
 have c1:w.cell? ⟨b,1,G⟩=I y:=by simp[tU,hb]
 refine⟨pF _ _ _ (by rw[c0];rfl),pF _ _ _ ?_⟩;rw[World.cell?_setCell_other _ _ _ _ (by simp),c1];rfl
theorem Gl{base:Nat}{W:F}{pb:Nat}{x y:H}(h:W.heap[pb]?=I (S #[x,y] 44))(hb:base<=pb)(u v:H):((tD W ⟨pb,0,G⟩ u).setCell ⟨pb,1,G⟩ v).heap[pb]?=I (S #[u,v] 44)∧(∀z bs,Qh base W z bs->Qh base ((tD W ⟨pb,0,G⟩ u).setCell ⟨pb,1,G⟩ v) z bs)∧∀w0:F,w0.heap.size<=pb->L w0 W G->L w0 ((tD W ⟨pb,0,G⟩ u).setCell ⟨pb,1,G⟩ v) G:=by
 refine⟨?_,fun z bs hz=>?_,fun w0 h0 hg=>Qc (Qc hg _ h0 _ _) _ h0 _ _⟩;·simp only[tD,tV,if_true,h,rK];first|rfl|simp
 ·exact hz.kept (Qg (Qg (Qb _ _) _ _) _ _) (.inr ⟨pb,_,_,rfl,hb,h⟩)
def Kk(rb pb:Nat)(w:F)(v:H)(l:PL):Prop:=∃vs:List (H×H),vs.length=l.length∧w.ownsRow rb 44 2 v l.length (flat vs)∧∀i,i<l.length->Qh pb w (vs.getD i (sJ,sJ)).1 (l.getD i ([],[])).1∧Qh pb w (vs.getD i (sJ,sJ)).2 (l.getD i ([],[])).2
theorem Bx(rb pb:Nat)(w:F):Kk rb pb w (J G 0 0) []:=⟨[],rfl,sL _ _ _ _,fun i hi=>by
 simp at hi⟩
theorem Kk.p{rb pb:Nat}{w:F}{v:H}{l:PL}(h:Kk rb pb w v l)(hb:pb<=rb):Gw pb w v l:=by
 obtain⟨vs,h1,h2,h3⟩:=h;refine⟨vs,h1,⟨h2.1,?_⟩,h3⟩;rcases h2.2with h|⟨g,cap,cur,h1,h2,h3⟩;·exact .inl h
 ·exact .inr ⟨g,cap,cur,h1,tN hb h2,h3⟩
theorem Kk.row{rb base:Nat}{w:F}{v:H}{l:PL}(h:Kk rb base w v l)(hb:base<=rb):v.ownBlock=G∨∃g cur fz,v.ownBlock=I g∧base<=g∧w.heap[g]?=I (S cur 44 fz):=(h.p hb).row
theorem Kk.lt{rb pb:Nat}{w:F}{v:H}{l:PL}(h:Kk rb pb w v l):∀k,v.ownBlock=I k->rb<=k∧k<w.heap.size:=by
 obtain⟨vs,_,h,_⟩:=h;exact sG h
theorem Kk.grownNone{rb pb:Nat}{w w':F}{v:H}{l:PL}(h:Kk rb pb w v l)(hg:L w w' G):Kk rb pb w' v l:=by
 obtain⟨vs,h1,h2,h3⟩:=h;refine⟨vs,h1,tS h2 hg ?_,fun i hi=>⟨((h3 i hi).1).kept hg (.inl rfl),((h3 i hi).2).kept hg (.inl rfl)⟩⟩;cases hv:v.ownBlock with|none=>exact .inl rfl|some k=>exact .inr (by simp)
theorem Kk.alloc{rb pb:Nat}{w:F}{v:H}{l:PL}(h:Kk rb pb w v l)(o:Obj):Kk rb pb (w.alloc o) v l:=h.grownNone (sV _ _ _)
theorem Kk.shape{rb pb:Nat}{w:F}{v:H}{l:PL}(h:Kk rb pb w v l):∃a cap,v=J a l.length cap:=by
 obtain⟨vs,_,h,_⟩:=h;rcases h.2with⟨rfl,h0⟩|⟨g,cap,cur,rfl,_⟩;·exact⟨G,0,by rw[h0]⟩
 ·exact⟨_,cap,rfl⟩
theorem Rc{rb pb:Nat}{w W w1:F}{v:H}{l:PL}(h:L w W G)(ho:Kk rb pb W v l)(hb:w.heap.size<=rb)(hg:L W w1 v.ownBlock):L w w1 G:=⟨hg.os.trans h.os,hg.tape.trans h.tape,hg.output.trans h.output,tN h.size hg.size,fun i hi hn=>(hg.block i (tG hi h.size) (fun e=>by
 have:=(ho.lt i e.symm).1;omega)).trans (h.block i hi hn)⟩
def iJ(base:Nat)(w:F)(b o:Nat)(p:Pr):Prop:=∃vk vv,w.cell? ⟨b,o,G⟩=I vk∧w.cell? ⟨b,o+1,G⟩=I vv∧Qh base w vk p.1∧Qh base w vv p.2
def QO(base:Nat)(w:F)(v:H)(l:PL):Prop:=∃a cap,v=J a l.length cap∧l.length<=cap∧((l=[]∧(a=G->cap=0))∨∃b o,a=I ⟨b,o,G⟩∧(b<base∨∃cur fz,w.heap[b]?=I (S cur 44 fz))∧∀i,i<l.length->iJ base w b (o+i*2) (l.getD i ([],[])))
theorem QO.list{base:Nat}{w:F}{v:H}{l:PL}(h:QO base w v l):Qs w v l:=by
 obtain⟨a,cap,rfl,hc,h⟩:=h;refine⟨a,cap,rfl,hc,?_⟩;rcases h with h|⟨b,o,rfl,_,h⟩;·exact .inl h
 ·refine .inr ⟨b,o,rfl,fun i hi=>?_⟩;obtain⟨vk,vv,c1,c2,h1,h2⟩:=h i hi;exact⟨vk,vv,c1,c2,h1.1,h2.1⟩
theorem Qs.pairsB{w w':F}{v:H}{l:PL}(h:Qs w v l)(hg:L w w' G)(base:Nat)(hb:w.heap.size<=base):QO base w' v l:=by
 obtain⟨a,cap,rfl,hc,h⟩:=h;refine⟨a,cap,rfl,hc,?_⟩;rcases h with h|⟨b,o,rfl,h⟩;·exact .inl h
 ·by_cases h0:l=[];(·exact .inl ⟨h0,fun e=>by cases e⟩);·have hl:0<l.length:=rS.2 h0;refine .inr ⟨b,o,rfl,.inl ?_,fun i hi=>?_⟩;(·obtain⟨vk,vv,c1,_⟩:=h 0 hl;exact tG (Vy c1) hb);·obtain⟨vk,vv,c1,c2,h1,h2⟩:=h i hi;exact⟨vk,vv,hg.cell c1 (by simp),hg.cell c2 (by simp),h1.part hg base hb,h2.part hg base hb⟩
theorem Gw.pairsB{base:Nat}{w:F}{v:H}{l:PL}(h:Gw base w v l):QO base w v l:=by
 obtain⟨vs,hl,hr,h3⟩:=h;have hr':=hr;rcases hr.2with⟨rfl,h0⟩|⟨g,cap,cur,rfl,hb,hg,hn,hm,hs,ht⟩;·have:l=[]:=tJ h0;subst this;exact⟨G,0,rfl,sB _,.inl ⟨rfl,fun _=>rfl⟩⟩
 ·refine⟨_,cap,rfl,hn,.inr ⟨g,0,rfl,.inr ⟨cur,_,hg⟩,fun i hi=>?_⟩⟩;have hf:=xL vs i (by omega);refine⟨(vs.getD i (sJ,sJ)).1,(vs.getD i (sJ,sJ)).2,?_,?_,(h3 i hi).1,(h3 i hi).2⟩;(·have:=Gw.cells hr' _ _ hf.1;rw[sM];exact this);·have:=Gw.cells hr' _ _ hf.2;rw[sM];exact this
theorem QO.kept{base:Nat}{w w':F}{v:H}{l:PL}(h:QO base w v l){row:Option Nat}(hg:L w w' row)(hrow:row=G∨∃g cur t fz,row=I g∧base<=g∧w.heap[g]?=I (S cur t fz)∧t≠5∧t≠44):QO base w' v l:=by
 obtain⟨a,cap,rfl,hc,h⟩:=h;refine⟨a,cap,rfl,hc,?_⟩;rcases h with h|⟨b,o,rfl,hb,h⟩;·exact .inl h
 ·by_cases h0:l=[];(·exact .inl ⟨h0,fun e=>by cases e⟩);·have hl:0<l.length:=rS.2 h0;(have hlt:b<w.heap.size:=by obtain⟨vk,vv,c1,_⟩:=h 0 hl;exact Vy c1);(have hne:I b≠row:=by intro e;rcases hrow with rfl|⟨g,cur,t,fz,rfl,hbg,hgc,ht,ht2⟩;(·cases e);·cases e;rcases hb with hb|⟨cur2,fz2,hb⟩;(·omega);·rw[hb]at hgc;simp only[tA,tW]at hgc;exact ht2 hgc.2.1.symm);(have hrow':row=G∨∃g cur t fz,row=I g∧base<=g∧w.heap[g]?=I (S cur t fz)∧t≠5:=by rcases hrow with h|⟨g,cur,t,fz,h1,h2,h3,h4,_⟩;(·exact .inl h);·exact .inr ⟨g,cur,t,fz,h1,h2,h3,h4⟩);refine .inr ⟨b,o,rfl,?_,fun i hi=>?_⟩;(·rcases hb with hb|⟨cur,fz,hb⟩;(·exact .inl hb);·exact .inr ⟨cur,fz,by rw[hg.block b hlt hne];exact hb⟩);·obtain⟨vk,vv,c1,c2,h1,h2⟩:=h i hi;exact⟨vk,vv,hg.cell c1 (by simpa using hne),hg.cell c2 (by simpa using hne),h1.keptT hg hrow',h2.keptT hg hrow'⟩
theorem QO.grown{base:Nat}{w w':F}{v:H}{l:PL}(h:QO base w v l)(hg:L w w' G):QO base w' v l:=h.kept hg (.inl rfl)
theorem xY{base:Nat}{w:F}{v:H}{l:PL}(h:QO base w v l):v.oneCell'=M:=by
 obtain⟨a,cap,rfl,_⟩:=h;rfl
theorem Yz(base:Nat)(w:F):QO base w (J G 0 0) []:=⟨G,0,rfl,sB _,.inl ⟨rfl,fun _=>rfl⟩⟩
theorem QO.shape{base:Nat}{w:F}{v:H}{l:PL}(h:QO base w v l):∃a cap,v=J a l.length cap:=by
 obtain⟨a,cap,rfl,_⟩:=h;exact⟨a,cap,rfl⟩
theorem QO.mono{base base':Nat}{w:F}{v:H}{l:PL}(h:QO base w v l)(hb:base<=base'):QO base' w v l:=by
 obtain⟨a,cap,rfl,hc,h⟩:=h;refine⟨a,cap,rfl,hc,?_⟩;rcases h with h|⟨b,o,rfl,h1,h2⟩;·exact .inl h
 ·refine .inr ⟨b,o,rfl,?_,fun i hi=>?_⟩;(·rcases h1 with h1|h1;(·exact .inl (by omega));·exact .inr h1);·obtain⟨vk,vv,c1,c2,p1,p2⟩:=h2 i hi;exact⟨vk,vv,c1,c2,p1.mono hb,p2.mono hb⟩
theorem Kk.pairsB{rb:Nat}{w:F}{v:H}{l:PL}(h:Kk rb 0 w v l):QO 0 w v l:=(h.p (tR _)).pairsB
theorem QO.up{w:F}{v:H}{l:PL}(h:QO 0 w v l)(base:Nat):QO base w v l:=h.mono (tR _)
abbrev WV:=Zb×H×H×H
def BY:WV:=(Qr,sJ,sJ,sJ)
def Y0(us:List WV):List H:=us.flatMap fun x=>[x.2.1,x.2.2.1,tL x.1.gone,x.2.2.2]
theorem Wj(us:List WV):(Y0 us).length=us.length*4:=by
 induction us with|nil=>rfl|cons x r ih=>simp only[Y0,tM,tB,sD,pT]at ih⊢;omega
theorem uF(a b:List WV):Y0 (a++b)=Y0 a++Y0 b:=by
 simp[Y0]
theorem N4:∀(us:List WV)(i:Nat),i<us.length->(Y0 us)[i*4]?=I (us.getD i BY).2.1∧(Y0 us)[i*4+1]?=I (us.getD i BY).2.2.1∧(Y0 us)[i*4+2]?=I (tL (us.getD i BY).1.gone)∧(Y0 us)[i*4+3]?=I (us.getD i BY).2.2.2|[],i,h=>by simp at h|x::r,0,_=>by simp[Y0]|x::r,i+1,h=>by have:=N4 r i (by simpa using h);rw[show(i+1)*4=i*4+4by omega,show i*4+4+1=(i*4+1)+4by omega,show i*4+4+2=(i*4+2)+4by omega,show i*4+4+3=(i*4+3)+4by omega];simpa[Y0]using this
theorem kU:(71:Nat)≠5:=by
 decide
theorem Wi{us:List WV}{l:List Zb}(h:us.map (·.1)=l)(i:Nat)(hi:i<l.length):(us.getD i BY).1=l.getD i Qr∧us.getD i BY∈us:=by
 subst h;have hi':i<us.length:=by simpa using hi
 refine⟨by simp[hi'],?_⟩;rw[show us.getD i BY=us[i]by simp[hi']];exact sN hi'
theorem cI:(O.info? 71).map (fun i=>(i.zero,i.size,i.bytes))=I (I (sR #[J G 0 0,J G 0 0,tL N,J G 0 0]),4,80):=by
 kernel_rfl
theorem kQ(w:F)(vn vk vv:H)(p:Zb)(h1:Qe w vn p.name)(h2:Qe w vk p.key)(h3:Qe w vv p.value)(t:tX):QR (w.alloc (S #[vn,vk,tL p.gone,vv] t)) (J (I ⟨w.heap.size,0,G⟩) 1 1) [p]:=by
 refine⟨_,1,rfl,by simp,.inr ⟨w.heap.size,0,rfl,fun i hi=>?_⟩⟩;match i,hi with|0,_=>exact⟨vn,vk,vv,by simp,by simp,by simp,by simp,h1.alloc _,h2.alloc _,h3.alloc _⟩
def OK(base:Nat)(w:F)(b o:Nat)(p:Zb):Prop:=∃vn vk vv,w.cell? ⟨b,o,G⟩=I vn∧w.cell? ⟨b,o+1,G⟩=I vk∧w.cell? ⟨b,o+2,G⟩=I (tL p.gone)∧w.cell? ⟨b,o+3,G⟩=I vv∧Qh base w vn p.name∧Qh base w vk p.key∧Qh base w vv p.value
def Xp(base:Nat)(w:F)(v:H)(l:List Zb):Prop:=∃a cap,v=J a l.length cap∧l.length<=cap∧((l=[]∧(a=G->cap=0))∨∃b o,a=I ⟨b,o,G⟩∧(b<base∨∃cur fz,w.heap[b]?=I (S cur 71 fz))∧∀i,i<l.length->OK base w b (o+i*4) (l.getD i Qr))
theorem Cg(base:Nat)(w:F):Xp base w (J G 0 0) []:=⟨G,0,rfl,sB _,.inl ⟨rfl,fun _=>rfl⟩⟩
theorem Xp.shape{base:Nat}{w:F}{v:H}{l:List Zb}(h:Xp base w v l):∃a cap,v=J a l.length cap:=by
 obtain⟨a,cap,rfl,_⟩:=h;exact⟨a,cap,rfl⟩
theorem Xp.oneCell{base:Nat}{w:F}{v:H}{l:List Zb}(h:Xp base w v l):v.oneCell'=M:=by
 obtain⟨a,cap,rfl,_⟩:=h;rfl
theorem Xp.list{base:Nat}{w:F}{v:H}{l:List Zb}(h:Xp base w v l):QR w v l:=by
 obtain⟨a,cap,rfl,hc,h⟩:=h;refine⟨a,cap,rfl,hc,?_⟩;rcases h with h|⟨b,o,rfl,_,h⟩;·exact .inl h
 ·refine .inr ⟨b,o,rfl,fun i hi=>?_⟩;obtain⟨vn,vk,vv,c1,c2,c3,c4,h1,h2,h3⟩:=h i hi;exact⟨vn,vk,vv,c1,c2,c3,c4,h1.1,h2.1,h3.1⟩
theorem Xp.kept{base:Nat}{w w':F}{v:H}{l:List Zb}(h:Xp base w v l){row:Option Nat}(hg:L w w' row)(hrow:row=G∨∃g cur t fz,row=I g∧base<=g∧w.heap[g]?=I (S cur t fz)∧t≠5∧t≠71):Xp base w' v l:=by
 obtain⟨a,cap,rfl,hc,h⟩:=h;refine⟨a,cap,rfl,hc,?_⟩;rcases h with h|⟨b,o,rfl,hb,h⟩;·exact .inl h
 ·by_cases h0:l=[];(·exact .inl ⟨h0,fun e=>by cases e⟩);·have hl:0<l.length:=rS.2 h0;(have hlt:b<w.heap.size:=by obtain⟨vn,vk,vv,c1,_⟩:=h 0 hl;exact Vy c1);(have hne:I b≠row:=by intro e;rcases hrow with rfl|⟨g,cur,t,fz,rfl,hbg,hgc,ht,ht2⟩;(·cases e);·cases e;rcases hb with hb|⟨cur2,fz2,hb⟩;(·omega);·rw[hb]at hgc;simp only[tA,tW]at hgc;exact ht2 hgc.2.1.symm);(have hrow':row=G∨∃g cur t fz,row=I g∧base<=g∧w.heap[g]?=I (S cur t fz)∧t≠5:=by rcases hrow with h|⟨g,cur,t,fz,h1,h2,h3,h4,_⟩;(·exact .inl h);·exact .inr ⟨g,cur,t,fz,h1,h2,h3,h4⟩);refine .inr ⟨b,o,rfl,?_,fun i hi=>?_⟩;(·rcases hb with hb|⟨cur,fz,hb⟩;(·exact .inl hb);·exact .inr ⟨cur,fz,by rw[hg.block b hlt hne];exact hb⟩);·obtain⟨vn,vk,vv,c1,c2,c3,c4,h1,h2,h3⟩:=h i hi;exact⟨vn,vk,vv,hg.cell c1 (by simpa using hne),hg.cell c2 (by simpa using hne),hg.cell c3 (by simpa using hne),hg.cell c4 (by simpa using hne),h1.keptT hg hrow',h2.keptT hg hrow',h3.keptT hg hrow'⟩
theorem Xp.grown{base:Nat}{w w':F}{v:H}{l:List Zb}(h:Xp base w v l)(hg:L w w' G):Xp base w' v l:=h.kept hg (.inl rfl)
def JY(w:F)(v:H)(c:XC):Prop:=∃vs,v=sR #[Y tC c.turn,vs]∧QR w vs c.writes
theorem JY.grown{w w':F}{v:H}{c:XC}(h:JY w v c)(hg:L w w' G):JY w' v c:=by
 obtain⟨vs,rfl,h⟩:=h;exact⟨vs,rfl,h.grown hg⟩
theorem JY.agg{w:F}{v:H}{c:XC}(h:JY w v c):∃a cap,v=sR #[Y tC c.turn,J a c.writes.length cap]:=by
 obtain⟨vs,rfl,h⟩:=h;obtain⟨a,cap,rfl⟩:=h.shape;exact⟨a,cap,rfl⟩
theorem JY.writes{w:F}{c:XC}{x y:H}(h:JY w (sR #[x,y]) c):x=Y tC c.turn∧QR w y c.writes:=by
 obtain⟨vs,e,h⟩:=h;injection e with e;injection e with e;injection e with e1 e;injection e with e2 e;exact⟨e1,e2▸h⟩
structure NA(c:XC):Prop where turn:-9223372036854775808<=c.turn∧c.turn<=9223372036854775807writes:jG c.writes
structure V2 where
  data : List UInt8
  synced : Int
def VK:V2:=⟨[],0⟩
def KP(w:F)(v:H)(t:V2):Prop:=∃vd,v=sR #[vd,Y tC t.synced]∧Qe w vd t.data
theorem KP.grown{w w':F}{v:H}{t:V2}(h:KP w v t)(hg:L w w' G):KP w' v t:=by
 obtain⟨vd,rfl,h⟩:=h;exact⟨vd,rfl,h.grown hg⟩
theorem KP.agg{w:F}{v:H}{t:V2}(h:KP w v t):∃a cap,v=sR #[J a t.data.length cap,Y tC t.synced]:=by
 obtain⟨vd,rfl,h⟩:=h;obtain⟨a,cap,rfl⟩:=h.shape;exact⟨a,cap,rfl⟩
theorem KP.data{w:F}{t:V2}{x y:H}(h:KP w (sR #[x,y]) t):Qe w x t.data∧y=Y tC t.synced:=by
 obtain⟨vd,e,h⟩:=h;injection e with e;injection e with e;injection e with e1 e;injection e with e2 e;exact⟨e1▸h,e2⟩
structure xV(t:V2):Prop where data:t.data.length<=140737488355328synced:-9223372036854775808<=t.synced∧t.synced<=9223372036854775807
def Yy(w:F)(v:H)(t:V2):Prop:=∃vd,v=sR #[vd,Y tC t.synced]∧Qh 0 w vd t.data
theorem Yy.is{w:F}{v:H}{t:V2}(h:Yy w v t):KP w v t:=by
 obtain⟨vd,rfl,h⟩:=h;exact⟨vd,rfl,h.slice⟩
theorem VU(w:F):Yy w (sR #[J G 0 0,Y tC 0]) VK:=⟨_,rfl,QK w,.inl rfl⟩
def Gv(t:V2):Bool:=tP (t.data.length<=200000)&&tP (0<=t.synced∧t.synced<=(t.data.length:Int))
theorem Kw(t:V2):Gv t=M↔t.data.length<=200000∧0<=t.synced∧t.synced<=(t.data.length:Int):=by
 unfold Gv;rw[rI,decide_eq_true_iff,decide_eq_true_iff]
def Tv(c:XC):List UInt8:=if QZ c=0then Zj c else[]
def Rs(t:V2):Int:=if Gv t=M then 0 else 6
def Kj(t:V2):V2:=if Gv t=M then⟨t.data,(t.data.length:Int)⟩else VK
def Uh(t:V2)(keep:Int):Int:=if Gv t=M then(if keep<0then 2 else 0)else 6
def Xv(t:V2)(keep:Int):Nat:=if keep<(t.data.length:Int)-t.synced then(t.synced+keep).toNat else t.data.length
def Xs(t:V2)(keep:Int):V2:=if Uh t keep=0then⟨t.data.take (Xv t keep),(Xv t keep:Int)⟩else VK
def Vb(D:List UInt8->List UInt8)(t:V2)(c:XC):Int:=if Gv t=M then(if QZ c=0then(if 200000<t.data.length+(ZI D c).length then 11 else 0)else QZ c)else 6
def zP(D:List UInt8->List UInt8)(t:V2)(c:XC):V2:=if Vb D t c=0then⟨t.data++ZI D c,t.synced⟩else VK
def Ey(t:V2):Int:=if Gv t=M then 0 else 6
def yD(D:List UInt8->List UInt8)(t:V2):List XC:=if Gv t=M then(Kx D 1 t.data).1 else[]
def zZ(D:List UInt8->List UInt8)(t:V2):V2:=if Gv t=M then⟨t.data.take (DV D t.data),if t.synced>(DV D t.data:Int)then(DV D t.data:Int)else t.synced⟩else VK
theorem TH:∀(ws:List Zb)(l:FL)(m:Nat),ZW l->(∀w∈ws,Qz w=0)->u7 m l->m+ws.length<=60->l.length+ws.length<=8->ZP l ws=0|[],l,m,_,_,_,_,_=>rfl|w::ws,l,m,h,hv,hs,hm,h8=>by have hw:=hv w (by simp);have hl:=P7 l w;simp only[sD]at hm h8;(have h2:XK l w=0:=by rw[zV h hw hs (by omega),if_neg (by omega)]);rw[ZP,if_pos hw,if_pos h2];exact TH ws _ (m+1) (Up h hw h2) (fun x hx=>hv x (tY _ hx)) (jL h.rises hs w) (by omega) (by omega)
theorem yF{D:List UInt8->List UInt8}(hD:∀x,(D x).length=4){c:XC}(hc:QZ c=0):6<=(ZI D c).length∧(ZI D c).length<=600:=by
 have h1:=Pu hD c;have h2:=U4 hc;omega
theorem BR(D:List UInt8->List UInt8)(cs:List XC)(i:Nat)(h:i<cs.length):QV D (cs.take (i+1))=QV D (cs.take i)++ZI D (cs.getD i Zn):=by
 rw[sU h,Vx,Po,show cs[i]=cs.getD i Zn by simp[h]]
theorem gS{D:List UInt8->List UInt8}{t:V2}(hm:Gv t=M){cs:List XC}{r:List UInt8}{n:Nat}(h:Kx D 1 t.data=(cs,r))(hn:DV D t.data=n):Ey t=0∧yD D t=cs∧zZ D t=⟨t.data.take n,if t.synced>(n:Int)then(n:Int)else t.synced⟩:=by
 refine⟨by rw[Ey,if_pos hm],by rw[yD,if_pos hm,h],by rw[zZ,if_pos hm,hn]⟩
theorem O4{D:List UInt8->List UInt8}(hD:∀x,(D x).length=4){cs:List XC}(h:qW 1 cs)(k:Nat)(s:Int)(hk:k<=(QV D cs).length)(hs:0<=s∧s<=(k:Int))(hl:(QV D cs).length<=200000):∃j,j<=cs.length∧(QV D (cs.take j)).length<=k∧(j<cs.length->k<(QV D (cs.take (j+1))).length)∧Ey ⟨(QV D cs).take k,s⟩=0∧yD D ⟨(QV D cs).take k,s⟩=cs.take j∧zZ D ⟨(QV D cs).take k,s⟩=⟨QV D (cs.take j),if s>((QV D (cs.take j)).length:Int)then((QV D (cs.take j)).length:Int)else s⟩:=by
 obtain⟨j,h1,h2,h3,h4,h5⟩:=Bl hD h k;have hkl:((QV D cs).take k).length=k:=by simp;omega
 have hm:Gv ⟨(QV D cs).take k,s⟩=M:=(Kw _).2 ⟨by show((QV D cs).take k).length<=_;omega,by show 0<=s∧s<=(((QV D cs).take k).length:Int);omega⟩;have hn:DV D ((QV D cs).take k)=(QV D (cs.take j)).length:=by rw[DV,h2,hkl];show k-(((QV D cs).take k).drop _).length=_;rw[pQ,hkl];omega
 obtain⟨a,b,c⟩:=gS hm h2 hn;refine⟨j,h1,h3,h5,a,b,?_⟩;rw[c];have e:((QV D cs).take k).take (QV D (cs.take j)).length=QV D (cs.take j):=by rw[pY,pZ h3];(conv=>lhs;rw[<-pI j cs,Vx]);rw[show(cs.take j++cs.drop j).take j=cs.take j by rw[pI]];exact List.take_left' rfl
 show(⟨((QV D cs).take k).take _,_⟩:V2)=_;rw[e]
def OC:FL->Nat->List XC->Int|_,_,[]=>0|f,i,c::cs=>if QZ c=0then(if c.turn=((i+1:Nat):Int)then(if QN f c.writes=0then OC (ZA f c.writes) (i+1) cs else QN f c.writes)else 3)else QZ c
def Vm:FL->List XC->FL|f,[]=>f|f,c::cs=>Vm (ZA f c.writes) cs
theorem vM:∀(a b:List XC)(f:FL),Vm f (a++b)=Vm (Vm f a) b|[],_,_=>rfl|_::a,b,_=>vM a b _
theorem Rr(cs:List XC)(f:FL)(c:XC):Vm f (cs++[c])=ZA (Vm f cs) c.writes:=by
 rw[vM];rfl
def vA:FL->Nat->List XC->Prop|_,_,[]=>True|f,i,c::cs=>QZ c=0∧c.turn=((i+1:Nat):Int)∧QN f c.writes=0∧vA (ZA f c.writes) (i+1) cs
theorem vA.take:∀{cs:List XC}{f:FL}{i:Nat}(_:vA f i cs)(j:Nat),vA f i (cs.take j)|[],_,_,_,j=>by rw[List.take_nil];trivial|_::_,_,_,_,0=>trivial|_::_,_,_,h,j+1=>⟨h.1,h.2.1,h.2.2.1,vA.take h.2.2.2 j⟩
theorem vA.at:∀{cs:List XC}{f:FL}{i:Nat}(_:vA f i cs)(j:Nat)(_:j<cs.length),QZ (cs.getD j Zn)=0∧(cs.getD j Zn).turn=((i+j+1:Nat):Int)∧QN (Vm f (cs.take j)) (cs.getD j Zn).writes=0|[],_,_,_,j,hj=>by simp at hj|c::cs,f,i,h,0,_=>⟨h.1,h.2.1,h.2.2.1⟩|c::cs,f,i,h,j+1,hj=>by have:=vA.at h.2.2.2 j (by simpa using hj);rw[show i+(j+1)+1=i+1+j+1by omega];simpa[Vm]using this
theorem Fx{l:FL}(h:ZW l)(ws:List Zb):ZW (ZA l ws):=by
 unfold ZA;by_cases h0:QN l ws=0;·rw[if_pos h0];unfold QN at h0;rw[if_pos ((XM l).2 h)]at h0;by_cases h10:10<ws.length;(·rw[if_pos h10]at h0;omega);·rw[if_neg h10]at h0;exact vD ws l h h0
 ·rw[if_neg h0];exact VI
theorem uV:∀(cs:List XC)(f:FL),ZW f->ZW (Vm f cs)|[],_,h=>h|c::cs,_,h=>uV cs _ (Fx h c.writes)
def Zl(n t:Int):Bool:=tP (0<=t∧t<=n∧n-t<6)
def Rb(a b:Zb):Prop:=a.name=b.name∧a.key=b.key
def Rl(l:List Zb):Prop:=l.Pairwise fun a b=>¬Rb a b
def XE(a b:Rd):Bool:=a.wide==b.wide&&(tP (a.name=b.name)&&(tP (a.key=b.key)&&tP (a.last=b.last)))
theorem qK(a b:Rd):XE a b=M↔a=b:=by
 obtain⟨n,k,w,l⟩:=a;obtain⟨n2,k2,w2,l2⟩:=b;simp only[XE,rI,decide_eq_true_iff,beq_iff_eq,Rd.mk.injEq];exact⟨fun⟨h1,h2,h3,h4⟩=>⟨h2,h3,h1,h4⟩,fun⟨h1,h2,h3,h4⟩=>⟨h3,h1,h2,h4⟩⟩
def ZX(a b:Zb):Bool:=tP (a.name=b.name)&&tP (a.key=b.key)
theorem qV(a b:Zb):ZX a b=M↔Rb a b:=by
 simp only[ZX,rI,decide_eq_true_iff];exact Iff.rfl
def GQ:List Rd->List Rd->Int|_,[]=>0|p,r::rs=>if XD r=0then(if p.any (fun q=>XE q r)=M then 3 else GQ (p++[r]) rs)else XD r
def xP:List Zb->List Zb->Int|_,[]=>0|p,w::ws=>if Qz w=0then(if p.any (fun q=>ZX q w)=M then 3 else xP (p++[w]) ws)else Qz w
theorem Tm:∀(rs p:List Rd),GQ p rs=0↔(∀r∈rs,XD r=0)∧(∀r∈rs,r∉p)∧rs.Nodup|[],p=>by simp[GQ]|r::rs,p=>by have ih:=Tm rs (p++[r]);rw[GQ];by_cases h1:XD r=0;(·rw[if_pos h1];by_cases h2:p.any (fun q=>XE q r)=M;(·rw[if_pos h2];refine⟨fun h=>by omega,fun h=>?_⟩;obtain⟨q,hq,he⟩:=sZ.1 h2;rw[(qK q r).1 he]at hq;exact absurd hq (h.2.1 r (sO ..)));·rw[if_neg h2,ih];have hr:r∉p:=fun hm=>h2 (sZ.2 ⟨r,hm,(qK r r).2 rfl⟩);constructor;(·rintro⟨a,b,c⟩;refine⟨fun x hx=>?_,fun x hx=>?_,pV.2 ⟨fun hm=>b r hm (by simp),c⟩⟩;(·rcases tK.1 hx with rfl|hx;(·exact h1);·exact a x hx);·rcases tK.1 hx with rfl|hx;(·exact hr);·exact fun hm=>b x hx (tZ.2 (.inl hm)));·rintro⟨a,b,c⟩;have c':=pV.1 c;refine⟨fun x hx=>a x (tY _ hx),fun x hx hm=>?_,c'.2⟩;rcases tZ.1 hm with hm|hm;(·exact b x (tY _ hx) hm);·simp only[tK,tQ,or_false]at hm;subst hm;exact c'.1 hx);·rw[if_neg h1];exact⟨fun h=>absurd h h1,fun h=>absurd (h.1 r (sO ..)) h1⟩
theorem DA:∀(ws p:List Zb),xP p ws=0↔(∀w∈ws,Qz w=0)∧(∀w∈ws,∀q∈p,¬Rb q w)∧Rl ws|[],p=>by simp[xP,Rl]|w::ws,p=>by have ih:=DA ws (p++[w]);rw[xP];by_cases h1:Qz w=0;(·rw[if_pos h1];by_cases h2:p.any (fun q=>ZX q w)=M;(·rw[if_pos h2];refine⟨fun h=>by omega,fun h=>?_⟩;obtain⟨q,hq,he⟩:=sZ.1 h2;exact absurd ((qV q w).1 he) (h.2.1 w (sO ..) q hq));·rw[if_neg h2,ih];have hr:∀q∈p,¬Rb q w:=fun q hm e=>h2 (sZ.2 ⟨q,hm,(qV q w).2 e⟩);constructor;(·rintro⟨a,b,c⟩;refine⟨fun x hx=>?_,fun x hx q hq=>?_,rD.2 ⟨fun x hx=>b x hx w (by simp),c⟩⟩;(·rcases tK.1 hx with rfl|hx;(·exact h1);·exact a x hx);·rcases tK.1 hx with rfl|hx;(·exact hr q hq);·exact b x hx q (tZ.2 (.inl hq)));·rintro⟨a,b,c⟩;have c':=rD.1 c;refine⟨fun x hx=>a x (tY _ hx),fun x hx q hm=>?_,c'.2⟩;rcases tZ.1 hm with hm|hm;(·exact b x (tY _ hx) q hm);·simp only[tK,tQ,or_false]at hm;subst hm;exact c'.1 x hx);·rw[if_neg h1];exact⟨fun h=>absurd h h1,fun h=>absurd (h.1 w (sO ..)) h1⟩
structure Tx where
  start : Int
  reads : List Rd
  writes : List Zb
def Fw:Tx:=⟨0,[],[]⟩
def Gf(t:Tx):Int:=if 0<=t.start∧t.start<=1048576then(if 20<t.reads.length∨10<t.writes.length then 1 else(if GQ [] t.reads=0then xP [] t.writes else GQ [] t.reads))else 2
structure GI (t : Tx) : Prop where
  start : 0 <= t.start ∧ t.start <= 1048576
  reads : t.reads.length <= 20
  writes : t.writes.length <= 10
  each : ∀ r ∈ t.reads, XD r = 0
  once : t.reads.Nodup
  wrs : ∀ w ∈ t.writes, Qz w = 0
  apart : Rl t.writes
theorem yI(t:Tx):Gf t=0↔GI t:=by
 unfold Gf;by_cases h1:0<=t.start∧t.start<=1048576;·rw[if_pos h1];by_cases h2:20<t.reads.length∨10<t.writes.length;(·rw[if_pos h2];exact⟨fun h=>by omega,fun h=>by have:=h.reads;have:=h.writes;omega⟩);·rw[if_neg h2];by_cases h3:GQ [] t.reads=0;(·rw[if_pos h3,DA];have h3':=(Tm _ _).1 h3;exact⟨fun h=>⟨h1,by omega,by omega,h3'.1,h3'.2.2,h.1,h.2.2⟩,fun h=>⟨h.wrs,fun _ _ _ hq=>by simp at hq,h.apart⟩⟩);·rw[if_neg h3];exact⟨fun h=>absurd h h3,fun h=>absurd ((Tm _ _).2 ⟨h.each,fun _ _ hq=>by simp at hq,h.once⟩) h3⟩
 ·rw[if_neg h1];exact⟨fun h=>by omega,fun h=>absurd h.start h1⟩
def Ex(t:Tx)(r:Rd):Bool:=t.reads.any (fun q=>XE q r)
theorem OG(t:Tx)(r:Rd):Ex t r=M↔r∈t.reads:=by
 unfold Ex;rw[sZ];exact⟨fun⟨q,hq,e⟩=>(qK q r).1 e▸hq,fun h=>⟨r,h,(qK r r).2 rfl⟩⟩
def Xi(t:Tx)(r:Rd):Int:=if Gf t=0then(if XD r=0then(if Ex t r=M then 0 else(if t.reads.length=20then 11 else 0))else XD r)else Gf t
def Yc(t:Tx)(r:Rd):Tx:=if Xi t r=0then(if Ex t r=M then t else⟨t.start,t.reads++[r],t.writes⟩)else Fw
theorem fU{t:Tx}(h:GI t){r:Rd}(hr:XD r=0):Xi t r=if Ex t r=M then 0 else(if t.reads.length=20then 11 else 0):=by
 rw[Xi,if_pos ((yI t).2 h),if_pos hr]
theorem eO{t:Tx}(h:GI t){r:Rd}(hr:XD r=0)(he:Xi t r=0):GI (Yc t r):=by
 rw[Yc,if_pos he];by_cases hh:Ex t r=M;·rw[if_pos hh];exact h
 ·rw[if_neg hh];rw[fU h hr,if_neg hh]at he;have hm:r∉t.reads:=fun e=>hh ((OG t r).2 e);(have h20:t.reads.length≠20:=fun e=>by rw[if_pos e]at he;omega);refine⟨h.start,?_,h.writes,fun x hx=>?_,?_,h.wrs,h.apart⟩;(·have:=h.reads;simp;omega);(·rcases tZ.1 hx with hx|hx;(·exact h.each x hx);·simp only[tK,tQ,or_false]at hx;rw[hx];exact hr);·rw[pN];refine⟨h.once,by simp,fun a ha b hb e=>?_⟩;simp only[tK,tQ,or_false]at hb;subst hb;subst e;exact hm ha
def Ft(l:List Zb)(w:Zb):Bool:=l.any (fun q=>ZX q w)
def zY:List Zb->Zb->List Zb|[],w=>[w]|a::l,w=>if ZX a w=M then w::l else a::zY l w
def ZY(t:Tx)(w:Zb):Int:=if Gf t=0then(if Qz w=0then(if Ft t.writes w=M then 0 else(if t.writes.length=10then 11 else 0))else Qz w)else Gf t
def X6(t:Tx)(w:Zb):Tx:=if ZY t w=0then⟨t.start,t.reads,zY t.writes w⟩else Fw
theorem Ca:∀(l:List Zb)(w:Zb),(zY l w).length=if Ft l w=M then l.length else l.length+1|[],w=>rfl|a::l,w=>by rw[zY,Ft,pB];by_cases h:ZX a w=M;(·rw[if_pos h,h];rfl);·rw[if_neg h,sD,Ca l w];(have hf:ZX a w=N:=by simpa using h);rw[hf,Bool.false_or];show _=if Ft l w=M then _ else _;by_cases h2:Ft l w=M;(·rw[if_pos h2,if_pos h2];rfl);·rw[if_neg h2,if_neg h2];rfl
theorem Tz:∀(l:List Zb)(w x:Zb),x∈zY l w->x=w∨x∈l|[],w,x,h=>by simpa[zY]using h|a::l,w,x,h=>by rw[zY]at h;by_cases h1:ZX a w=M;(·rw[if_pos h1]at h;rcases tK.1 h with h|h;(·exact .inl h);·exact .inr (tY _ h));·rw[if_neg h1]at h;rcases tK.1 h with h|h;(·exact .inr (by rw[h];exact sO ..));·exact(Tz l w x h).elim .inl fun h=>.inr (tY _ h)
theorem Cc{a b c:Zb}(h:Rb a b)(k:Rb b c):Rb a c:=⟨h.1.trans k.1,h.2.trans k.2⟩
theorem Tj:∀(l:List Zb)(w:Zb),Rl l->Rl (zY l w)|[],w,_=>List.pairwise_singleton ..|a::l,w,h=>by have h':=rD.1 h;rw[zY];by_cases h1:ZX a w=M;(·rw[if_pos h1];exact rD.2 ⟨fun x hx e=>h'.1 x hx (Cc ((qV a w).1 h1) e),h'.2⟩);·rw[if_neg h1];refine rD.2 ⟨fun x hx e=>?_,Tj l w h'.2⟩;rcases Tz l w x hx with rfl|hx;(·exact h1 ((qV _ _).2 e));·exact h'.1 x hx e
theorem OU{t:Tx}(h:GI t){w:Zb}(hw:Qz w=0):ZY t w=if Ft t.writes w=M then 0 else(if t.writes.length=10then 11 else 0):=by
 rw[ZY,if_pos ((yI t).2 h),if_pos hw]
theorem cL{t:Tx}(h:GI t){w:Zb}(hw:Qz w=0)(he:ZY t w=0):GI (X6 t w):=by
 rw[X6,if_pos he];rw[OU h hw]at he;refine⟨h.start,h.reads,?_,h.each,h.once,fun x hx=>?_,Tj _ _ h.apart⟩;·show(zY t.writes w).length<=10;rw[Ca];have:=h.writes;by_cases hh:Ft t.writes w=M;(·rw[if_pos hh];exact this);·rw[if_neg hh]at he⊢;(have h10:t.writes.length≠10:=fun e=>by rw[if_pos e]at he;omega);omega
 ·rcases Tz _ _ _ hx with rfl|hx;(·exact hw);·exact h.wrs x hx
def iW(l:List Zb)(n k:List UInt8):Option Zb:=l.find? fun q=>tP (q.name=n)&&tP (q.key=k)
theorem OF{l:List Zb}{n k:List UInt8}{w:Zb}(h:iW l n k=I w):w∈l∧w.name=n∧w.key=k:=by
 refine⟨List.mem_of_find?_eq_some h,?_⟩;have:=List.find?_some h;simpa using this
def lD(a b k:List UInt8):Bool:=!YI k a&&!YI b k
def KS(n a b:List UInt8)(l:PL)(w:Zb):PL:=if w.name=n∧lD a b w.key=M then(if w.gone=M then kB l w.key else J9 l (w.key,w.value))else l
def SC(n a b:List UInt8):PL->List Zb->PL|l,[]=>l|l,w::ws=>SC n a b (KS n a b l w) ws
def kO(n a b:List UInt8):PL->List Zb->Int|_,[]=>0|l,w::ws=>if 60<(KS n a b l w).length then 11 else kO n a b (KS n a b l w) ws
def XT(r:Rd)(w:Zb):Bool:=tP (r.name=w.name)&&(if r.wide=M then lD r.key r.last w.key else tP (r.key=w.key))
def gK(t:Tx)(ws:List Zb):Bool:=ws.any fun w=>t.reads.any fun r=>XT r w
def AU(t:Tx)(l:List XC):Bool:=l.any fun c=>tP (t.start<c.turn)&&gK t c.writes
def Tp(t:Tx):Int:=Gf t
def Jp(t:Tx)(l:List XC):Bool:=if Gf t=0then AU t l else N
def zS(l:FL)(t:Tx):Int:=if Q9 l=0then Gf t else Q9 l
def Kr(l:FL)(t:Tx)(n k:List UInt8):Int:=if zS l t=0then(if Qt n.length=0then Qq k.length else Qt n.length)else zS l t
def U3(l:FL)(t:Tx)(n k:List UInt8):Bool:=if Kr l t n k=0then(iW t.writes n k).isSome else N
def Vd(l:FL)(t:Tx)(n k:List UInt8):Bool:=if Kr l t n k=0then(match iW t.writes n k with|I w=>!w.gone|none=>U9 l n k)else N
def UU(l:FL)(t:Tx)(n k:List UInt8):List UInt8:=if Kr l t n k=0then(match iW t.writes n k with|I w=>w.value|none=>Vc l n k)else[]
theorem Lg{l:FL}{t:Tx}(hl:ZW l)(ht:GI t){n k:List UInt8}(hn:1<=n.length∧n.length<=8)(hk:1<=k.length∧k.length<=16):Kr l t n k=0:=by
 rw[Kr,zS,if_pos ((XM l).2 hl),if_pos ((yI t).2 ht),if_pos ((ZG _).2 hn),(Zx _).2 hk]
def JQ(l:FL)(t:Tx)(n a b:List UInt8):Int:=if zS l t=0then(if Qt n.length=0then(if Qq a.length=0then(if Qq b.length=0then kO n a b (Vf (YX l n) a b) t.writes else Qq b.length)else Qq a.length)else Qt n.length)else zS l t
def VV(l:FL)(t:Tx)(n a b:List UInt8):PL:=if JQ l t n a b=0then SC n a b (Vf (YX l n) a b) t.writes else[]
structure Rp where
  sess : Int
  code : Int
  turn : Int
  found : Bool
  value : List UInt8
  pairs : PL
  pf : Option (FL × List UInt8 × List UInt8)
def Ur(s:Nat)(e:Int):Rp:=⟨(s:Int),e,0,N,[],[],G⟩
def FZ(s:Nat)(t:Int):Rp:=⟨(s:Int),0,t,N,[],[],G⟩
structure Sv where
  up : Bool
  tape : V2
  commits : List XC
  synced : Nat
  begun : Nat -> Bool
  waits : Nat -> Bool
  txns : Nat -> Tx
  queue : List Nat
  out : List Rp
def Km{α:Type}(f:Nat->α)(i:Nat)(x:α):Nat->α:=fun j=>if j=i then x else f j
theorem ZJ{α:Type}(f:Nat->α)(i:Nat)(x:α):Km f i x i=x:=by
 simp[Km]
theorem Zm{α:Type}(f:Nat->α){i j:Nat}(x:α)(h:j≠i):Km f i x j=f j:=by
 simp[Km,h]
def V5(up:Bool)(t:V2)(cs:List XC)(o:List Rp):Sv:=⟨up,t,cs,cs.length,fun _=>N,fun _=>N,fun _=>Fw,[],o⟩
def AY:Sv:=V5 M VK [] []
def Zu(v:Sv)(r:Rp):Sv:={v with out:=v.out++[r]}
def QE(v:Sv)(n:Nat):FL:=Vm [] (v.commits.take n)
def K8(v:Sv)(s:Nat)(x:Rd)(o:Rp):Sv:=if Xi (v.txns s) x=0then Zu {v with txns:=Km v.txns s (Yc (v.txns s) x)} o else Zu v (Ur s (Xi (v.txns s) x))
def UH(v:Sv)(s:Nat)(w:Zb):Sv:=Zu (if ZY (v.txns s) w=0then{v with txns:=Km v.txns s (X6 (v.txns s) w)}else v) (Ur s (ZY (v.txns s) w))
def Ml(v:Sv)(s:Nat)(r:Rq):Sv:=if U3 (QE v (v.txns s).start.toNat) (v.txns s) r.name r.key=M then Zu v ⟨(s:Int),0,(v.txns s).start,Vd (QE v (v.txns s).start.toNat) (v.txns s) r.name r.key,UU (QE v (v.txns s).start.toNat) (v.txns s) r.name r.key,[],G⟩else K8 v s (Zv r) ⟨(s:Int),0,(v.txns s).start,Vd (QE v (v.txns s).start.toNat) (v.txns s) r.name r.key,UU (QE v (v.txns s).start.toNat) (v.txns s) r.name r.key,[],G⟩
def vH(v:Sv)(s:Nat)(r:Rq):Sv:=if JQ (QE v (v.txns s).start.toNat) (v.txns s) r.name r.key r.last=0then K8 v s (Zv r) ⟨(s:Int),0,(v.txns s).start,N,[],VV (QE v (v.txns s).start.toNat) (v.txns s) r.name r.key r.last,G⟩else Zu v (Ur s (JQ (QE v (v.txns s).start.toNat) (v.txns s) r.name r.key r.last))
def Gi(v:Sv)(s:Nat)(r:Rq):Sv:=if r.kind=4∨r.kind=5then UH v s (Zo r)else if r.kind=2then Ml v s r else vH v s r
def Yn(v:Sv)(s:Nat):XC:=⟨((v.commits.length+1:Nat):Int),(v.txns s).writes⟩
def Xk(v:Sv)(s:Nat):Sv:={v with begun:=Km v.begun s N}
def Jo(D:List UInt8->List UInt8)(v:Sv)(s:Nat):Sv:=if(v.txns s).writes.length=0then Zu (Xk v s) (FZ s (v.txns s).start)else if v.queue.length=6∨v.commits.length=300then Zu v (Ur s 11)else if Jp (v.txns s) v.commits=M then Zu (Xk v s) (Ur s 9)else if QN (QE v v.commits.length) (v.txns s).writes≠0then Zu (Xk v s) (Ur s (QN (QE v v.commits.length) (v.txns s).writes))else if Vb D v.tape (Yn v s)≠0then Zu (Xk v s) (Ur s (Vb D v.tape (Yn v s)))else{Xk v s with tape:=zP D v.tape (Yn v s),commits:=v.commits++[Yn v s],queue:=v.queue++[s],waits:=Km v.waits s M}
def Nq(v:Sv)(s:Nat)(r:Rq):Sv:=Zu v ⟨(s:Int),0,(v.synced:Int),U9 (QE v v.synced) r.name r.key,Vc (QE v v.synced) r.name r.key,[],I (QE v v.synced,r.name,r.key)⟩
def QD(v:Sv)(s:Nat)(r:Rq):Bool:=v.waits s||(if r.kind=1then v.begun s else !v.begun s)
def JE(D:List UInt8->List UInt8)(v:Sv)(s:Nat)(r:Rq):Sv:=if r.kind=8then Nq v s r else if QD v s r=M then Zu v (Ur s 6)else if r.kind=1then Zu {v with begun:=Km v.begun s M,txns:=Km v.txns s ⟨(v.synced:Int),[],[]⟩} (FZ s (v.synced:Int))else if r.kind=7then Zu (Xk v s) (Ur s 0)else if Zl (v.synced:Int) (v.txns s).start=N then Zu (Xk v s) (Ur s 10)else if r.kind=6then Jo D v s else Gi v s r
def Xl(D:List UInt8->List UInt8)(v:Sv)(s:Nat)(data:List UInt8):Sv:=if v.up=N then Zu v (Ur s 13)else if QI data=0then JE D v s (Qu data)else Zu v (Ur s (QI data))
def Us:Nat->List Nat->List Rp|_,[]=>[]|n,s::q=>FZ s ((n+1:Nat):Int)::Us (n+1) q
def KI(f:Nat->Bool)(q:List Nat):Nat->Bool:=fun j=>if j∈q then N else f j
def VB(v:Sv):Sv:={v with tape:=Kj v.tape,synced:=v.synced+v.queue.length,waits:=KI v.waits v.queue,queue:=[],out:=v.out++Us v.synced v.queue}
def UG(D:List UInt8->List UInt8)(v:Sv)(k:Int):Sv:=V5 N (zZ D (Xs v.tape k)) (yD D (Xs v.tape k)) v.out
def Vt(D:List UInt8->List UInt8)(v:Sv)(a:Ac):Sv:=if a.kind=1then Xl D v a.sess.toNat a.data else if a.kind=2then(if v.up=M then VB v else v)else if a.kind=3then(if v.up=M then UG D v a.keep else v)else{v with up:=M}
def Vh(D:List UInt8->List UInt8)(l:List Ac):Sv:=l.foldl (Vt D) AY
theorem Hy(D:List UInt8->List UInt8)(l:List Ac)(a:Ac):Vh D (l++[a])=Vt D (Vh D l) a:=by
 simp[Vh]
def G6(l:List Ac):Int:=Gd l
structure Oc where
  up : Bool
  turn : Int
  pending : Int
  forest : FL
  replies : List Rp
def vN(v:Sv):Oc:=⟨v.up,(v.synced:Int),(v.queue.length:Int),QE v v.synced,v.out⟩
def Ie:Oc:=⟨N,0,0,[],[]⟩
def xN(D:List UInt8->List UInt8)(l:List Ac):Oc:=if G6 l=0then vN (Vh D l)else Ie
section
theorem E5:∀{cs:List XC}{f:FL}{i:Nat},vA f i cs->qW (i+1) cs|[],_,_,_=>trivial|_::_,_,_,h=>⟨by rw[h.2.1],h.1,E5 h.2.2.2⟩
theorem Nv:∀{cs:List XC}{f:FL}{i:Nat}{c:XC},vA f i cs->QZ c=0->c.turn=((i+cs.length+1:Nat):Int)->QN (Vm f cs) c.writes=0->vA f i (cs++[c])|[],_,_,_,_,h1,h2,h3=>⟨h1,by rw[h2];rfl,h3,trivial⟩|d::cs,f,i,c,h,h1,h2,h3=>⟨h.1,h.2.1,h.2.2.1,Nv h.2.2.2 h1 (by rw[h2,sD];congr 1;omega) h3⟩
structure Zd (D : List UInt8 -> List UInt8) (v : Sv) : Prop where
  goes : vA [] 0 v.commits
  many : v.commits.length <= 300
  data : v.tape.data = QV D v.commits
  mark : v.tape.synced = ((QV D (v.commits.take v.synced)).length : Int)
  room : v.tape.data.length <= 200000
  turn : v.synced + v.queue.length = v.commits.length
  few : v.queue.length <= 6
  wait : ∀ s, v.waits s = M ↔ s ∈ v.queue
  once : v.queue.Nodup
  tx : ∀ s, v.begun s = M -> GI (v.txns s) ∧ (v.txns s).start <= (v.synced : Int)
  idle : ∀ s, v.waits s = M -> v.begun s = N
  down : v.up = N -> v.queue = [] ∧ ∀ s, v.begun s = N
variable{D:List UInt8->List UInt8}{v:Sv}
theorem Zd.tell(h:Zd D v)(r:Rp):Zd D (Zu v r):=⟨h.goes,h.many,h.data,h.mark,h.room,h.turn,h.few,h.wait,h.once,h.tx,h.idle,h.down⟩
theorem EW{f:Nat->Bool}{s j:Nat}(h:Km f s N j=M):j≠s∧f j=M:=by
 by_cases e:j=s;·rw[e,ZJ]at h;cases h
 ·exact⟨e,by rwa[Zm f _ e]at h⟩
theorem Zd.end(h:Zd D v)(s:Nat):Zd D (Xk v s):=by
 refine⟨h.goes,h.many,h.data,h.mark,h.room,h.turn,h.few,h.wait,h.once,fun j hj=>h.tx j (EW hj).2,fun j hj=>?_,fun hu=>⟨(h.down hu).1,fun j=>?_⟩⟩;·show Km v.begun s N j=N;by_cases e:j=s;(·rw[e,ZJ]);·rw[Zm _ _ e];exact h.idle j hj
 ·show Km v.begun s N j=N;by_cases e:j=s;(·rw[e,ZJ]);·rw[Zm _ _ e];exact(h.down hu).2 j
theorem Zd.txn(h:Zd D v){s:Nat}{t:Tx}(ht:GI t)(hs:t.start<=(v.synced:Int)):Zd D {v with txns:=Km v.txns s t}:=by
 refine⟨h.goes,h.many,h.data,h.mark,h.room,h.turn,h.few,h.wait,h.once,fun j hj=>?_,h.idle,h.down⟩;show GI (Km v.txns s t j)∧(Km v.txns s t j).start<=_;by_cases e:j=s;·rw[e,ZJ];exact⟨ht,hs⟩
 ·rw[Zm _ _ e];exact h.tx j hj
theorem Zd.may(h:Zd D v):Gv v.tape=M:=by
 refine(Kw _).2 ⟨h.room,?_⟩;rw[h.mark,h.data];have:=UR D v.commits v.synced v.commits.length (by have:=h.turn;omega);rw[sE]at this;omega
theorem kM{t:Tx}{r:Rd}(h:Xi t r=0):(Yc t r).start=t.start:=by
 rw[Yc,if_pos h];split<;>rfl
theorem CD{t:Tx}{w:Zb}(h:ZY t w=0):(X6 t w).start=t.start:=by
 rw[X6,if_pos h]
theorem Zd.note(h:Zd D v){s:Nat}(hb:v.begun s=M){x:Rd}(hx:XD x=0)(o:Rp):Zd D (K8 v s x o):=by
 obtain⟨h1,h2⟩:=h.tx s hb;unfold K8;by_cases e:Xi (v.txns s) x=0;·rw[if_pos e];exact(h.txn (eO h1 hx e) (by rw[kM e];exact h2)).tell _
 ·rw[if_neg e];exact h.tell _
theorem Zd.write(h:Zd D v){s:Nat}(hb:v.begun s=M){w:Zb}(hw:Qz w=0):Zd D (UH v s w):=by
 obtain⟨h1,h2⟩:=h.tx s hb;unfold UH;by_cases e:ZY (v.txns s) w=0;·rw[if_pos e];exact(h.txn (cL h1 hw e) (by rw[CD e];exact h2)).tell _
 ·rw[if_neg e];exact h.tell _
theorem kT{r:Rq}(h:XY r)(hk:r.kind=2∨r.kind=3):XD (Zv r)=0:=aY (by
 rw[(E0 h).1,if_pos hk])
theorem Pg{r:Rq}(h:XY r)(hk:r.kind=4∨r.kind=5):Qz (Zo r)=0:=Pb (by
 rw[(E0 h).2,if_pos hk])
theorem Zd.work(h:Zd D v){s:Nat}(hb:v.begun s=M){r:Rq}(hr:XY r)(hk:2<=r.kind∧r.kind<=5):Zd D (Gi v s r):=by
 unfold Gi;by_cases h1:r.kind=4∨r.kind=5;·rw[if_pos h1];exact h.write hb (Pg hr h1)
 ·rw[if_neg h1];by_cases h2:r.kind=2;(·rw[if_pos h2];unfold Ml;split;(·exact h.tell _);·exact h.note hb (kT hr (.inl h2)) _);·rw[if_neg h2];unfold vH;split;(·exact h.note hb (kT hr (.inr (by omega))) _);·exact h.tell _
theorem Fj{t:Tx}(ht:GI t)(hw:¬t.writes.length=0)(n:Nat)(hn:n<=300):QZ ⟨((n+1:Nat):Int),t.writes⟩=0:=(KN _).2 ⟨by
 show(1:Int)<=((n+1:Nat):Int)∧((n+1:Nat):Int)<=1048576;omega,⟨by
 show 1<=t.writes.length;omega,ht.writes⟩,ht.wrs⟩
theorem Bj(h:Zd D v){s:Nat}(hb:v.begun s=M)(h1:¬(v.txns s).writes.length=0)(h2:¬(v.queue.length=6∨v.commits.length=300))(h4:QN (QE v v.commits.length) (v.txns s).writes=0)(h5:Vb D v.tape (Yn v s)=0):Zd D {Xk v s with tape:=zP D v.tape (Yn v s),commits:=v.commits++[Yn v s],queue:=v.queue++[s],waits:=Km v.waits s M}:=by
 obtain⟨ht,hst⟩:=h.tx s hb;have hm:=h.many;have hc:QZ (Yn v s)=0:=Fj ht h1 _ hm;have hmay:=h.may;have hroom:v.tape.data.length+(ZI D (Yn v s)).length<=200000:=by rw[Vb,if_pos hmay,if_pos hc]at h5;by_cases e:200000<v.tape.data.length+(ZI D (Yn v s)).length;(·rw[if_pos e]at h5;exact absurd h5 (by decide));·omega
 have hT:zP D v.tape (Yn v s)=⟨v.tape.data++ZI D (Yn v s),v.tape.synced⟩:=by rw[zP,if_pos h5]
 have hnw:v.waits s≠M:=fun e=>by have:=h.idle s e;rw[hb]at this;cases this
 have hnq:s∉v.queue:=fun e=>hnw ((h.wait s).2 e);have hup:v.up=M:=by cases hu:v.up with|true=>rfl|false=>have:=(h.down hu).2 s;rw[hb]at this;cases this
 have htn:=h.turn;rw[hT];refine⟨?_,?_,?_,?_,?_,?_,?_,?_,?_,?_,?_,?_⟩;·refine Nv h.goes hc (by show((v.commits.length+1:Nat):Int)=_;congr 1;omega) ?_;rw[QE,sE]at h4;exact h4
 ·show(v.commits++[Yn v s]).length<=300;rw[tB,sA];omega
 ·show v.tape.data++ZI D (Yn v s)=QV D (v.commits++[Yn v s]);rw[Vx,Po,h.data]
 ·show v.tape.synced=((QV D ((v.commits++[Yn v s]).take v.synced)).length:Int);rw[List.take_append_of_le_length (by omega)];exact h.mark
 ·show(v.tape.data++ZI D (Yn v s)).length<=200000;rw[tB];exact hroom
 ·show v.synced+(v.queue++[s]).length=(v.commits++[Yn v s]).length;rw[tB,tB,sA,sA];omega
 ·show(v.queue++[s]).length<=6;have:=h.few;rw[tB,sA];omega
 ·intro j;show Km v.waits s M j=M↔j∈v.queue++[s];by_cases e:j=s;(·rw[e,ZJ];simp);·rw[Zm _ _ e,h.wait j];simp[e]
 ·show(v.queue++[s]).Nodup;rw[pN];exact⟨h.once,by simp,fun a ha b hb e=>hnq (by simp at hb;rw[<-hb,<-e];exact ha)⟩
 ·intro j hj;exact h.tx j (EW hj).2
 ·intro j hj;show Km v.begun s N j=N;by_cases e:j=s;(·rw[e,ZJ]);·rw[Zm _ _ e];exact h.idle j (by have:Km v.waits s M j=M:=hj;rwa[Zm _ _ e]at this)
 ·intro hu;have:v.up=N:=hu;rw[hup]at this;cases this
theorem Zd.commit(h:Zd D v){s:Nat}(hb:v.begun s=M):Zd D (Jo D v s):=by
 unfold Jo;by_cases h1:(v.txns s).writes.length=0;·rw[if_pos h1];exact(h.end s).tell _
 ·rw[if_neg h1];by_cases h2:v.queue.length=6∨v.commits.length=300;(·rw[if_pos h2];exact h.tell _);·rw[if_neg h2];by_cases h3:Jp (v.txns s) v.commits=M;(·rw[if_pos h3];exact(h.end s).tell _);·rw[if_neg h3];by_cases h4:QN (QE v v.commits.length) (v.txns s).writes≠0;(·rw[if_pos h4];exact(h.end s).tell _);·rw[if_neg h4];by_cases h5:Vb D v.tape (Yn v s)≠0;(·rw[if_pos h5];exact(h.end s).tell _);·rw[if_neg h5];exact Bj h hb h1 h2 (sQ h4) (sQ h5)
theorem Zd.req(h:Zd D v)(hup:v.up=M)(s:Nat){r:Rq}(hr:XY r):Zd D (JE D v s r):=by
 unfold JE;by_cases h1:r.kind=8;·rw[if_pos h1];exact h.tell _
 ·rw[if_neg h1];by_cases h2:QD v s r=M;(·rw[if_pos h2];exact h.tell _);·rw[if_neg h2];(have h2':v.waits s=N∧(if r.kind=1then v.begun s else !v.begun s)=N:=by unfold QD at h2;cases hw:v.waits s;(·rw[hw]at h2;exact⟨rfl,by simpa using h2⟩);·rw[hw]at h2;exact absurd rfl h2);by_cases h3:r.kind=1;(·rw[if_pos h3];refine Zd.tell ?_ _;have hm:=h.many;have htn:=h.turn;refine⟨h.goes,h.many,h.data,h.mark,h.room,h.turn,h.few,h.wait,h.once,fun j hj=>?_,fun j hj=>?_,fun hu=>?_⟩;(·show GI (Km v.txns s _ j)∧(Km v.txns s _ j).start<=_;by_cases e:j=s;(·rw[e,ZJ];exact⟨⟨by show(0:Int)<=(v.synced:Int)∧(v.synced:Int)<=1048576;omega,by simp,by simp,by simp,by simp,by simp,by simp[Rl]⟩,Int.le_refl _⟩);·rw[Zm _ _ e];exact h.tx j (by have:Km v.begun s M j=M:=hj;rwa[Zm _ _ e]at this));(·show Km v.begun s M j=N;have hj':v.waits j=M:=hj;by_cases e:j=s;(·rw[e,h2'.1]at hj';cases hj');·rw[Zm _ _ e];exact h.idle j hj');·have:v.up=N:=hu;rw[hup]at this;cases this);·rw[if_neg h3];(have hb:v.begun s=M:=by have:=h2'.2;rw[if_neg h3]at this;simpa using this);by_cases h4:r.kind=7;(·rw[if_pos h4];exact(h.end s).tell _);·rw[if_neg h4];by_cases h5:Zl (v.synced:Int) (v.txns s).start=N;(·rw[if_pos h5];exact(h.end s).tell _);·rw[if_neg h5];by_cases h6:r.kind=6;(·rw[if_pos h6];exact h.commit hb);·rw[if_neg h6];have hk:=hr.kind;exact h.work hb hr (by omega)
theorem Zd.ask(h:Zd D v)(s:Nat)(d:List UInt8):Zd D (Xl D v s d):=by
 unfold Xl;by_cases h1:v.up=N;·rw[if_pos h1];exact h.tell _
 ·rw[if_neg h1];by_cases h2:QI d=0;(·rw[if_pos h2];exact h.req (by simpa using h1) s ((X8 _).1 (Yt h2).1));·rw[if_neg h2];exact h.tell _
theorem Zd.sync(h:Zd D v):Zd D (VB v):=by
 have hm:=h.may;have htn:=h.turn;refine⟨h.goes,h.many,?_,?_,?_,?_,by simp[VB],?_,by simp[VB],?_,?_,?_⟩;·show(Kj v.tape).data=_;rw[Kj,if_pos hm];exact h.data
 ·show(Kj v.tape).synced=((QV D (v.commits.take (v.synced+v.queue.length))).length:Int);rw[Kj,if_pos hm,htn,sE,<-h.data]
 ·show(Kj v.tape).data.length<=_;rw[Kj,if_pos hm];exact h.room
 ·show v.synced+v.queue.length+([]:List Nat).length=v.commits.length;simpa using htn
 ·intro j;show KI v.waits v.queue j=M↔j∈([]:List Nat);rw[KI];constructor;(·intro e;split at e;(·cases e);·rename_i hq;exact absurd ((h.wait j).1 e) hq);·intro e;simp at e
 ·intro j hj;obtain⟨h1,h2⟩:=h.tx j hj;exact⟨h1,by show _<=((v.synced+v.queue.length:Nat):Int);have:(v.txns j).start<=(v.synced:Int):=h2;show(v.txns j).start<=_;omega⟩
 ·intro j hj;have:KI v.waits v.queue j=M:=hj;rw[KI]at this;split at this;(·cases this);·exact h.idle j this
 ·intro hu;exact⟨rfl,(h.down hu).2⟩
theorem LX{up:Bool}{t:V2}{cs:List XC}{o:List Rp}(hg:vA [] 0 cs)(hm:cs.length<=300)(hd:t=⟨QV D cs,((QV D cs).length:Int)⟩)(hr:(QV D cs).length<=200000):Zd D (V5 up t cs o):=by
 subst hd;refine⟨hg,hm,rfl,?_,hr,rfl,by simp[V5],fun s=>by simp[V5],by simp[V5],fun s hs=>by simp[V5]at hs,fun s hs=>by simp[V5]at hs,fun _=>⟨rfl,fun _=>rfl⟩⟩;show((QV D cs).length:Int)=((QV D (cs.take cs.length)).length:Int);rw[sE]
theorem Tu(D:List UInt8->List UInt8):Zd D AY:=LX trivial (by
 simp) rfl (by
 simp[QV])
theorem qJ(hD:∀x,(D x).length=4)(h:Zd D v){k:Int}(hk:0<=k):∃j,v.synced<=j∧j<=v.commits.length∧UG D v k=V5 N ⟨QV D (v.commits.take j),((QV D (v.commits.take j)).length:Int)⟩ (v.commits.take j) v.out∧(k=0->j=v.synced):=by
 have hm:=h.may;obtain⟨m1,m2,m3⟩:=(Kw _).1 hm;have hit:qW 1 v.commits:=E5 h.goes;have htn:=h.turn;have hce:Uh v.tape k=0:=by rw[Uh,if_pos hm,if_neg (by omega)]
 have hcn:Xv v.tape k<=v.tape.data.length∧v.tape.synced<=(Xv v.tape k:Int):=by rw[Xv];split<;>omega
 have hcT:Xs v.tape k=⟨(QV D v.commits).take (Xv v.tape k),(Xv v.tape k:Int)⟩:=by rw[Xs,if_pos hce,h.data]
 have hrl:(QV D v.commits).length<=200000:=by rw[<-h.data];exact h.room
 obtain⟨j,h1,h2,h3,_,h5,h6⟩:=O4 hD hit (Xv v.tape k) (Xv v.tape k:Int) (by rw[<-h.data];exact hcn.1) (by omega) hrl;have hsj:v.synced<=j:=by refine RG (D:=D) (cs:=v.commits) (k:=Xv v.tape k) (by omega) h3 ?_;have:=h.mark;omega
 have e:(if(Xv v.tape k:Int)>((QV D (v.commits.take j)).length:Int)then((QV D (v.commits.take j)).length:Int)else(Xv v.tape k:Int))=((QV D (v.commits.take j)).length:Int):=by split<;>omega
 refine⟨j,hsj,h1,?_,?_⟩;·rw[UG,hcT,h5,h6,e]
 ·intro hk0;by_cases hj:j=v.synced;(·exact hj);·exfalso;(have hn:(Xv v.tape k:Int)=v.tape.synced:=by rw[Xv,hk0];split<;>omega);have g1:=UR D v.commits (v.synced+1) j (by omega);have g2:=BR D v.commits v.synced (by omega);have hc:=(h.goes.at v.synced (by omega)).1;have g3:=(yF hD hc).1;have hmk:=h.mark;rw[g2,tB]at g1;omega
theorem Zd.crash(hD:∀x,(D x).length=4)(h:Zd D v){k:Int}(hk:0<=k):Zd D (UG D v k):=by
 obtain⟨j,h1,h2,h3,_⟩:=qJ hD h hk;have hm:=h.many;have hle:=UR D v.commits j v.commits.length h2;rw[sE,<-h.data]at hle;have hr:=h.room;rw[h3];exact LX (h.goes.take j) (by rw[rW];omega) rfl (by omega)
theorem Zd.start(h:Zd D v):Zd D {v with up:=M}:=⟨h.goes,h.many,h.data,h.mark,h.room,h.turn,h.few,h.wait,h.once,h.tx,h.idle,fun hu=>by
 cases hu⟩
theorem Zd.act(hD:∀x,(D x).length=4)(h:Zd D v){a:Ac}(ha:JG a):Zd D (Vt D v a):=by
 unfold Vt;by_cases h1:a.kind=1;·rw[if_pos h1];exact h.ask _ _
 ·rw[if_neg h1];by_cases h2:a.kind=2;(·rw[if_pos h2];split;(·exact h.sync);·exact h);·rw[if_neg h2];by_cases h3:a.kind=3;(·rw[if_pos h3];split;(·exact h.crash hD (ha.keep h3).1);·exact h);·rw[if_neg h3];exact h.start
theorem EU(hD:∀x,(D x).length=4):∀(l:List Ac)(v:Sv),Zd D v->(∀a∈l,JG a)->Zd D (l.foldl (Vt D) v)|[],_,h,_=>h|a::l,v,h,ha=>EU hD l _ (h.act hD (ha a (by simp))) (fun x hx=>ha x (by simp[hx]))
theorem DW(hD:∀x,(D x).length=4)(l:List Ac)(h:∀a∈l,JG a):Zd D (Vh D l):=EU hD l AY (Tu D) h
end
structure Same (v u : Sv) : Prop where
  up : u.up = v.up
  tape : u.tape = v.tape
  commits : u.commits = v.commits
  synced : u.synced = v.synced
  waits : u.waits = v.waits
  queue : u.queue = v.queue
structure fG (s : Nat) (v u : Sv) : Prop extends Same v u where
  out : ∃ r, u.out = v.out ++ [r] ∧ r.sess = (s : Int)
  begun : ∀ j, j ≠ s -> u.begun j = v.begun j
  txns : ∀ j, j ≠ s -> u.txns j = v.txns j
theorem K7(v:Sv)(s:Nat)(r:Rp)(h:r.sess=(s:Int)):fG s v (Zu v r):=⟨⟨rfl,rfl,rfl,rfl,rfl,rfl⟩,⟨r,rfl,h⟩,fun _ _=>rfl,fun _ _=>rfl⟩
theorem yP(v:Sv)(s:Nat)(r:Rp)(h:r.sess=(s:Int)):fG s v (Zu (Xk v s) r):=⟨⟨rfl,rfl,rfl,rfl,rfl,rfl⟩,⟨r,rfl,h⟩,fun _ hj=>Zm _ _ hj,fun _ _=>rfl⟩
theorem LI(v:Sv)(s:Nat)(t:Tx)(r:Rp)(h:r.sess=(s:Int)):fG s v (Zu {v with txns:=Km v.txns s t} r):=⟨⟨rfl,rfl,rfl,rfl,rfl,rfl⟩,⟨r,rfl,h⟩,fun _ _=>rfl,fun _ hj=>Zm _ _ hj⟩
theorem DX(v:Sv)(s:Nat)(x:Rd)(o:Rp)(h:o.sess=(s:Int)):fG s v (K8 v s x o):=by
 unfold K8;split;·exact LI v s _ _ h
 ·exact K7 v s _ rfl
theorem WU(v:Sv)(s:Nat)(w:Zb):fG s v (UH v s w):=by
 unfold UH;split;·exact LI v s _ _ rfl
 ·exact K7 v s _ rfl
theorem Ol(v:Sv)(s:Nat)(r:Rq):fG s v (Gi v s r):=by
 unfold Gi;split;·exact WU v s _
 ·split;(·unfold Ml;split;(·exact K7 v s _ rfl);·exact DX v s _ _ rfl);·unfold vH;split;(·exact DX v s _ _ rfl);·exact K7 v s _ rfl
structure OP (D : List UInt8 -> List UInt8) (s : Nat) (v u : Sv) : Prop where
  up : u.up = v.up
  tape : u.tape = zP D v.tape (Yn v s)
  commits : u.commits = v.commits ++ [Yn v s]
  synced : u.synced = v.synced
  waits : u.waits = Km v.waits s M
  queue : u.queue = v.queue ++ [s]
  out : u.out = v.out
  begun : u.begun = Km v.begun s N
  txns : u.txns = v.txns
  full : (v.txns s).writes.length ≠ 0
  room : v.queue.length ≠ 6 ∧ v.commits.length ≠ 300
  clash : Jp (v.txns s) v.commits = N
  fits : QN (QE v v.commits.length) (v.txns s).writes = 0
  app : Vb D v.tape (Yn v s) = 0
theorem IP(D:List UInt8->List UInt8)(v:Sv)(s:Nat):fG s v (Jo D v s)∨OP D s v (Jo D v s):=by
 unfold Jo;by_cases h1:(v.txns s).writes.length=0;·rw[if_pos h1];exact .inl (yP v s _ rfl)
 ·rw[if_neg h1];by_cases h2:v.queue.length=6∨v.commits.length=300;(·rw[if_pos h2];exact .inl (K7 v s _ rfl));·rw[if_neg h2];by_cases h3:Jp (v.txns s) v.commits=M;(·rw[if_pos h3];exact .inl (yP v s _ rfl));·rw[if_neg h3];by_cases h4:QN (QE v v.commits.length) (v.txns s).writes≠0;(·rw[if_pos h4];exact .inl (yP v s _ rfl));·rw[if_neg h4];by_cases h5:Vb D v.tape (Yn v s)≠0;(·rw[if_pos h5];exact .inl (yP v s _ rfl));·rw[if_neg h5];exact .inr ⟨rfl,rfl,rfl,rfl,rfl,rfl,rfl,rfl,rfl,h1,⟨fun e=>h2 (.inl e),fun e=>h2 (.inr e)⟩,by simpa using h3,sQ h4,sQ h5⟩
theorem gW(D:List UInt8->List UInt8)(v:Sv)(s:Nat)(r:Rq):fG s v (JE D v s r)∨(r.kind=6∧QD v s r=N∧OP D s v (JE D v s r)):=by
 unfold JE;by_cases h1:r.kind=8;·rw[if_pos h1];exact .inl (K7 v s _ rfl)
 ·rw[if_neg h1];by_cases h2:QD v s r=M;(·rw[if_pos h2];exact .inl (K7 v s _ rfl));·rw[if_neg h2];by_cases h3:r.kind=1;(·rw[if_pos h3];exact .inl ⟨⟨rfl,rfl,rfl,rfl,rfl,rfl⟩,⟨_,rfl,rfl⟩,fun _ hj=>Zm _ _ hj,fun _ hj=>Zm _ _ hj⟩);·rw[if_neg h3];by_cases h4:r.kind=7;(·rw[if_pos h4];exact .inl (yP v s _ rfl));·rw[if_neg h4];by_cases h5:Zl (v.synced:Int) (v.txns s).start=N;(·rw[if_pos h5];exact .inl (yP v s _ rfl));·rw[if_neg h5];by_cases h6:r.kind=6;(·rw[if_pos h6];rcases IP D v s with h|h;(·exact .inl h);·exact .inr ⟨h6,by simpa using h2,h⟩);·rw[if_neg h6];exact .inl (Ol v s r)
theorem gU(D:List UInt8->List UInt8)(v:Sv)(s:Nat)(d:List UInt8):fG s v (Xl D v s d)∨(v.up=M∧QI d=0∧(Qu d).kind=6∧v.waits s=N∧v.begun s=M∧OP D s v (Xl D v s d)):=by
 unfold Xl;by_cases h1:v.up=N;·rw[if_pos h1];exact .inl (K7 v s _ rfl)
 ·rw[if_neg h1];by_cases h2:QI d=0;(·rw[if_pos h2];rcases gW D v s (Qu d)with h|⟨h3,h4,h5⟩;(·exact .inl h);·right;unfold QD at h4;rw[if_neg (by omega)]at h4;simp only[rN,Bool.not_eq_false']at h4;exact⟨by simpa using h1,h2,h3,h4.1,h4.2,h5⟩);·rw[if_neg h2];exact .inl (K7 v s _ rfl)
theorem PY:∀(q:List Nat)(n:Nat),(Us n q).length=q.length|[],_=>rfl|_::q,n=>by rw[Us,sD,sD,PY q]
structure Gr where
  kind : Int
  sess : Int
  name : Int
  key : Int
  value : Int
def G0:Gr:=⟨0,0,0,0,0⟩
def JW(n:Int)(many:Nat):Nat:=if n<0then((-(n+1))%(many:Int)).toNat else(n%(many:Int)).toNat
theorem Va(n:Int){many:Nat}(h:0<many):JW n many<many:=by
 unfold JW;split;·have b0:=oC (-(n+1)) (show(many:Int)≠0 by omega);have b1:=pO (-(n+1)) (show(0:Int)<many by omega);omega
 ·have b0:=oC n (show(many:Int)≠0 by omega);have b1:=pO n (show(0:Int)<many by omega);omega
def CS(n:Int):List UInt8:=[sX (97+JW n 3)]
def eV(n:Int):List UInt8:=[sX (107+JW n 5)]
def lA(n:Int):List UInt8:=[sX (JW n 50)]
def Fu(k:Nat)(a b c d:List UInt8):Rq:=if k<4then⟨1,[],[],[],[]⟩else if k<7then⟨2,a,b,[],[]⟩else if k=7then⟨3,a,b,c,[]⟩else if k<12then⟨4,a,b,[],d⟩else if k=12then⟨5,a,b,[],[]⟩else if k<17then⟨6,[],[],[],[]⟩else if k=17then⟨7,[],[],[],[]⟩else⟨8,a,b,[],[]⟩
def Iy(g:Gr):Rq:=Fu (JW g.kind 20) (CS g.name) (eV g.key) (eV g.value) (lA g.value)
theorem eX(k:Nat){a b c d:List UInt8}(ha:a.length=1)(hb:b.length=1)(hc:c.length=1)(hd:d.length=1):XY (Fu k a b c d):=by
 unfold Fu;repeat' split
 all_goals(refine⟨⟨?_,?_⟩,?_,?_,?_,?_,?_,?_,?_,?_⟩<;>simp[Q4, *])
theorem F6(g:Gr):XY (Iy g):=eX _ rfl rfl rfl rfl
theorem fV{r:Rq}(h:XY r):xS r=Jn r:=by
 rw[xS,if_pos ((X8 r).2 h)]
structure Uj (l : FL) : Prop where
  many : l.length * 48 <= 140737488355328
  each : ∀ i, i < l.length -> (l.getD i ([], [])).1.length <= 140737488355328 ∧ kV (l.getD i ([], [])).2
theorem Uj.len{l:FL}(h:Uj l):l.length<=140737488355328:=by
 have:=h.many;omega
theorem ZW.fits{l:FL}(h:ZW l):Uj l:=by
 refine⟨by have:=h.room;omega,fun i hi=>?_⟩;have:=h.tens l[i] (sN hi);rw[show l[i]=l.getD i ([],[])by simp[hi]]at this;exact⟨by omega,this.2.2.fits⟩
def D4(w:F)(b o:Nat)(t:Tn):Prop:=∃vn vp,w.cell? ⟨b,o,G⟩=I vn∧w.cell? ⟨b,o+1,G⟩=I vp∧Qe w vn t.1∧Qs w vp t.2
theorem D4.grown{w w':F}{b o:Nat}{t:Tn}(h:D4 w b o t)(hg:L w w' G):D4 w' b o t:=by
 obtain⟨vn,vp,c1,c2,h1,h2⟩:=h;exact⟨vn,vp,hg.cell c1 (by simp),hg.cell c2 (by simp),h1.grown hg,h2.grown hg⟩
def ZD(w:F)(v:H)(l:FL):Prop:=∃a cap,v=J a l.length cap∧l.length<=cap∧((l=[]∧(a=G->cap=0))∨∃b o,a=I ⟨b,o,G⟩∧∀i,i<l.length->D4 w b (o+i*2) (l.getD i ([],[])))
theorem qN(w:F):ZD w (J G 0 0) []:=⟨G,0,rfl,sB _,.inl ⟨rfl,fun _=>rfl⟩⟩
theorem ZD.grown{w w':F}{v:H}{l:FL}(h:ZD w v l)(hg:L w w' G):ZD w' v l:=by
 obtain⟨a,cap,rfl,hc,h⟩:=h;refine⟨a,cap,rfl,hc,?_⟩;rcases h with h|⟨b,o,rfl,h⟩;·exact .inl h
 ·exact .inr ⟨b,o,rfl,fun i hi=>(h i hi).grown hg⟩
theorem ZD.shape{w:F}{v:H}{l:FL}(h:ZD w v l):∃a cap,v=J a l.length cap:=by
 obtain⟨a,cap,rfl,_⟩:=h;exact⟨a,cap,rfl⟩
theorem ZD.at{w:F}{a:Option rA}{n cap:Nat}{l:FL}(h:ZD w (J a n cap) l)(i:Nat)(hi:i<l.length):∃b o,a=I ⟨b,o,G⟩∧D4 w b (o+i*2) (l.getD i ([],[])):=by
 obtain⟨a',cap',e,hc,h⟩:=h;simp only[tH]at e;obtain⟨rfl,rfl,rfl⟩:=e;rcases h with⟨rfl,_⟩|⟨b,o,rfl,h⟩;·simp at hi
 ·exact⟨b,o,rfl,h i hi⟩
theorem gC:(61:Nat)≠5:=by
 decide
theorem fZ:(61:Nat)≠44:=by
 decide
def Zp(base:Nat)(w:F)(v:H)(l:FL):Prop:=∃vs:List (H×H),vs.length=l.length∧w.ownsRow base 61 2 v l.length (flat vs)∧∀i,i<l.length->Qh 0 w (vs.getD i (sJ,sJ)).1 (l.getD i ([],[])).1∧QO 0 w (vs.getD i (sJ,sJ)).2 (l.getD i ([],[])).2
theorem G7(base:Nat)(w:F):Zp base w (J G 0 0) []:=⟨[],rfl,sL _ _ _ _,fun i hi=>by
 simp at hi⟩
theorem Zp.row{base:Nat}{w:F}{v:H}{l:FL}(h:Zp base w v l):v.ownBlock=G∨∃g cur t fz,v.ownBlock=I g∧base<=g∧w.heap[g]?=I (S cur t fz)∧t≠5∧t≠44:=by
 obtain⟨vs,_,h,_⟩:=h;rcases h.2with⟨rfl,_⟩|⟨g,cap,cur,rfl,hb,hg,_⟩;·exact .inl rfl
 ·exact .inr ⟨g,cur,_,_,rfl,hb,hg,gC,fZ⟩
theorem Zp.row0{base:Nat}{w:F}{v:H}{l:FL}(h:Zp base w v l):v.ownBlock=G∨∃g cur t fz,v.ownBlock=I g∧0<=g∧w.heap[g]?=I (S cur t fz)∧t≠5∧t≠44:=by
 rcases h.row with h|⟨g,cur,t,fz,h1,_,h3⟩;·exact .inl h
 ·exact .inr ⟨g,cur,t,fz,h1,tR _,h3⟩
theorem iP{base:Nat}{w:F}{r:Option Nat}(h:r=G∨∃g cur t fz,r=I g∧base<=g∧w.heap[g]?=I (S cur t fz)∧t≠5∧t≠44):r=G∨∃g cur t fz,r=I g∧base<=g∧w.heap[g]?=I (S cur t fz)∧t≠5:=by
 rcases h with h|⟨g,cur,t,fz,h1,h2,h3,h4,_⟩;·exact .inl h
 ·exact .inr ⟨g,cur,t,fz,h1,h2,h3,h4⟩
theorem Zp.lt{base:Nat}{w:F}{v:H}{l:FL}(h:Zp base w v l):∀k,v.ownBlock=I k->base<=k∧k<w.heap.size:=by
 obtain⟨vs,_,h,_⟩:=h;exact sG h
theorem Zp.grownNone{base:Nat}{w w':F}{v:H}{l:FL}(h:Zp base w v l)(hg:L w w' G):Zp base w' v l:=by
 obtain⟨vs,h1,h2,h3⟩:=h;refine⟨vs,h1,tS h2 hg ?_,fun i hi=>⟨((h3 i hi).1).keptT hg (.inl rfl),((h3 i hi).2).kept hg (.inl rfl)⟩⟩;cases hv:v.ownBlock with|none=>exact .inl rfl|some k=>exact .inr (by simp)
theorem Zp.alloc{base:Nat}{w:F}{v:H}{l:FL}(h:Zp base w v l)(o:Obj):Zp base (w.alloc o) v l:=h.grownNone (sV _ _ _)
theorem Zp.shape{base:Nat}{w:F}{v:H}{l:FL}(h:Zp base w v l):∃a cap,v=J a l.length cap:=by
 obtain⟨vs,_,h,_⟩:=h;rcases h.2with⟨rfl,h0⟩|⟨g,cap,cur,rfl,_⟩;·exact⟨G,0,by rw[h0]⟩
 ·exact⟨_,cap,rfl⟩
theorem Zp.cells{base:Nat}{w:F}{g n cap:Nat}{vs:List (H×H)}{l:FL}(hr:w.ownsRow base 61 2 (J (I ⟨g,0,G⟩) n cap) l.length (flat vs)):∀j u,(flat vs)[j]?=I u->w.cell? ⟨g,j,G⟩=I u:=by
 intro j u hj;rcases hr.2with⟨e,_⟩|⟨g',cap',cur,e,hb,hg,hn,hm,hs,ht⟩;·cases e
 ·simp only[tH,tA,rG]at e;obtain⟨⟨rfl,_⟩,_,_⟩:=e;(have hlt:j<l.length*2:=by have:=(sI.1 hj).1;rw[hr.1]at this;exact this);(have e2:(cur.toList.take (l.length*2))[j]?=(flat vs)[j]?:=by rw[ht]);rw[sC,if_pos hlt,hj]at e2;simp[tU,hg];simpa using e2
theorem Zp.list{base:Nat}{w:F}{v:H}{l:FL}(h:Zp base w v l):ZD w v l:=by
 obtain⟨vs,hl,hr,h3⟩:=h;have hr':=hr;rcases hr.2with⟨rfl,h0⟩|⟨g,cap,cur,rfl,hb,hg,hn,hm,hs,ht⟩;·have:l=[]:=tJ h0;subst this;exact qN w
 ·refine⟨_,cap,rfl,hn,.inr ⟨g,0,rfl,fun i hi=>?_⟩⟩;have hf:=xL vs i (by omega);refine⟨(vs.getD i (sJ,sJ)).1,(vs.getD i (sJ,sJ)).2,?_,?_,(h3 i hi).1.1,(h3 i hi).2.list⟩;(·have:=Zp.cells hr' _ _ hf.1;rw[sM];exact this);·have:=Zp.cells hr' _ _ hf.2;rw[sM];exact this
theorem TP{base:Nat}{w W w1:F}{v:H}{l:FL}(h:L w W G)(ho:Zp base W v l)(hb:w.heap.size<=base)(hg:L W w1 v.ownBlock):L w w1 G:=⟨hg.os.trans h.os,hg.tape.trans h.tape,hg.output.trans h.output,tN h.size hg.size,fun i hi hn=>(hg.block i (tG hi h.size) (fun e=>by
 have:=(ho.lt i e.symm).1;omega)).trans (h.block i hi hn)⟩
theorem F0:(O.info? 61).map (fun i=>(i.zero,i.size,i.bytes))=I (I (sR #[J G 0 0,J G 0 0]),2,48):=by
 kernel_rfl
theorem jU{w:F}{o:rM}{a:Act}{K:Act->F->Prop}{Q:Exit->Act->F->Prop}(s x:rH)(ho:o.op=.call {callee:=.builtin .append,args:=#[s,x],argTypes:=#[28,28]})(base:Nat)(v:H)(l:FL)(hs:a.eval s=v)(hown:Zp base w v l)(vn vp:H)(t:Tn)(hk:Qh 0 w vn t.1)(hv:QO 0 w vp t.2)(nb:Nat)(hb:w.heap[nb]?=I (S #[vn,vp] 61))(hx:a.eval x=J (I ⟨nb,0,G⟩) 1 1)(hl:(l.length+1)*48<=140737488355328)(hbase:base<=w.heap.size)(h:∀v' w',Zp base w' v' (l++[t])->L w w' v.ownBlock->K (a.put o.dst v') w'):o.wp O a w K Q:=by
 obtain⟨i0,hi,hz0,hz1,hz2⟩:=r7 F0;have hrow:=hown.row0;obtain⟨vs,hvl,hr,hp⟩:=hown;refine wp_append_lies w s x 28 ho base 61 i0 (sR #[J G 0 0,J G 0 0]) 2 48 Tryz.underlying28 hi hz0 hz1 hz2 rfl (by decide) v l.length (flat vs) hs hr ⟨nb,0,G⟩ 1 1 (flat [(vn,vp)]) hx rfl (rB (cs:=#[vn,vp]) hb) ?_ (by omega) (by unfold pG;omega) hl hbase _ rfl ?_;·intro u hu;simp only[flat,tM,rJ,rO,tK,tQ,or_false]at hu;rcases hu with rfl|rfl;(·exact ZM hk);·exact xY hv
 ·intro g cap w' h1 h2 _ _;refine h _ w' ⟨vs++[(vn,vp)],by simp[hvl],?_,?_⟩ h2;(·rw[JS,tB];exact h1);·intro i hi;rw[Jh,Jh,hvl];by_cases hil:i<l.length;(·rw[if_pos hil,if_pos hil];exact⟨(hp i hil).1.keptT h2 (iP hrow),(hp i hil).2.kept h2 hrow⟩);·rw[if_neg hil,if_neg hil];(obtain rfl:i=l.length:=by simp at hi;omega);rw[oE];exact⟨hk.keptT h2 (iP hrow),hv.kept h2 hrow⟩
theorem FO{w:F}{ops:Array rM}{o:rM}{a:Act}{K:Act->F->Prop}{Q:Exit->Act->F->Prop}{E:Prop}(hgd:o.guard=G)(s x:rH)(ho:o.op=.call {callee:=.builtin .append,args:=#[s,x],argTypes:=#[28,28]})(base:Nat)(v:H)(l:FL)(hs:a.eval s=v)(hown:Zp base w v l)(vn vp:H)(t:Tn)(hk:Qh 0 w vn t.1)(hv:QO 0 w vp t.2)(nb:Nat)(hb:w.heap[nb]?=I (S #[vn,vp] 61))(hx:a.eval x=J (I ⟨nb,0,G⟩) 1 1)(hl:(l.length+1)*48<=140737488355328)(hbase:base<=w.heap.size)(h:∀v' w',Zp base w' v' (l++[t])->L w w' v.ownBlock->K (a.put o.dst v') w'):if sF o (r8 ops a.tmps)=M then Oper.wp O o a w K Q else E:=by
 have hw:sF o (r8 ops a.tmps)=M:=by simp[sF,hgd]
 rw[if_pos hw];exact jU s x ho base v l hs hown vn vp t hk hv nb hb hx hl hbase h
theorem uG{w:F}{ops:Array rM}{rest:List rM}{o:rM}{a:Act}{Q:Exit->Act->F->Prop}(hgd:o.guard=G)(s x:rH)(ho:o.op=.call {callee:=.builtin .append,args:=#[s,x],argTypes:=#[28,28]})(base:Nat)(v:H)(l:FL)(hs:a.eval s=v)(hown:Zp base w v l)(vn vp:H)(t:Tn)(hk:Qh 0 w vn t.1)(hv:QO 0 w vp t.2)(nb:Nat)(hb:w.heap[nb]?=I (S #[vn,vp] 61))(hx:a.eval x=J (I ⟨nb,0,G⟩) 1 1)(hl:(l.length+1)*48<=140737488355328)(hbase:base<=w.heap.size)(h:∀v' w',Zp base w' v' (l++[t])->L w w' v.ownBlock->wpList O ops Q rest (a.put o.dst v') w'):wpList O ops Q (o::rest) a w:=wpList_plain hgd fun _ hK=>jU s x ho base v l hs hown vn vp t hk hv nb hb hx hl hbase fun v' w' h1 h2=>hK _ _ (h v' w' h1 h2)
theorem Qi{w:F}{b i:Nat}{cs:Array H}{t:tX}{fz:Nat×Nat}{u:H}(h:w.heap[b]?=I (S cs t fz)):(tD w ⟨b,i,G⟩ u).heap[b]?=I (S (cs.setIfInBounds i u) t fz):=by
 simp only[tD,tV,if_true,h,rK];rfl
theorem Qx{w:F}{b c i:Nat}{o:Obj}{u:H}(h:w.heap[b]?=I o)(hne:b≠c):(tD w ⟨c,i,G⟩ u).heap[b]?=I o:=by
 simp only[tD,tV];rw[if_neg (fun e=>hne e.symm)];exact h
theorem YK(w:F)(b i:Nat)(u:H):L w (tD w ⟨b,i,G⟩ u) (I b):=Qg (Qb w _) i u
theorem Qh.setOther{base:Nat}{w:F}{v:H}{bs:List UInt8}(h:Qh base w v bs){b i:Nat}{cs:Array H}{t:tX}{fz:Nat×Nat}(hb:w.heap[b]?=I (S cs t fz))(ht:t≠5)(hbb:base<=b)(u:H):Qh base (tD w ⟨b,i,G⟩ u) v bs:=h.keptT (YK w b i u) (.inr ⟨b,cs,t,fz,rfl,hbb,hb,ht⟩)
def Q7(rb pb:Nat)(w:F)(v:H)(l:List Zb):Prop:=∃us:List WV,us.map (·.1)=l∧w.ownsRow rb 71 4 v l.length (Y0 us)∧∀x∈us,Qh pb w x.2.1 x.1.name∧Qh pb w x.2.2.1 x.1.key∧Qh pb w x.2.2.2 x.1.value
theorem Xw(rb pb:Nat)(w:F):Q7 rb pb w (J G 0 0) []:=⟨[],rfl,sL _ _ _ _,fun x hx=>by
 simp at hx⟩
theorem Q7.row{rb pb:Nat}{w:F}{v:H}{l:List Zb}(h:Q7 rb pb w v l):v.ownBlock=G∨∃g cur fz,v.ownBlock=I g∧rb<=g∧w.heap[g]?=I (S cur 71 fz):=by
 obtain⟨us,_,h,_⟩:=h;rcases h.2with⟨rfl,_⟩|⟨g,cap,cur,rfl,hb,hg,_⟩;·exact .inl rfl
 ·exact .inr ⟨g,cur,_,rfl,hb,hg⟩
theorem Q7.lt{rb pb:Nat}{w:F}{v:H}{l:List Zb}(h:Q7 rb pb w v l):∀k,v.ownBlock=I k->rb<=k∧k<w.heap.size:=by
 obtain⟨us,_,h,_⟩:=h;exact sG h
theorem Q7.ne{rb pb:Nat}{w:F}{v:H}{l:List Zb}(h:Q7 rb pb w v l){b:Nat}{cs:Array H}{t:tX}{fz:Nat×Nat}(hb:w.heap[b]?=I (S cs t fz))(ht:t≠71):v.ownBlock≠I b:=by
 intro e;rcases h.row with h0|⟨g,cur,fz2,h1,_,h2⟩;·rw[h0]at e;cases e
 ·rw[h1]at e;cases e;rw[hb]at h2;simp only[tA,tW]at h2;exact ht h2.2.1
theorem Q7.kept{rb pb:Nat}{w w':F}{v:H}{l:List Zb}(h:Q7 rb pb w v l){row:Option Nat}(hg:L w w' row)(hne:v.ownBlock=G∨v.ownBlock≠row)(hrow:row=G∨∃g cur t fz,row=I g∧pb<=g∧w.heap[g]?=I (S cur t fz)∧t≠5):Q7 rb pb w' v l:=by
 obtain⟨us,h1,h2,h3⟩:=h;exact⟨us,h1,tS h2 hg hne,fun x hx=>⟨(h3 x hx).1.keptT hg hrow,(h3 x hx).2.1.keptT hg hrow,(h3 x hx).2.2.keptT hg hrow⟩⟩
theorem Q7.grownNone{rb pb:Nat}{w w':F}{v:H}{l:List Zb}(h:Q7 rb pb w v l)(hg:L w w' G):Q7 rb pb w' v l:=h.kept hg (by
 cases hv:v.ownBlock with|none=>exact .inl rfl|some k=>exact .inr (by simp)) (.inl rfl)
theorem Q7.setOther{rb pb:Nat}{w:F}{v:H}{l:List Zb}(h:Q7 rb pb w v l){b i:Nat}{cs:Array H}{t:tX}{fz:Nat×Nat}(hb:w.heap[b]?=I (S cs t fz))(ht:t≠5)(ht2:t≠71)(hbb:pb<=b)(u:H):Q7 rb pb (tD w ⟨b,i,G⟩ u) v l:=h.kept (YK w b i u) (.inr (h.ne hb ht2)) (.inr ⟨b,cs,t,fz,rfl,hbb,hb,ht⟩)
theorem Q7.shape{rb pb:Nat}{w:F}{v:H}{l:List Zb}(h:Q7 rb pb w v l):∃a cap,v=J a l.length cap:=by
 obtain⟨us,_,h,_⟩:=h;rcases h.2with⟨rfl,h0⟩|⟨g,cap,cur,rfl,_⟩;·exact⟨G,0,by rw[h0]⟩
 ·exact⟨_,cap,rfl⟩
theorem Q7.any{rb pb:Nat}{w:F}{v:H}{l:List Zb}(h:Q7 rb pb w v l):∃a n cap,v=J a n cap:=by
 obtain⟨a,cap,e⟩:=h.shape;exact⟨a,_,cap,e⟩
theorem Q7.down{rb pb:Nat}{w:F}{v:H}{l:List Zb}(h:Q7 rb pb w v l)(rb':Nat)(hb:rb'<=rb):Q7 rb' pb w v l:=by
 obtain⟨us,h1,h2,h3⟩:=h;refine⟨us,h1,⟨h2.1,?_⟩,h3⟩;rcases h2.2with h|⟨g,cap,cur,e,hb2,rest⟩;·exact .inl h
 ·exact .inr ⟨g,cap,cur,e,tN hb hb2,rest⟩
theorem Q7.writesB{rb pb:Nat}{w:F}{v:H}{l:List Zb}(h:Q7 rb pb w v l):Xp pb w v l:=by
 obtain⟨us,hl,hr,h3⟩:=h;rcases hr.2with⟨rfl,h0⟩|⟨g,cap,cur,rfl,hb,hg,hn,hm,hs,ht⟩;·have:l=[]:=tJ h0;rw[this];exact Cg pb w
 ·(have hcell:∀j u,(Y0 us)[j]?=I u->w.cell? ⟨g,j,G⟩=I u:=by intro j u hj;(have hlt:j<l.length*4:=by have:=(sI.1 hj).1;rw[hr.1]at this;exact this);(have e2:(cur.toList.take (l.length*4))[j]?=(Y0 us)[j]?:=by rw[ht]);rw[sC,if_pos hlt,hj]at e2;simp[tU,hg];simpa using e2);refine⟨_,cap,rfl,hn,.inr ⟨g,0,rfl,.inr ⟨_,_,hg⟩,fun i hi=>?_⟩⟩;obtain⟨e1,e2⟩:=Wi hl i hi;(have hlen:us.length=l.length:=by rw[<-hl];simp);obtain⟨c1,c2,c3,c4⟩:=N4 us i (by omega);have hp:=h3 _ e2;rw[e1]at c3 hp;rw[sM];exact⟨_,_,_,hcell _ _ c1,hcell _ _ c2,hcell _ _ c3,hcell _ _ c4,hp.1,hp.2.1,hp.2.2⟩
theorem Q7.list{rb pb:Nat}{w:F}{v:H}{l:List Zb}(h:Q7 rb pb w v l):QR w v l:=h.writesB.list
theorem VY{rb pb:Nat}{w W w1:F}{v:H}{l:List Zb}(h:L w W G)(ho:Q7 rb pb W v l)(hb:w.heap.size<=rb)(hg:L W w1 v.ownBlock):L w w1 G:=⟨hg.os.trans h.os,hg.tape.trans h.tape,hg.output.trans h.output,tN h.size hg.size,fun i hi hn=>(hg.block i (tG hi h.size) (fun e=>by
 have:=(ho.lt i e.symm).1;omega)).trans (h.block i hi hn)⟩
def Ro(w:F)(b o:Nat)(r:Rd):Prop:=∃vn vk vl,w.cell? ⟨b,o,G⟩=I vn∧w.cell? ⟨b,o+1,G⟩=I vk∧w.cell? ⟨b,o+2,G⟩=I (tL r.wide)∧w.cell? ⟨b,o+3,G⟩=I vl∧Qe w vn r.name∧Qe w vk r.key∧Qe w vl r.last
theorem Ro.grown{w w':F}{b o:Nat}{r:Rd}(h:Ro w b o r)(hg:L w w' G):Ro w' b o r:=by
 obtain⟨vn,vk,vl,c1,c2,c3,c4,h1,h2,h3⟩:=h;exact⟨vn,vk,vl,hg.cell c1 (by simp),hg.cell c2 (by simp),hg.cell c3 (by simp),hg.cell c4 (by simp),h1.grown hg,h2.grown hg,h3.grown hg⟩
def Xd(w:F)(v:H)(l:List Rd):Prop:=∃a cap,v=J a l.length cap∧l.length<=cap∧((l=[]∧(a=G->cap=0))∨∃b o,a=I ⟨b,o,G⟩∧∀i,i<l.length->Ro w b (o+i*4) (l.getD i Zh))
theorem Bh(w:F):Xd w (J G 0 0) []:=⟨G,0,rfl,sB _,.inl ⟨rfl,fun _=>rfl⟩⟩
theorem Xd.shape{w:F}{v:H}{l:List Rd}(h:Xd w v l):∃a cap,v=J a l.length cap:=by
 obtain⟨a,cap,rfl,_⟩:=h;exact⟨a,cap,rfl⟩
theorem Xd.grown{w w':F}{v:H}{l:List Rd}(h:Xd w v l)(hg:L w w' G):Xd w' v l:=by
 obtain⟨a,cap,rfl,hc,h⟩:=h;refine⟨a,cap,rfl,hc,?_⟩;rcases h with h|⟨b,o,rfl,h⟩;·exact .inl h
 ·exact .inr ⟨b,o,rfl,fun i hi=>(h i hi).grown hg⟩
theorem Xd.at{w:F}{a:Option rA}{n cap:Nat}{l:List Rd}(h:Xd w (J a n cap) l)(i:Nat)(hi:i<l.length):∃b o,a=I ⟨b,o,G⟩∧Ro w b (o+i*4) (l.getD i Zh):=by
 obtain⟨a',cap',e,hc,h⟩:=h;simp only[tH]at e;obtain⟨rfl,rfl,rfl⟩:=e;rcases h with⟨rfl,_⟩|⟨b,o,rfl,h⟩;·simp at hi
 ·exact⟨b,o,rfl,h i hi⟩
structure lL (l : List Rd) : Prop where
  many : l.length * 80 <= 140737488355328
  each : ∀ i, i < l.length -> PR (l.getD i Zh)
structure xE (t : Tx) : Prop where
  start : -9223372036854775808 <= t.start ∧ t.start <= 9223372036854775807
  reads : lL t.reads
  writes : jG t.writes
def GS(w:F)(v:H)(t:Tx):Prop:=∃vr vw,v=sR #[Y tC t.start,vr,vw]∧Xd w vr t.reads∧QR w vw t.writes
theorem GS.grown{w w':F}{v:H}{t:Tx}(h:GS w v t)(hg:L w w' G):GS w' v t:=by
 obtain⟨vr,vw,rfl,h1,h2⟩:=h;exact⟨vr,vw,rfl,h1.grown hg,h2.grown hg⟩
theorem GS.agg{w:F}{v:H}{t:Tx}(h:GS w v t):∃ra rc wa wc,v=sR #[Y tC t.start,J ra t.reads.length rc,J wa t.writes.length wc]:=by
 obtain⟨vr,vw,rfl,h1,h2⟩:=h;obtain⟨ra,rc,rfl⟩:=h1.shape;obtain⟨wa,wc,rfl⟩:=h2.shape;exact⟨ra,rc,wa,wc,rfl⟩
theorem GS.parts{w:F}{t:Tx}{x y z:H}(h:GS w (sR #[x,y,z]) t):x=Y tC t.start∧Xd w y t.reads∧QR w z t.writes:=by
 obtain⟨vr,vw,e,h1,h2⟩:=h;simp only[Value.agg.injEq,Array.mk.injEq,List.cons.injEq,and_true]at e;obtain⟨rfl,rfl,rfl⟩:=e;exact⟨rfl,h1,h2⟩
theorem Ps{r:Rd}(h:XD r=0):PR r:=by
 obtain⟨h1,h2,h3⟩:=(EH r).1 h;refine⟨by omega,by omega,?_⟩;split at h3;·omega
 ·rw[h3];simp
abbrev RV:=Rd×H×H×H
def BP:RV:=(Zh,sJ,sJ,sJ)
def Gn(us:List RV):List H:=us.flatMap fun x=>[x.2.1,x.2.2.1,tL x.1.wide,x.2.2.2]
theorem Mk(a b:List RV):Gn (a++b)=Gn a++Gn b:=by
 simp[Gn]
theorem Nk:∀(us:List RV)(i:Nat),i<us.length->(Gn us)[i*4]?=I (us.getD i BP).2.1∧(Gn us)[i*4+1]?=I (us.getD i BP).2.2.1∧(Gn us)[i*4+2]?=I (tL (us.getD i BP).1.wide)∧(Gn us)[i*4+3]?=I (us.getD i BP).2.2.2|[],i,h=>by simp at h|x::us,0,_=>⟨rfl,rfl,rfl,rfl⟩|x::us,i+1,h=>by have:=Nk us i (by simpa using h);rw[show(i+1)*4=i*4+4by omega];exact this
theorem iU:(220:Nat)≠5:=by
 decide
theorem lB:(220:Nat)≠71:=by
 decide
def ZS(rb pb:Nat)(w:F)(v:H)(l:List Rd):Prop:=∃us:List RV,us.map (·.1)=l∧w.ownsRow rb 220 4 v l.length (Gn us)∧∀x∈us,Qh pb w x.2.1 x.1.name∧Qh pb w x.2.2.1 x.1.key∧Qh pb w x.2.2.2 x.1.last
theorem Ug(rb pb:Nat)(w:F):ZS rb pb w (J G 0 0) []:=⟨[],rfl,sL _ _ _ _,fun x hx=>by
 simp at hx⟩
theorem ZS.row{rb pb:Nat}{w:F}{v:H}{l:List Rd}(h:ZS rb pb w v l):v.ownBlock=G∨∃g cur fz,v.ownBlock=I g∧rb<=g∧w.heap[g]?=I (S cur 220 fz):=by
 obtain⟨us,_,h,_⟩:=h;rcases h.2with⟨rfl,_⟩|⟨g,cap,cur,rfl,hb,hg,_⟩;·exact .inl rfl
 ·exact .inr ⟨g,cur,_,rfl,hb,hg⟩
theorem ZS.lt{rb pb:Nat}{w:F}{v:H}{l:List Rd}(h:ZS rb pb w v l):∀k,v.ownBlock=I k->rb<=k∧k<w.heap.size:=by
 obtain⟨us,_,h,_⟩:=h;exact sG h
theorem ZS.ne{rb pb:Nat}{w:F}{v:H}{l:List Rd}(h:ZS rb pb w v l){b:Nat}{cs:Array H}{t:tX}{fz:Nat×Nat}(hb:w.heap[b]?=I (S cs t fz))(ht:t≠220):v.ownBlock≠I b:=by
 intro e;rcases h.row with h0|⟨g,cur,fz2,h1,_,h2⟩;·rw[h0]at e;cases e
 ·rw[h1]at e;cases e;rw[hb]at h2;simp only[tA,tW]at h2;exact ht h2.2.1
theorem ZS.kept{rb pb:Nat}{w w':F}{v:H}{l:List Rd}(h:ZS rb pb w v l){row:Option Nat}(hg:L w w' row)(hne:v.ownBlock=G∨v.ownBlock≠row)(hrow:row=G∨∃g cur t fz,row=I g∧pb<=g∧w.heap[g]?=I (S cur t fz)∧t≠5):ZS rb pb w' v l:=by
 obtain⟨us,h1,h2,h3⟩:=h;exact⟨us,h1,tS h2 hg hne,fun x hx=>⟨(h3 x hx).1.keptT hg hrow,(h3 x hx).2.1.keptT hg hrow,(h3 x hx).2.2.keptT hg hrow⟩⟩
theorem ZS.grownNone{rb pb:Nat}{w w':F}{v:H}{l:List Rd}(h:ZS rb pb w v l)(hg:L w w' G):ZS rb pb w' v l:=h.kept hg (by
 cases hv:v.ownBlock with|none=>exact .inl rfl|some k=>exact .inr (by simp)) (.inl rfl)
theorem ZS.setOther{rb pb:Nat}{w:F}{v:H}{l:List Rd}(h:ZS rb pb w v l){b i:Nat}{cs:Array H}{t:tX}{fz:Nat×Nat}(hb:w.heap[b]?=I (S cs t fz))(ht:t≠5)(ht2:t≠220)(hbb:pb<=b)(u:H):ZS rb pb (tD w ⟨b,i,G⟩ u) v l:=h.kept (YK w b i u) (.inr (h.ne hb ht2)) (.inr ⟨b,cs,t,fz,rfl,hbb,hb,ht⟩)
theorem ZS.down{rb pb:Nat}{w:F}{v:H}{l:List Rd}(h:ZS rb pb w v l)(rb':Nat)(hb:rb'<=rb):ZS rb' pb w v l:=by
 obtain⟨us,h1,h2,h3⟩:=h;refine⟨us,h1,⟨h2.1,?_⟩,h3⟩;rcases h2.2with h|⟨g,cap,cur,e,hb2,rest⟩;·exact .inl h
 ·exact .inr ⟨g,cap,cur,e,tN hb hb2,rest⟩
theorem ZS.shape{rb pb:Nat}{w:F}{v:H}{l:List Rd}(h:ZS rb pb w v l):∃a cap,v=J a l.length cap:=by
 obtain⟨us,_,h,_⟩:=h;rcases h.2with⟨rfl,h0⟩|⟨g,cap,cur,rfl,_⟩;·exact⟨G,0,by rw[h0]⟩
 ·exact⟨_,cap,rfl⟩
theorem Ip{us:List RV}{l:List Rd}(h:us.map (·.1)=l)(i:Nat)(hi:i<l.length):(us.getD i BP).1=l.getD i Zh∧us.getD i BP∈us:=by
 subst h;have hi':i<us.length:=by simpa using hi
 refine⟨by simp[hi'],?_⟩;rw[show us.getD i BP=us[i]by simp[hi']];exact sN hi'
theorem ZS.list{rb pb:Nat}{w:F}{v:H}{l:List Rd}(h:ZS rb pb w v l):Xd w v l:=by
 obtain⟨us,hl,hr,h3⟩:=h;rcases hr.2with⟨rfl,h0⟩|⟨g,cap,cur,rfl,hb,hg,hn,hm,hs,ht⟩;·have:l=[]:=tJ h0;rw[this];exact Bh w
 ·(have hcell:∀j u,(Gn us)[j]?=I u->w.cell? ⟨g,j,G⟩=I u:=by intro j u hj;(have hlt:j<l.length*4:=by have:=(sI.1 hj).1;rw[hr.1]at this;exact this);(have e2:(cur.toList.take (l.length*4))[j]?=(Gn us)[j]?:=by rw[ht]);rw[sC,if_pos hlt,hj]at e2;simp[tU,hg];simpa using e2);refine⟨_,cap,rfl,hn,.inr ⟨g,0,rfl,fun i hi=>?_⟩⟩;obtain⟨e1,e2⟩:=Ip hl i hi;(have hlen:us.length=l.length:=by rw[<-hl];simp);obtain⟨c1,c2,c3,c4⟩:=Nk us i (by omega);have hp:=h3 _ e2;rw[e1]at c3 hp;rw[sM];exact⟨_,_,_,hcell _ _ c1,hcell _ _ c2,hcell _ _ c3,hcell _ _ c4,hp.1.1,hp.2.1.1,hp.2.2.1⟩
theorem Ty{rb pb:Nat}{w W w1:F}{v:H}{l:List Rd}(h:L w W G)(ho:ZS rb pb W v l)(hb:w.heap.size<=rb)(hg:L W w1 v.ownBlock):L w w1 G:=⟨hg.os.trans h.os,hg.tape.trans h.tape,hg.output.trans h.output,tN h.size hg.size,fun i hi hn=>(hg.block i (tG hi h.size) (fun e=>by
 have:=(ho.lt i e.symm).1;omega)).trans (h.block i hi hn)⟩
theorem iS:(O.info? 220).map (fun i=>(i.zero,i.size,i.bytes))=I (I (sR #[J G 0 0,J G 0 0,tL N,J G 0 0]),4,80):=by
 kernel_rfl
def GN(w:F)(v:H)(t:Tx):Prop:=∃vr vw,v=sR #[Y tC t.start,vr,vw]∧ZS 0 0 w vr t.reads∧Q7 0 0 w vw t.writes
theorem GN.is{w:F}{v:H}{t:Tx}(h:GN w v t):GS w v t:=by
 obtain⟨vr,vw,rfl,h1,h2⟩:=h;exact⟨vr,vw,rfl,h1.list,h2.list⟩
theorem xC(w:F):GN w (sR #[Y tC 0,J G 0 0,J G 0 0]) Fw:=⟨_,_,rfl,Ug 0 0 w,Xw 0 0 w⟩
def Dd(w:F)(b o:Nat)(s:kS):Prop:=∃vo,w.cell? ⟨b,o,G⟩=I (Y tC s.bit)∧w.cell? ⟨b,o+1,G⟩=I (tL s.right)∧w.cell? ⟨b,o+2,G⟩=I vo∧Qe w vo s.other
theorem Dd.grown{w w':F}{b o:Nat}{s:kS}(h:Dd w b o s)(hg:L w w' G):Dd w' b o s:=by
 obtain⟨vo,c1,c2,c3,h1⟩:=h;exact⟨vo,hg.cell c1 (by simp),hg.cell c2 (by simp),hg.cell c3 (by simp),h1.grown hg⟩
def Gj(w:F)(v:H)(l:List kS):Prop:=∃a cap,v=J a l.length cap∧l.length<=cap∧((l=[]∧(a=G->cap=0))∨∃b o,a=I ⟨b,o,G⟩∧∀i,i<l.length->Dd w b (o+i*3) (l.getD i Lt))
theorem Ba(w:F):Gj w (J G 0 0) []:=⟨G,0,rfl,sB _,.inl ⟨rfl,fun _=>rfl⟩⟩
theorem Gj.grown{w w':F}{v:H}{l:List kS}(h:Gj w v l)(hg:L w w' G):Gj w' v l:=by
 obtain⟨a,cap,rfl,hc,h⟩:=h;refine⟨a,cap,rfl,hc,?_⟩;rcases h with h|⟨b,o,rfl,h⟩;·exact .inl h
 ·exact .inr ⟨b,o,rfl,fun i hi=>(h i hi).grown hg⟩
theorem Gj.shape{w:F}{v:H}{l:List kS}(h:Gj w v l):∃a cap,v=J a l.length cap:=by
 obtain⟨a,cap,rfl,_⟩:=h;exact⟨a,cap,rfl⟩
def UM(w:F)(v:H)(p:Cj):Prop:=∃vs vk vv,v=sR #[tL p.empty,vs,vk,vv]∧Gj w vs p.steps∧Qe w vk p.pair.1∧Qe w vv p.pair.2
theorem UM.grown{w w':F}{v:H}{p:Cj}(h:UM w v p)(hg:L w w' G):UM w' v p:=by
 obtain⟨vs,vk,vv,rfl,h0,h1,h2⟩:=h;exact⟨vs,vk,vv,rfl,h0.grown hg,h1.grown hg,h2.grown hg⟩
theorem Uv{w:F}{b:Nat}{x y:H}{t:tX}(h:w.heap[b]?=I (S #[x,y] t)):w.cell? ⟨b,0,G⟩=I x∧w.cell? ⟨b,1,G⟩=I y∧w.frozen? ⟨b,0,G⟩=N∧w.frozen? ⟨b,1,G⟩=N:=by
 refine⟨?_,?_,?_,?_⟩<;>simp[tU,rV,h]
theorem dE{w:F}{b:Nat}{x y:H}{t:tX}(h:w.heap[b]?=I (S #[x,y] t))(u v:H):((tD w ⟨b,0,G⟩ u).setCell ⟨b,1,G⟩ v).heap[b]?=I (S #[u,v] t):=by
 have h0:(tD w ⟨b,0,G⟩ u).heap[b]?=I (S #[u,y] t):=by simp only[tD,tV,if_true,h,rK];first|rfl|simp
 rw[tD,tV,if_pos rfl,h0];first|rfl|simp
theorem Ge{w:F}{b:Nat}{x y z:H}{t:tX}(h:w.heap[b]?=I (S #[x,y,z] t)):(w.cell? ⟨b,0,G⟩=I x∧w.cell? ⟨b,1,G⟩=I y∧w.cell? ⟨b,2,G⟩=I z)∧w.frozen? ⟨b,0,G⟩=N∧w.frozen? ⟨b,1,G⟩=N∧w.frozen? ⟨b,2,G⟩=N:=by
 refine⟨⟨?_,?_,?_⟩,?_,?_,?_⟩<;>simp[tU,rV,h]
theorem E8{w:F}{b:Nat}{x y z:H}{t:tX}(h:w.heap[b]?=I (S #[x,y,z] t))(x' y' z':H):(((tD w ⟨b,0,G⟩ x').setCell ⟨b,1,G⟩ y').setCell ⟨b,2,G⟩ z').heap[b]?=I (S #[x',y',z'] t):=by
 have h0:(tD w ⟨b,0,G⟩ x').heap[b]?=I (S #[x',y,z] t):=by simp only[tD,tV,if_true,h,rK];first|rfl|simp
 have h1:((tD w ⟨b,0,G⟩ x').setCell ⟨b,1,G⟩ y').heap[b]?=I (S #[x',y',z] t):=by rw[tD,tV,if_pos rfl,h0];first|rfl|simp
 rw[tD,tV,if_pos rfl,h1];first|rfl|simp
theorem Fc{w w1:F}(h:L w w1 G)(b:Nat)(hb:w.heap.size<=b)(x y z:H):L w (((tD w1 ⟨b,0,G⟩ x).setCell ⟨b,1,G⟩ y).setCell ⟨b,2,G⟩ z) G:=Qc (Qc (Qc h _ hb _ _) _ hb _ _) _ hb _ _
def iH(w:F)(b:Nat):Prop:=∃cur t fz,w.heap[b]?=I (S cur t fz)∧(t=5∨∃q,cur[0]?=I (Y pJ q))
def jD(w:F)(b:Nat):Prop:=∃cur t fz,w.heap[b]?=I (S cur t fz)∧t≠5∧∀q,cur[0]?≠I (Y pJ q)
theorem iH.ne{w:F}{a b:Nat}(h:iH w a)(h':jD w b):a≠b:=by
 rintro rfl;obtain⟨cur,t,fz,h1,h2⟩:=h;obtain⟨cur',t',fz',h3,h4,h5⟩:=h';rw[h1]at h3;simp only[tA,tW]at h3;obtain⟨rfl,rfl,_⟩:=h3;rcases h2 with h2|⟨q,h2⟩;·exact h4 h2
 ·exact h5 q h2
theorem jD.grown{w w':F}{b:Nat}(h:jD w b)(hg:L w w' G):jD w' b:=by
 obtain⟨cur,t,fz,h1,h2⟩:=h;exact⟨cur,t,fz,by rw[hg.block b (tI.1 h1).1 (by simp)];exact h1,h2⟩
theorem jD.set{w:F}{c:Nat}(h:jD w c)(i:Nat)(u:H)(hu:∀q,u≠Y pJ q):jD (tD w ⟨c,i,G⟩ u) c:=by
 obtain⟨cur,t,fz,h1,h2,h3⟩:=h;refine⟨cur.setIfInBounds i u,t,fz,?_,h2,fun q hq=>?_⟩;·simp only[tD,tV,if_true,h1,rK];first|rfl|simp
 ·rw[Array.getElem?_setIfInBounds]at hq;split at hq;(·split at hq;(·simp at hq;exact hu q hq);·cases hq);·exact h3 q hq
theorem Dh{w:F}{c:Nat}{x:H}{xs:List H}{t:tX}{fz:Nat×Nat}(h:w.heap[c]?=I (S ⟨x::xs⟩ t fz))(ht:t≠5)(hx:∀q,x≠Y pJ q):jD w c:=⟨_,t,fz,h,ht,fun q hq=>by
 simp at hq;exact hx q hq⟩
def XX(w:F)(v:H)(bs:List UInt8):Prop:=Qe w v bs∧(bs=[]∨∃b,v.ownBlock=I b∧b<w.heap.size∧iH w b)
theorem i4:(144:Nat)≠5:=by
 decide
theorem Ut(w:F):XX w (J G 0 0) []:=⟨QK _,.inl rfl⟩
theorem Za.partS{base':Nat}{w:F}{v:H}{bs:List UInt8}(h:Za base' w v bs):XX w v bs:=by
 refine⟨h.slice,?_⟩;rcases h.2with⟨rfl,h0⟩|⟨g,cap,cur,rfl,hb,hg,_⟩;·exact .inl (tJ h0)
 ·exact .inr ⟨g,rfl,(tI.1 hg).1,cur,_,_,hg,.inl rfl⟩
theorem ZN.partS{w:F}{nb:Nat}{bs:List UInt8}(h:ZN w nb bs)(hl:bs.length=32):XX w (J (I ⟨nb,0,G⟩) 32 32) bs:=by
 refine⟨h.slice32 hl,.inr ⟨nb,rfl,Vy (h.cell 0 (by omega)),?_⟩⟩;have hc:=h.cell 0 (by omega);obtain⟨t,hb⟩:=h;refine⟨_,t,_,hb,.inr ⟨((bs.getD 0 0).toNat:Int),?_⟩⟩;·simpa[tU,hb]using hc
theorem EA{w:F}{v:H}{bs:List UInt8}(h:XX w v bs):v.oneCell'=M:=by
 obtain⟨⟨a,cap,rfl,_⟩,_⟩:=h;rfl
def lE(w:F)(row:Option Nat):Prop:=row=G∨∃g,row=I g∧jD w g
theorem XX.kept{w w':F}{v:H}{bs:List UInt8}(h:XX w v bs){row:Option Nat}(hg:L w w' row)(hrow:lE w row):XX w' v bs:=by
 obtain⟨hs,ho⟩:=h;rcases ho with rfl|⟨b,hb,hlt,hc⟩;·obtain⟨a,cap,rfl,hc,h⟩:=hs;refine⟨⟨a,cap,rfl,hc,?_⟩,.inl rfl⟩;rcases h with h|⟨b,o,rfl,h⟩;(·exact .inl h);·exact .inr ⟨b,o,rfl,fun i hi=>by simp at hi⟩
 ·(have hne:I b≠row:=by intro e;rcases hrow with rfl|⟨g,rfl,hg'⟩;(·cases e);·cases e;exact hc.ne hg' rfl);have hblk:=hg.block b hlt hne;refine⟨?_,.inr ⟨b,hb,tG hlt hg.size,?_⟩⟩;(·obtain⟨a,cap,rfl,hcp,h⟩:=hs;refine⟨a,cap,rfl,hcp,?_⟩;rcases h with h|⟨b',o,rfl,h⟩;(·exact .inl h);·refine .inr ⟨b',o,rfl,fun i hi=>?_⟩;simp[pE]at hb;subst hb;exact hg.cell (h i hi) (by simpa using hne));·obtain⟨cur,t,fz,hc,hc2⟩:=hc;exact⟨cur,t,fz,by rw[hblk];exact hc,hc2⟩
theorem XX.grown{w w':F}{v:H}{bs:List UInt8}(h:XX w v bs)(hg:L w w' G):XX w' v bs:=h.kept hg (.inl rfl)
theorem XX.set{w:F}{v:H}{bs:List UInt8}(h:XX w v bs){c:Nat}(hc:jD w c)(i:Nat)(u:H):XX (tD w ⟨c,i,G⟩ u) v bs:=h.kept (Qg (Qb _ (I c)) i u) (.inr ⟨c,rfl,hc⟩)
abbrev SV:=kS×H
def Wg:SV:=(Lt,sJ)
def Ue(us:List SV):List H:=us.flatMap fun x=>[Y tC x.1.bit,tL x.1.right,x.2]
theorem Dk(a b:List SV):Ue (a++b)=Ue a++Ue b:=by
 simp[Ue]
theorem Me:∀(us:List SV)(i:Nat),i<us.length->(Ue us)[i*3]?=I (Y tC (us.getD i Wg).1.bit)∧(Ue us)[i*3+1]?=I (tL (us.getD i Wg).1.right)∧(Ue us)[i*3+2]?=I (us.getD i Wg).2|[],i,h=>by simp at h|x::r,0,_=>by simp[Ue]|x::r,i+1,h=>by have:=Me r i (by simpa using h);rw[show(i+1)*3=i*3+3by omega,show i*3+3+1=(i*3+1)+3by omega,show i*3+3+2=(i*3+2)+3by omega];simpa[Ue]using this
theorem Wp(us:List SV):∀u∈Ue us,(∀x∈us,x.2.oneCell'=M)->u.oneCell'=M:=by
 intro u hu h;obtain⟨x,hx,hu⟩:=List.mem_flatMap.1 hu;simp only[tK,tQ,or_false]at hu;rcases hu with rfl|rfl|rfl;·rfl
 ·rfl
 ·exact h x hx
def JL(base:Nat)(w:F)(v:H)(l:List kS):Prop:=∃us:List SV,us.map (·.1)=l∧w.ownsRow base 144 3 v l.length (Ue us)∧(∀x∈us,XX w x.2 x.1.other)∧(l=[]->v=J G 0 0)
theorem uL(base:Nat)(w:F):JL base w (J G 0 0) []:=⟨[],rfl,sL _ _ _ _,fun x hx=>by
 simp at hx,fun _=>rfl⟩
theorem JL.row{base:Nat}{w:F}{v:H}{l:List kS}(h:JL base w v l):lE w v.ownBlock:=by
 obtain⟨us,hm,h,_,h0⟩:=h;cases l with|nil=>rw[h0 rfl];exact .inl rfl|cons x r=>rcases h.2with⟨rfl,_⟩|⟨g,cap,cur,rfl,hb,hg,hn,_,_,ht⟩;(·exact .inl rfl);·refine .inr ⟨g,rfl,cur,_,_,hg,i4,fun q=>?_⟩;cases us with|nil=>simp at hm|cons u us=>simp only[List.map_cons,List.cons.injEq]at hm;(have e:(cur.toList.take ((x::r).length*3))[0]?=(Ue (u::us))[0]?:=by rw[ht]);rw[sC,if_pos (by simp)]at e;rw[<-rY,e];simp[Ue]
theorem JL.lt{base:Nat}{w:F}{v:H}{l:List kS}(h:JL base w v l):∀k,v.ownBlock=I k->base<=k∧k<w.heap.size:=by
 obtain⟨us,_,h,_⟩:=h;exact sG h
theorem JL.grownNone{base:Nat}{w w':F}{v:H}{l:List kS}(h:JL base w v l)(hg:L w w' G):JL base w' v l:=by
 obtain⟨us,h1,h2,h3,h4⟩:=h;refine⟨us,h1,tS h2 hg ?_,fun x hx=>(h3 x hx).grown hg,h4⟩;cases hv:v.ownBlock with|none=>exact .inl rfl|some k=>exact .inr (by simp)
theorem JL.alloc{base:Nat}{w:F}{v:H}{l:List kS}(h:JL base w v l)(o:Obj):JL base (w.alloc o) v l:=h.grownNone (sV _ _ _)
theorem JL.shape{base:Nat}{w:F}{v:H}{l:List kS}(h:JL base w v l):∃a cap,v=J a l.length cap:=by
 obtain⟨us,_,h,_⟩:=h;rcases h.2with⟨rfl,h0⟩|⟨g,cap,cur,rfl,_⟩;·exact⟨G,0,by rw[h0]⟩
 ·exact⟨_,cap,rfl⟩
theorem JL.cells{base:Nat}{w:F}{g n cap:Nat}{us:List SV}{k:Nat}(hr:w.ownsRow base 144 3 (J (I ⟨g,0,G⟩) n cap) k (Ue us)):∀j u,(Ue us)[j]?=I u->w.cell? ⟨g,j,G⟩=I u:=by
 intro j u hj;rcases hr.2with⟨e,_⟩|⟨g',cap',cur,e,hb,hg,hn,hm,hs,ht⟩;·cases e
 ·simp only[tH,tA,rG]at e;obtain⟨⟨rfl,_⟩,_,_⟩:=e;(have hlt:j<k*3:=by have:=(sI.1 hj).1;rw[hr.1]at this;exact this);(have e2:(cur.toList.take (k*3))[j]?=(Ue us)[j]?:=by rw[ht]);rw[sC,if_pos hlt,hj]at e2;simp[tU,hg];simpa using e2
theorem aX{us:List SV}{l:List kS}(h:us.map (·.1)=l)(i:Nat)(hi:i<l.length):(us.getD i Wg).1=l.getD i Lt∧us.getD i Wg∈us:=by
 subst h;have hi':i<us.length:=by simpa using hi
 constructor;·simp[hi']
 ·rw[show us.getD i Wg=us[i]by simp[hi']];exact sN _
theorem JL.list{base:Nat}{w:F}{v:H}{l:List kS}(h:JL base w v l):Gj w v l:=by
 obtain⟨us,hl,hr,h3,_⟩:=h;have hul:us.length=l.length:=by rw[<-hl];simp
 rcases hr.2with⟨rfl,h0⟩|⟨g,cap,cur,rfl,hb,hg,hn,hm,hs,ht⟩;·have:l=[]:=tJ h0;subst this;exact Ba w
 ·refine⟨_,cap,rfl,hn,.inr ⟨g,0,rfl,fun i hi=>?_⟩⟩;obtain⟨e1,e2⟩:=aX hl i hi;obtain⟨c1,c2,c3⟩:=Me us i (by omega);have hp:=h3 _ e2;rw[e1]at c1 c2 hp;rw[sM];exact⟨_,JL.cells hr _ _ c1,JL.cells hr _ _ c2,JL.cells hr _ _ c3,hp.1⟩
theorem JL.set{base:Nat}{w:F}{v:H}{l:List kS}(h:JL base w v l){c:Nat}(hc:jD w c)(hne:c<base)(i:Nat)(u:H):JL base (tD w ⟨c,i,G⟩ u) v l:=by
 have hlt:=h.lt;obtain⟨us,h1,h2,h3,h4⟩:=h;refine⟨us,h1,tS h2 (Qg (Qb _ (I c)) i u) ?_,fun x hx=>(h3 x hx).set hc i u,h4⟩;cases hv:v.ownBlock with|none=>exact .inl rfl|some k=>exact .inr (by have:=(hlt k hv).1;simp;omega)
theorem gZ:(46:Nat)≠5:=by
 decide
theorem lK:(44:Nat)≠5:=by
 decide
theorem Vu{W:F}{pb:Nat}{x y:H}(h:W.heap[pb]?=I (S #[x,y] 44))(hx:∀q,x≠Y pJ q)(ua va:Option rA)(un uc vn vc:Nat){z:H}{bs:List UInt8}(hz:XX W z bs):XX ((tD W ⟨pb,0,G⟩ (J ua un uc)).setCell ⟨pb,1,G⟩ (J va vn vc)) z bs:=have h0:jD W pb:=Dh (xs:=[y]) h lK hx;have h1:=h0.set 0 (J ua un uc) (fun q=>by
 simp);(hz.set h0 0 _).set h1 1 _
theorem XX.quad{w:F}{v:H}{bs:List UInt8}(h:XX w v bs){c:Nat}(hc:jD w c){e:Bool}{sa:Option rA}{sn sc:Nat}{ka va:Option rA}{kn kc vn vc:Nat}:XX ((((tD w ⟨c,0,G⟩ (tL e)).setCell ⟨c,1,G⟩ (J sa sn sc)).setCell ⟨c,2,G⟩ (J ka kn kc)).setCell ⟨c,3,G⟩ (J va vn vc)) v bs:=have h1:=hc.set 0 (tL e) (fun q=>by
 simp);have h2:=h1.set 1 (J sa sn sc) (fun q=>by
 simp);have h3:=h2.set 2 (J ka kn kc) (fun q=>by
 simp);(((h.set hc 0 _).set h1 1 _).set h2 2 _).set h3 3 _
theorem JL.quad{base:Nat}{w:F}{v:H}{l:List kS}(h:JL base w v l){c:Nat}(hc:jD w c)(hne:c<base){e:Bool}{sa:Option rA}{sn sc:Nat}{ka va:Option rA}{kn kc vn vc:Nat}:JL base ((((tD w ⟨c,0,G⟩ (tL e)).setCell ⟨c,1,G⟩ (J sa sn sc)).setCell ⟨c,2,G⟩ (J ka kn kc)).setCell ⟨c,3,G⟩ (J va vn vc)) v l:=have h1:=hc.set 0 (tL e) (fun q=>by
 simp);have h2:=h1.set 1 (J sa sn sc) (fun q=>by
 simp);have h3:=h2.set 2 (J ka kn kc) (fun q=>by
 simp);(((h.set hc hne 0 _).set h1 hne 1 _).set h2 hne 2 _).set h3 hne 3 _
def ZC(n:Nat)(w:F)(v:H)(p:Cj):Prop:=∃base vs vk vv,v=sR #[tL p.empty,vs,vk,vv]∧n<=base∧base<=w.heap.size∧JL base w vs p.steps∧XX w vk p.pair.1∧XX w vv p.pair.2
theorem ZC.is{n:Nat}{w:F}{v:H}{p:Cj}(h:ZC n w v p):UM w v p:=by
 obtain⟨base,vs,vk,vv,rfl,_,_,h1,h2,h3⟩:=h;exact⟨vs,vk,vv,rfl,h1.list,h2.1,h3.1⟩
theorem Sl{base:Nat}{w W w1:F}{v:H}{l:List kS}(h:L w W G)(ho:JL base W v l)(hb:w.heap.size<=base)(hg:L W w1 v.ownBlock):L w w1 G:=⟨hg.os.trans h.os,hg.tape.trans h.tape,hg.output.trans h.output,tN h.size hg.size,fun i hi hn=>(hg.block i (tG hi h.size) (fun e=>by
 have:=(ho.lt i e.symm).1;omega)).trans (h.block i hi hn)⟩
theorem OO:(O.info? 144).map (fun i=>(i.zero,i.size,i.bytes))=I (I (sR #[Y tC 0,tL N,J G 0 0]),3,40):=by
 kernel_rfl
theorem Rn{w:F}{o:rM}{a:Act}{K:Act->F->Prop}{Q:Exit->Act->F->Prop}(s x:rH)(ho:o.op=.call {callee:=.builtin .append,args:=#[s,x],argTypes:=#[42,42]})(base:Nat)(v:H)(l:List kS)(hs:a.eval s=v)(hown:JL base w v l)(vo:H)(p:kS)(hk:XX w vo p.other)(nb:Nat)(hb:∀j u,[Y tC p.bit,tL p.right,vo][j]?=I u->w.cell? ⟨nb,j,G⟩=I u)(hx:a.eval x=J (I ⟨nb,0,G⟩) 1 1)(hl:(l.length+1)*40<=140737488355328)(hbase:base<=w.heap.size)(h:∀v' w',JL base w' v' (l++[p])->L w w' v.ownBlock->K (a.put o.dst v') w'):o.wp O a w K Q:=by
 obtain⟨i0,hi,hz0,hz1,hz2⟩:=r7 OO;have hrow:=hown.row;obtain⟨us,hul,hr,hp,_⟩:=hown;refine wp_append_own w s x 42 ho base 144 i0 (sR #[Y tC 0,tL N,J G 0 0]) 3 40 Tryz.underlying42 hi hz0 hz1 hz2 rfl (by decide) v l.length (Ue us) hs hr ⟨nb,0,G⟩ 1 1 (Ue [(p,vo)]) hx rfl ?_ ?_ (by unfold pG;omega) hl hbase ?_;·intro j u hj;rw[Xa,sM];exact hb j u (by simpa[Ue]using hj)
 ·intro u hu;exact Wp _ u hu fun y hy=>by simp at hy;subst hy;exact EA hk
 ·intro v' w' h1 h2 _;refine h _ w' ⟨us++[(p,vo)],by simp[hul],?_,?_,fun e=>by simp at e⟩ h2;(·rw[Dk,tB];exact h1);·intro y hy;rcases tZ.1 hy with hy|hy;(·exact(hp y hy).kept h2 hrow);·simp at hy;subst hy;exact hk.kept h2 hrow
theorem kI{w:F}{ops:Array rM}{rest:List rM}{o:rM}{a:Act}{Q:Exit->Act->F->Prop}(hgd:o.guard=G)(s x:rH)(ho:o.op=.call {callee:=.builtin .append,args:=#[s,x],argTypes:=#[42,42]})(base:Nat)(v:H)(l:List kS)(hs:a.eval s=v)(hown:JL base w v l)(vo:H)(p:kS)(hk:XX w vo p.other)(nb:Nat)(hb:∀j u,[Y tC p.bit,tL p.right,vo][j]?=I u->w.cell? ⟨nb,j,G⟩=I u)(hx:a.eval x=J (I ⟨nb,0,G⟩) 1 1)(hl:(l.length+1)*40<=140737488355328)(hbase:base<=w.heap.size)(h:∀v' w',JL base w' v' (l++[p])->L w w' v.ownBlock->wpList O ops Q rest (a.put o.dst v') w'):wpList O ops Q (o::rest) a w:=wpList_plain hgd fun _ hK=>Rn s x ho base v l hs hown vo p hk nb hb hx hl hbase fun v' w' h1 h2=>hK _ _ (h v' w' h1 h2)
theorem Wt{w:F}{nb:Nat}{p:kS}{vo:H}{t:tX}(h:w.heap[nb]?=I (S #[Y tC p.bit,tL p.right,vo] t)):∀j u,[Y tC p.bit,tL p.right,vo][j]?=I u->w.cell? ⟨nb,j,G⟩=I u:=by
 intro j u hj;simp[tU,h];simpa using hj
def gH:H->Nat|J _ n _=>n|_=>0
def Pf(t:tX):Prop:=t=112∨t=48∨t=210∨t=28∨t=3
def Lu(B:Nat)(w:F)(i:Nat):Prop:=i<B∨∀cs t fz,w.heap[i]?=I (S cs t fz)->(¬Pf t∨∃q,cs[0]?=I (Y pJ q))
structure Kp (B : Nat) (w w' : F) : Prop where
  os : w'.os = w.os
  tape : w'.tape = w.tape
  output : w'.output = w.output
  size : w.heap.size <= w'.heap.size
  keep : ∀ i, i < w.heap.size -> Lu B w i -> w'.heap[i]? = w.heap[i]?
theorem Kp.refl(B:Nat)(w:F):Kp B w w:=⟨rfl,rfl,rfl,sB _,fun _ _ _=>rfl⟩
theorem Lu.same{B:Nat}{w w':F}{i:Nat}(h:Lu B w i)(e:w'.heap[i]?=w.heap[i]?):Lu B w' i:=by
 rcases h with h|h;·exact .inl h
 ·exact .inr fun cs t fz hc=>h cs t fz (by rw[<-e];exact hc)
theorem Kp.trans{B:Nat}{w w1 w2:F}(h:Kp B w w1)(k:Kp B w1 w2):Kp B w w2:=⟨k.os.trans h.os,k.tape.trans h.tape,k.output.trans h.output,tN h.size k.size,fun i hi hs=>by
 have e:=h.keep i hi hs;exact(k.keep i (tG hi h.size) (hs.same e)).trans e⟩
theorem Kp.grown{B:Nat}{w w':F}(h:L w w' G):Kp B w w':=⟨h.os,h.tape,h.output,h.size,fun i hi _=>h.block i hi (by
 simp)⟩
theorem Kp.turn{B:Nat}{w w':F}{g:Nat}{cs:Array H}{t:tX}{fz:Nat×Nat}(h:L w w' (I g))(hB:B<=g)(hb:w.heap[g]?=I (S cs t fz))(ht:Pf t)(h0:∀q,cs[0]?≠I (Y pJ q)):Kp B w w':=⟨h.os,h.tape,h.output,h.size,fun i hi hs=>by
 refine h.block i hi fun e=>?_;cases e;rcases hs with hs|hs;·omega
 ·rcases hs cs t fz hb with h1|⟨q,h1⟩;(·exact h1 ht);·exact h0 q h1⟩
theorem Kp.low{B:Nat}{w w':F}(h:Kp B w w')(w0:F)(hg:L w0 w G)(hB:w0.heap.size<=B):L w0 w' G:=⟨h.os.trans hg.os,h.tape.trans hg.tape,h.output.trans hg.output,tN hg.size h.size,fun i hi hn=>(h.keep i (tG hi hg.size) (.inl (by
 omega))).trans (hg.block i hi hn)⟩
def VR(t:tX):Prop:=t=5∨t=44∨t=61∨t=71∨t=220∨t=144
def zN(t:tX):Prop:=¬VR t
theorem Pf.two{t:tX}(h:Pf t):zN t:=by
 rcases h with rfl|rfl|rfl|rfl|rfl<;>simp[zN,VR]
def M6(B:Nat)(w:F)(i:Nat):Prop:=i<B∨∀cs t fz,w.heap[i]?=I (S cs t fz)->(¬zN t∨∃q,cs[0]?=I (Y pJ q))
structure BN (B : Nat) (w w' : F) : Prop where
  os : w'.os = w.os
  tape : w'.tape = w.tape
  output : w'.output = w.output
  size : w.heap.size <= w'.heap.size
  keep : ∀ i, i < w.heap.size -> M6 B w i -> w'.heap[i]? = w.heap[i]?
theorem Kp.two{B C:Nat}{w w':F}(h:Kp B w w')(hC:C<=B):BN C w w':=⟨h.os,h.tape,h.output,h.size,fun i hi hs=>h.keep i hi (by
 rcases hs with hs|hs;·exact .inl (tG hs hC)
 ·exact .inr fun cs t fz hc=>(hs cs t fz hc).imp (fun h1 h2=>h1 h2.two) id)⟩
theorem BN.refl(B:Nat)(w:F):BN B w w:=⟨rfl,rfl,rfl,sB _,fun _ _ _=>rfl⟩
theorem M6.same{B:Nat}{w w':F}{i:Nat}(h:M6 B w i)(e:w'.heap[i]?=w.heap[i]?):M6 B w' i:=by
 rcases h with h|h;·exact .inl h
 ·exact .inr fun cs t fz hc=>h cs t fz (by rw[<-e];exact hc)
theorem BN.trans{B:Nat}{w w1 w2:F}(h:BN B w w1)(k:BN B w1 w2):BN B w w2:=⟨k.os.trans h.os,k.tape.trans h.tape,k.output.trans h.output,tN h.size k.size,fun i hi hs=>by
 have e:=h.keep i hi hs;exact(k.keep i (tG hi h.size) (hs.same e)).trans e⟩
theorem BN.grown{B:Nat}{w w':F}(h:L w w' G):BN B w w':=⟨h.os,h.tape,h.output,h.size,fun i hi _=>h.block i hi (by
 simp)⟩
def LQ(w:F)(i:Nat):Prop:=∀cs t fz,w.heap[i]?=I (S cs t fz)->(VR t∨t=48∨∃q,cs[0]?=I (Y pJ q))
structure KL (w w' : F) : Prop where
  os : w'.os = w.os
  tape : w'.tape = w.tape
  output : w'.output = w.output
  size : w.heap.size <= w'.heap.size
  keep : ∀ i, i < w.heap.size -> LQ w i -> w'.heap[i]? = w.heap[i]?
theorem KL.two{w w':F}(h:KL w w'):BN 0 w w':=⟨h.os,h.tape,h.output,h.size,fun i hi hs=>h.keep i hi fun cs t fz hc=>by
 rcases hs with hs|hs;·omega
 ·rcases hs cs t fz hc with h1|h1;(·exact .inl (sQ h1));·exact .inr (.inr h1)⟩
theorem KL.refl(w:F):KL w w:=⟨rfl,rfl,rfl,sB _,fun _ _ _=>rfl⟩
theorem LQ.same{w w':F}{i:Nat}(h:LQ w i)(e:w'.heap[i]?=w.heap[i]?):LQ w' i:=fun cs t fz hc=>h cs t fz (by
 rw[<-e];exact hc)
theorem KL.trans{w w1 w2:F}(h:KL w w1)(k:KL w1 w2):KL w w2:=⟨k.os.trans h.os,k.tape.trans h.tape,k.output.trans h.output,tN h.size k.size,fun i hi hs=>by
 have e:=h.keep i hi hs;exact(k.keep i (tG hi h.size) (hs.same e)).trans e⟩
theorem KL.grown{w w':F}(h:L w w' G):KL w w':=⟨h.os,h.tape,h.output,h.size,fun i hi _=>h.block i hi (by
 simp)⟩
theorem KL.turn{w w':F}{row:Option Nat}(h:L w w' row)(hr:∀g,row=I g->∃cs t fz,w.heap[g]?=I (S cs t fz)∧¬VR t∧t≠48∧∀q,cs[0]?≠I (Y pJ q)):KL w w':=⟨h.os,h.tape,h.output,h.size,fun i hi hs=>by
 refine h.block i hi fun e=>?_;obtain⟨cs,t,fz,hb,h1,h2,h3⟩:=hr i e.symm;rcases hs cs t fz hb with h4|h4|⟨q,h4⟩;·exact h1 h4
 ·exact h2 h4
 ·exact h3 q h4⟩
def JZ(w:F)(P:F->Prop):Prop:=∀w',KL w w'->P w'
theorem JZ.now{w:F}{P:F->Prop}(h:JZ w P):P w:=h w (KL.refl w)
theorem JZ.later{w w':F}{P:F->Prop}(h:JZ w P)(k:KL w w'):JZ w' P:=fun w2 k2=>h w2 (k.trans k2)
theorem JZ.grown{w w':F}{P:F->Prop}(h:JZ w P)(k:L w w' G):JZ w' P:=h.later (KL.grown k)
def Ja(w:F)(P:F->Prop):Prop:=∀w',L w w' G->P w'
theorem Ja.now{w:F}{P:F->Prop}(h:Ja w P):P w:=h w (Qb w G)
theorem Ja.grown{w w':F}{P:F->Prop}(h:Ja w P)(k:L w w' G):Ja w' P:=fun w2 k2=>h w2 (Qa k k2)
def Zf(B:Nat)(w:F)(P:F->Prop):Prop:=∀w',BN B w w'->P w'
theorem Zf.now{B:Nat}{w:F}{P:F->Prop}(h:Zf B w P):P w:=h w (BN.refl B w)
theorem Zf.later{B C:Nat}{w w':F}{P:F->Prop}(h:Zf C w P)(k:Kp B w w')(hC:C<=B:=by
 first|exact Nat.zero_le _|exact Nat.le_refl _):Zf C w' P:=fun w2 k2=>h w2 ((k.two hC).trans k2)
theorem Zf.later2{C:Nat}{w w':F}{P:F->Prop}(h:Zf C w P)(k:BN C w w'):Zf C w' P:=fun w2 k2=>h w2 (k.trans k2)
theorem Zf.grown{C:Nat}{w w':F}{P:F->Prop}(h:Zf C w P)(k:L w w' G):Zf C w' P:=h.later2 (BN.grown k)
theorem Zf.mono{B:Nat}{w:F}{P Q:F->Prop}(h:Zf B w P)(k:∀w',P w'->Q w'):Zf B w Q:=fun w' h'=>k w' (h w' h')
theorem Vr{w w':F}{v:H}{bs:List UInt8}(h:Qe w v bs)(hb:bs=[]∨∃b,v.ownBlock=I b∧w'.heap[b]?=w.heap[b]?):Qe w' v bs:=by
 obtain⟨a,cap,rfl,hc,h⟩:=h;refine⟨a,cap,rfl,hc,?_⟩;rcases h with h|⟨b,o,rfl,h⟩;·exact .inl h
 ·refine .inr ⟨b,o,rfl,fun i hi=>?_⟩;rcases hb with rfl|⟨b',e,hb⟩;(·simp at hi);·simp[pE]at e;subst e;rw[sK hb];exact h i hi
theorem lG:¬zN 5:=by
 simp[zN,VR]
theorem Z7{B:Nat}{w:F}{v:H}{bs:List UInt8}(h:Qh 0 w v bs):Zf B w (fun w=>Qh 0 w v bs):=fun w' k=>by
 obtain⟨h1,h2⟩:=h;rcases h2 with h2|⟨b,e,hl,h2⟩;·exact⟨Vr h1 (.inl h2),.inl h2⟩
 ·(obtain⟨cur,fz,h2⟩:∃cur fz,w.heap[b]?=I (S cur 5 fz):=by rcases h2 with h2|h2;(·omega);·exact h2);have hs:w'.heap[b]?=w.heap[b]?:=k.keep b hl (.inr fun cs t f hc=>.inl (by rw[h2]at hc;simp only[tA,tW]at hc;rw[<-hc.2.1];exact lG));exact⟨Vr h1 (.inr ⟨b,e,hs⟩),.inr ⟨b,e,tG hl k.size,.inr ⟨cur,fz,by rw[hs];exact h2⟩⟩⟩
theorem Gp{B:Nat}{w:F}{v:H}{bs:List UInt8}(h:XX w v bs):Zf B w (fun w=>XX w v bs):=fun w' k=>by
 obtain⟨h1,h2⟩:=h;rcases h2 with h2|⟨b,e,hl,cur,t,fz,h2,h3⟩;·exact⟨Vr h1 (.inl h2),.inl h2⟩
 ·have hs:w'.heap[b]?=w.heap[b]?:=k.keep b hl (.inr fun cs t' f hc=>by rw[h2]at hc;simp only[tA,tW]at hc;obtain⟨rfl,rfl,_⟩:=hc;rcases h3 with rfl|h3;(·exact .inl lG);·exact .inr h3);exact⟨Vr h1 (.inr ⟨b,e,hs⟩),.inr ⟨b,e,tG hl k.size,cur,t,fz,by rw[hs];exact h2,h3⟩⟩
theorem UK{B base:Nat}{w:F}{t:tX}{n m:Nat}{v:H}{xs:List H}(h:w.ownsRow base t n v m xs)(ht:¬zN t):Zf B w (fun w=>w.ownsRow base t n v m xs):=fun w' k=>by
 refine⟨h.1,?_⟩;rcases h.2with h|⟨g,cap,cur,e,hb,hg,rest⟩;·exact .inl h
 ·refine .inr ⟨g,cap,cur,e,hb,?_,rest⟩;rw[k.keep g (tI.1 hg).1 (.inr fun cs t' f hc=>.inl (by rw[hg]at hc;simp only[tA,tW]at hc;rw[<-hc.2.1];exact ht))];exact hg
theorem A9{B rb:Nat}{w:F}{v:H}{l:List Rd}(h:ZS rb 0 w v l):Zf B w (fun w=>ZS rb 0 w v l):=fun w' k=>by
 obtain⟨us,h1,h2,h3⟩:=h;exact⟨us,h1,UK h2 (by simp[zN,VR]) w' k,fun x hx=>⟨Z7 (h3 x hx).1 w' k,Z7 (h3 x hx).2.1 w' k,Z7 (h3 x hx).2.2 w' k⟩⟩
theorem Ap{B rb:Nat}{w:F}{v:H}{l:List Zb}(h:Q7 rb 0 w v l):Zf B w (fun w=>Q7 rb 0 w v l):=fun w' k=>by
 obtain⟨us,h1,h2,h3⟩:=h;exact⟨us,h1,UK h2 (by simp[zN,VR]) w' k,fun x hx=>⟨Z7 (h3 x hx).1 w' k,Z7 (h3 x hx).2.1 w' k,Z7 (h3 x hx).2.2 w' k⟩⟩
theorem Vv{B:Nat}{w:F}{v:H}{l:PL}(h:QO 0 w v l):Zf B w (fun w=>QO 0 w v l):=fun w' k=>by
 obtain⟨a,cap,rfl,hc,h⟩:=h;refine⟨a,cap,rfl,hc,?_⟩;rcases h with h|⟨b,o,rfl,hb,h⟩;·exact .inl h
 ·(obtain⟨cur,fz,hb⟩:∃cur fz,w.heap[b]?=I (S cur 44 fz):=by rcases hb with hb|hb;(·omega);·exact hb);have hs:w'.heap[b]?=w.heap[b]?:=k.keep b (tI.1 hb).1 (.inr fun cs t f hc=>.inl (by rw[hb]at hc;simp only[tA,tW]at hc;rw[<-hc.2.1];simp[zN,VR]));refine .inr ⟨b,o,rfl,.inr ⟨cur,fz,by rw[hs];exact hb⟩,fun i hi=>?_⟩;obtain⟨vk,vv,c1,c2,h1,h2⟩:=h i hi;exact⟨vk,vv,by rw[sK hs];exact c1,by rw[sK hs];exact c2,Z7 h1 w' k,Z7 h2 w' k⟩
theorem TL{B rb:Nat}{w:F}{v:H}{l:FL}(h:Zp rb w v l):Zf B w (fun w=>Zp rb w v l):=fun w' k=>by
 obtain⟨vs,h1,h2,h3⟩:=h;exact⟨vs,h1,UK h2 (by simp[zN,VR]) w' k,fun i hi=>⟨Z7 (h3 i hi).1 w' k,Vv (h3 i hi).2 w' k⟩⟩
theorem Ei{B:Nat}{w:F}{v:H}{l:List Zb}(h:Xp 0 w v l):Zf B w (fun w=>Xp 0 w v l):=fun w' k=>by
 obtain⟨a,cap,rfl,hc,h⟩:=h;refine⟨a,cap,rfl,hc,?_⟩;rcases h with h|⟨b,o,rfl,hb,h⟩;·exact .inl h
 ·(obtain⟨cur,fz,hb⟩:∃cur fz,w.heap[b]?=I (S cur 71 fz):=by rcases hb with hb|hb;(·omega);·exact hb);have hs:w'.heap[b]?=w.heap[b]?:=k.keep b (tI.1 hb).1 (.inr fun cs t f hc=>.inl (by rw[hb]at hc;simp only[tA,tW]at hc;rw[<-hc.2.1];simp[zN,VR]));refine .inr ⟨b,o,rfl,.inr ⟨cur,fz,by rw[hs];exact hb⟩,fun i hi=>?_⟩;obtain⟨vn,vk,vv,c1,c2,c3,c4,h1,h2,h3⟩:=h i hi;exact⟨vn,vk,vv,by rw[sK hs];exact c1,by rw[sK hs];exact c2,by rw[sK hs];exact c3,by rw[sK hs];exact c4,Z7 h1 w' k,Z7 h2 w' k,Z7 h3 w' k⟩
theorem yR{B:Nat}{w:F}{v:H}{t:Tx}(h:GN w v t):Zf B w (fun w=>GN w v t):=fun w' k=>by
 obtain⟨vr,vw,rfl,h1,h2⟩:=h;exact⟨vr,vw,rfl,A9 h1 w' k,Ap h2 w' k⟩
theorem SD{B base:Nat}{w:F}{v:H}{l:List kS}(h:JL base w v l):Zf B w (fun w=>JL base w v l):=fun w' k=>by
 obtain⟨us,h1,h2,h3,h4⟩:=h;exact⟨us,h1,UK h2 (by simp[zN,VR]) w' k,fun x hx=>Gp (h3 x hx) w' k,h4⟩
theorem yA{B n:Nat}{w:F}{v:H}{p:Cj}(h:ZC n w v p):Zf B w (fun w=>UM w v p):=fun w' k=>by
 obtain⟨base,vs,vk,vv,rfl,_,_,h1,h2,h3⟩:=h;exact⟨vs,vk,vv,rfl,(SD h1 w' k).list,(Gp h2 w' k).1,(Gp h3 w' k).1⟩
section
section
variable{α:Type}{T:tX}{k:Nat}{P:F->List H->α->Prop}{B:Nat}{w w':F}{v:H}{l:List α}
def JA(T:tX)(k:Nat)(P:F->List H->α->Prop)(B:Nat)(w:F)(v:H)(l:List α):Prop:=∃us:List (List H×α),us.map (·.2)=l∧w.ownsRow B T k v l.length (us.flatMap (·.1))∧(l=[]->v=J G 0 0)∧∀x∈us,x.1.length=k∧(∀u∈x.1,u.oneCell'=M)∧(∀q,x.1[0]?≠I (Y pJ q))∧Zf 0 w (fun w=>P w x.1 x.2)
theorem vF(T:tX)(k:Nat)(P:F->List H->α->Prop)(B:Nat)(w:F):JA T k P B w (J G 0 0) []:=⟨[],rfl,sL _ _ _ _,fun _=>rfl,fun x hx=>by
 simp at hx⟩
theorem JA.kept(h:JA T k P B w v l)(hk:Kp B w w')(hs:∀g,v.ownBlock=I g->w'.heap[g]?=w.heap[g]?):JA T k P B w' v l:=by
 obtain⟨us,h1,h2,h3,h4⟩:=h;refine⟨us,h1,⟨h2.1,?_⟩,h3,fun x hx=>⟨(h4 x hx).1,(h4 x hx).2.1,(h4 x hx).2.2.1,(h4 x hx).2.2.2.later hk⟩⟩;rcases h2.2with h|⟨g,cap,cur,rfl,hb,hg,rest⟩;·exact .inl h
 ·exact .inr ⟨g,cap,cur,rfl,hb,by rw[hs g rfl];exact hg,rest⟩
theorem JA.kept2(h:JA T k P B w v l)(hk:BN 0 w w')(hs:∀g,v.ownBlock=I g->w'.heap[g]?=w.heap[g]?):JA T k P B w' v l:=by
 obtain⟨us,h1,h2,h3,h4⟩:=h;refine⟨us,h1,⟨h2.1,?_⟩,h3,fun x hx=>⟨(h4 x hx).1,(h4 x hx).2.1,(h4 x hx).2.2.1,(h4 x hx).2.2.2.later2 hk⟩⟩;rcases h2.2with h|⟨g,cap,cur,rfl,hb,hg,rest⟩;·exact .inl h
 ·exact .inr ⟨g,cap,cur,rfl,hb,by rw[hs g rfl];exact hg,rest⟩
theorem JA.lt(h:JA T k P B w v l):∀g,v.ownBlock=I g->B<=g∧g<w.heap.size:=by
 obtain⟨us,h1,h2,h3,h4⟩:=h;exact sG h2
theorem JA.grown(h:JA T k P B w v l)(hg:L w w' G):JA T k P B w' v l:=h.kept (Kp.grown hg) fun g e=>hg.block g (h.lt g e).2 (by
 simp)
theorem JA.shape(h:JA T k P B w v l):∃a cap,v=J a l.length cap:=by
 obtain⟨us,_,h,_⟩:=h;rcases h.2with⟨rfl,h0⟩|⟨g,cap,cur,rfl,_⟩;·exact⟨G,0,by rw[h0]⟩
 ·exact⟨_,cap,rfl⟩
theorem LM{k:Nat}:∀(us:List (List H×α))(_:∀x∈us,x.1.length=k)(i:Nat)(hi:i<us.length)(j:Nat),j<k->(us.flatMap (·.1))[i*k+j]?=us[i].1[j]?|[],_,i,hi,_,_=>by simp at hi|x::us,hk,0,_,j,hj=>by have:=hk x (by simp);simp[pH (show j<x.1.length by omega)]|x::us,hk,i+1,hi,j,hj=>by have hx:=hk x (by simp);have:=LM us (fun y hy=>hk y (by simp[hy])) i (by simpa using hi) j hj;rw[tM,List.getElem?_append_right (by rw[hx,rX];omega),hx,show(i+1)*k+j-k=i*k+j by rw[rX];omega,this];simp
theorem JA.blk(hk0:0<k)(h:JA T k P B w v l):v.ownBlock=G∨∃g cs,v.ownBlock=I g∧B<=g∧w.heap[g]?=I (S cs T (0,0))∧∀q,cs[0]?≠I (Y pJ q):=by
 obtain⟨us,h1,h2,h3,h4⟩:=h;rcases h2.2with⟨rfl,_⟩|⟨g,cap,cur,rfl,hb,hg,hn,_,hcs,ht⟩;·exact .inl rfl
 ·refine .inr ⟨g,cur,rfl,hb,hg,fun q hq=>?_⟩;cases us with|nil=>subst h1;have:=h3 rfl;cases this|cons x us=>(have hl:l.length=us.length+1:=by rw[<-h1];simp);(have e:(cur.toList.take (l.length*k))[0]?=((x::us).flatMap (·.1))[0]?:=by rw[ht]);have hx:=(h4 x (by simp)).1;rw[sC,if_pos (by rw[hl,rX];omega),tM,pH (by omega),rY,hq]at e;exact(h4 x (by simp)).2.2.1 q e.symm
theorem JA.turn(hk0:0<k)(hT:Pf T)(h:JA T k P B w v l)(hg:L w w' v.ownBlock):Kp B w w':=by
 rcases h.blk hk0 with e|⟨g,cs,e,hb,hc,h0⟩;·rw[e]at hg;exact Kp.grown hg
 ·rw[e]at hg;exact Kp.turn hg hb hc hT h0
theorem JA.other(hk0:0<k)(h:JA T k P B w v l){row:Option Nat}(hk:Kp B w w')(hg:L w w' row)(hr:row=G∨∃g cs t fz,row=I g∧w.heap[g]?=I (S cs t fz)∧t≠T):JA T k P B w' v l:=by
 refine h.kept hk fun g e=>?_;refine hg.block g (h.lt g e).2 fun e2=>?_;rcases hr with rfl|⟨g',cs,t,fz,rfl,hc,ht⟩;·cases e2
 ·cases e2;rcases h.blk hk0 with e3|⟨g2,cs2,e3,_,hc2,_⟩;(·rw[e3]at e;cases e);·rw[e3]at e;cases e;rw[hc]at hc2;simp only[tA,tW]at hc2;exact ht hc2.2.1
theorem JA.at(h:JA T k P B w v l)(d:α)(i:Nat)(hi:i<l.length):∃g cap cs,v=J (I ⟨g,0,G⟩) l.length cap∧cs.length=k∧l.length<=cap∧(∀j,j<k->w.cell? ⟨g,i*k+j,G⟩=cs[j]?)∧Zf 0 w (fun w=>P w cs (l.getD i d)):=by
 obtain⟨us,h1,h2,h3,h4⟩:=h;have hul:us.length=l.length:=by rw[<-h1];simp
 rcases h2.2with⟨rfl,h0⟩|⟨g,cap,cur,rfl,hb,hg,hn,_,hcs,ht⟩;·omega
 ·have hx:=h4 us[i] (sN (by omega));refine⟨g,cap,us[i].1,rfl,hx.1,hn,fun j hj=>?_,?_⟩;(·(have e:(cur.toList.take (l.length*k))[i*k+j]?=(us.flatMap (·.1))[i*k+j]?:=by rw[ht]);(have hlt:i*k+j<l.length*k:=by have:(i+1)*k<=l.length*k:=pA k hi;rw[rX]at this;omega);rw[LM us (fun x hx=>(h4 x hx).1) i (by omega) j hj,sC,if_pos hlt,rY]at e;simp[tU,hg,e]);·(have e:l.getD i d=us[i].2:=by subst h1;simp[List.getD,show i<us.length by omega]);rw[e];exact hx.2.2.2
theorem xZ{o:rM}{a:Act}{K:Act->F->Prop}{Q:Exit->Act->F->Prop}(s x:rH)(t:tX)(ho:o.op=.call {callee:=.builtin .append,args:=#[s,x],argTypes:=#[t,t]})(i:TypeInfo)(z:H)(bytes:Nat)(ht:O.underlying t=I (.slice T))(hi:O.info? T=I i)(hz:i.zero=I z)(hsize:i.size=k)(hby:i.bytes=bytes)(hzs:z.cells.size=k)(hsz:0<k)(hT:Pf T)(hs:a.eval s=v)(hown:JA T k P B w v l)(nb:Nat)(cs:List H)(y:α)(hx:a.eval x=J (I ⟨nb,0,G⟩) 1 1)(hcl:cs.length=k)(hc:∀j u,cs[j]?=I u->w.cell? ⟨nb,j,G⟩=I u)(h1:∀u∈cs,u.oneCell'=M)(h0:∀q,cs[0]?≠I (Y pJ q))(hP:Zf 0 w (fun w=>P w cs y))(h63:l.length+1<=pG)(hbytes:(l.length+1)*bytes<=140737488355328)(hbase:B<=w.heap.size)(h:∀v' w',JA T k P B w' v' (l++[y])->Kp B w w'->L w w' v.ownBlock->K (a.put o.dst v') w'):o.wp O a w K Q:=by
 have hown0:=hown;obtain⟨us,e1,h2,h3,h4⟩:=hown;refine wp_append_lies w s x t ho B T i z k bytes ht hi hz hsize hby hzs hsz v l.length (us.flatMap (·.1)) hs h2 ⟨nb,0,G⟩ 1 1 cs hx (by omega) (fun j u hj=>by rw[Xa,sM];exact hc j u hj) h1 (by omega) h63 hbytes hbase _ rfl ?_;intro g cap w' hr hg hgg hlt;have hk:=hown0.turn hsz hT hg;refine h _ w' ⟨us++[(cs,y)],by simp[e1],?_,fun e=>by simp at e,fun x hx=>?_⟩ hk hg;·simpa[List.flatMap_append]using hr
 ·rcases tZ.1 hx with hx|hx;(·exact⟨(h4 x hx).1,(h4 x hx).2.1,(h4 x hx).2.2.1,(h4 x hx).2.2.2.later hk⟩);·(obtain rfl:x=(cs,y):=by simpa using hx);exact⟨hcl,h1,h0,hP.later hk⟩
theorem JA.take(h:JA T k P B w v l){a:Option rA}{n cap:Nat}(hv:v=J a n cap)(m:Nat)(hm:m<=l.length)(h0:0<m):JA T k P B w (J a m cap) (l.take m):=by
 subst hv;obtain⟨us,h1,h2,h3,h4⟩:=h;have hul:us.length=l.length:=by rw[<-h1];simp
 have hlm:(l.take m).length=m:=by simp;omega
 rcases h2.2with⟨e,h0'⟩|⟨g,cp,cur,e,hb,hg,hn,hmx,hcs,ht⟩;·omega
 ·simp only[tH]at e;obtain⟨rfl,rfl,rfl⟩:=e;(have hfl:(us.take m).flatMap (·.1)=(us.flatMap (·.1)).take (m*k):=by(have hk:∀(vs:List (List H×α)),(∀x∈vs,x.1.length=k)->∀m,(vs.take m).flatMap (·.1)=(vs.flatMap (·.1)).take (m*k):=by intro vs;induction vs with|nil=>intro _ m;simp|cons x vs ih=>intro hx m;cases m with|zero=>simp|succ m=>have:=hx x (by simp);rw[rC,tM,tM,ih (fun y hy=>hx y (by simp[hy])) m,List.take_append,this,rX,show m*k+k-k=m*k by omega,List.take_of_length_le (l:=x.1) (by omega)]);exact hk us (fun x hx=>(h4 x hx).1) m);refine⟨us.take m,by rw[<-h1,List.map_take],⟨?_,.inr ⟨g,cap,cur,by rw[hlm],hb,hg,by omega,hmx,hcs,?_⟩⟩,fun e=>?_,fun x hx=>h4 x (List.mem_of_mem_take hx)⟩;(·rw[hfl,rW,h2.1,hlm];have:m*k<=l.length*k:=pA k hm;omega);(·rw[hlm,hfl,<-ht,pY];have:m*k<=l.length*k:=pA k hm;rw[pZ this]);·rw[e]at hlm;simp at hlm;omega
end
end
theorem Fh:(210:Nat)≠5:=by
 decide
theorem jJ:(210:Nat)≠71:=by
 decide
def Cm(w:F)(b o:Nat)(c:XC):Prop:=∃vs,w.cell? ⟨b,o,G⟩=I (Y tC c.turn)∧w.cell? ⟨b,o+1,G⟩=I vs∧QR w vs c.writes
theorem Cm.grown{w w':F}{b o:Nat}{c:XC}(h:Cm w b o c)(hg:L w w' G):Cm w' b o c:=by
 obtain⟨vs,c1,c2,h⟩:=h;exact⟨vs,hg.cell c1 (by simp),hg.cell c2 (by simp),h.grown hg⟩
def Y8(w:F)(v:H)(l:List XC):Prop:=∃a cap,v=J a l.length cap∧l.length<=cap∧((l=[]∧(a=G->cap=0))∨∃b o,a=I ⟨b,o,G⟩∧∀i,i<l.length->Cm w b (o+i*2) (l.getD i Zn))
theorem Ev(w:F):Y8 w (J G 0 0) []:=⟨G,0,rfl,sB _,.inl ⟨rfl,fun _=>rfl⟩⟩
theorem Y8.shape{w:F}{v:H}{l:List XC}(h:Y8 w v l):∃a cap,v=J a l.length cap:=by
 obtain⟨a,cap,rfl,_⟩:=h;exact⟨a,cap,rfl⟩
theorem Y8.grown{w w':F}{v:H}{l:List XC}(h:Y8 w v l)(hg:L w w' G):Y8 w' v l:=by
 obtain⟨a,cap,rfl,hc,h⟩:=h;refine⟨a,cap,rfl,hc,?_⟩;rcases h with h|⟨b,o,rfl,h⟩;·exact .inl h
 ·exact .inr ⟨b,o,rfl,fun i hi=>(h i hi).grown hg⟩
theorem Y8.at{w:F}{a:Option rA}{n cap:Nat}{l:List XC}(h:Y8 w (J a n cap) l)(i:Nat)(hi:i<l.length):∃b o,a=I ⟨b,o,G⟩∧Cm w b (o+i*2) (l.getD i Zn):=by
 obtain⟨a',cap',e,hc,h⟩:=h;simp only[tH]at e;obtain⟨rfl,rfl,rfl⟩:=e;rcases h with⟨rfl,_⟩|⟨b,o,rfl,h⟩;·simp at hi
 ·exact⟨b,o,rfl,h i hi⟩
structure Aq (l : List XC) : Prop where
  many : l.length * 32 <= 140737488355328
  each : ∀ i, i < l.length -> NA (l.getD i Zn)
abbrev CV:=XC×H
def jT(us:List CV):List H:=us.flatMap fun x=>[Y tC x.1.turn,x.2]
theorem Mp(a b:List CV):jT (a++b)=jT a++jT b:=by
 simp[jT]
theorem fI:(O.info? 210).map (fun i=>(i.zero,i.size,i.bytes))=I (I (sR #[Y tC 0,J G 0 0]),2,32):=by
 kernel_rfl
def Y5(base:Nat)(w:F)(v:H)(l:List XC):Prop:=∃us:List CV,us.map (·.1)=l∧w.ownsRow base 210 2 v l.length (jT us)∧(l=[]->v=J G 0 0)∧∀x∈us,Xp 0 w x.2 x.1.writes
theorem Cp(base:Nat)(w:F):Y5 base w (J G 0 0) []:=⟨[],rfl,sL _ _ _ _,fun _=>rfl,fun x hx=>by
 simp at hx⟩
theorem Y5.row{base:Nat}{w:F}{v:H}{l:List XC}(h:Y5 base w v l):v.ownBlock=G∨∃g cur t fz,v.ownBlock=I g∧base<=g∧w.heap[g]?=I (S cur t fz)∧t≠5∧t≠71:=by
 obtain⟨us,_,h,_⟩:=h;rcases h.2with⟨rfl,_⟩|⟨g,cap,cur,rfl,hb,hg,_⟩;·exact .inl rfl
 ·exact .inr ⟨g,cur,_,_,rfl,hb,hg,Fh,jJ⟩
theorem Y5.row0{base:Nat}{w:F}{v:H}{l:List XC}(h:Y5 base w v l):v.ownBlock=G∨∃g cur t fz,v.ownBlock=I g∧0<=g∧w.heap[g]?=I (S cur t fz)∧t≠5∧t≠71:=by
 rcases h.row with h|⟨g,cur,t,fz,h1,_,h2⟩;·exact .inl h
 ·exact .inr ⟨g,cur,t,fz,h1,tR _,h2⟩
theorem Y5.lt{base:Nat}{w:F}{v:H}{l:List XC}(h:Y5 base w v l):∀k,v.ownBlock=I k->base<=k∧k<w.heap.size:=by
 obtain⟨us,_,h,_⟩:=h;exact sG h
theorem Y5.grownNone{base:Nat}{w w':F}{v:H}{l:List XC}(h:Y5 base w v l)(hg:L w w' G):Y5 base w' v l:=by
 obtain⟨us,h1,h2,h0,h3⟩:=h;refine⟨us,h1,tS h2 hg ?_,h0,fun x hx=>(h3 x hx).kept hg (.inl rfl)⟩;cases hv:v.ownBlock with|none=>exact .inl rfl|some k=>exact .inr (by simp)
theorem Y5.shape{base:Nat}{w:F}{v:H}{l:List XC}(h:Y5 base w v l):∃a cap,v=J a l.length cap:=by
 obtain⟨us,_,h,_⟩:=h;rcases h.2with⟨rfl,h0⟩|⟨g,cap,cur,rfl,_⟩;·exact⟨G,0,by rw[h0]⟩
 ·exact⟨_,cap,rfl⟩
theorem AO{base:Nat}{w W w1:F}{v:H}{l:List XC}(h:L w W G)(ho:Y5 base W v l)(hb:w.heap.size<=base)(hg:L W w1 v.ownBlock):L w w1 G:=⟨hg.os.trans h.os,hg.tape.trans h.tape,hg.output.trans h.output,tN h.size hg.size,fun i hi hn=>(hg.block i (tG hi h.size) (fun e=>by
 have:=(ho.lt i e.symm).1;omega)).trans (h.block i hi hn)⟩
theorem R9{w:F}{o:rM}{a:Act}{K:Act->F->Prop}{Q:Exit->Act->F->Prop}(s x:rH)(ho:o.op=.call {callee:=.builtin .append,args:=#[s,x],argTypes:=#[104,104]})(base:Nat)(v:H)(l:List XC)(hs:a.eval s=v)(hown:Y5 base w v l)(vw:H)(c:XC)(hw:Xp 0 w vw c.writes)(nb:Nat)(hb:w.heap[nb]?=I (S #[Y tC c.turn,vw] 210))(hx:a.eval x=J (I ⟨nb,0,G⟩) 1 1)(hl:(l.length+1)*32<=140737488355328)(hbase:base<=w.heap.size)(h:∀v' w',Y5 base w' v' (l++[c])->L w w' v.ownBlock->K (a.put o.dst v') w'):o.wp O a w K Q:=by
 obtain⟨i0,hi,hz0,hz1,hz2⟩:=r7 fI;have hrow:=hown.row0;obtain⟨us,hul,hr,_,hp⟩:=hown;refine wp_append_lies w s x 104 ho base 210 i0 (sR #[Y tC 0,J G 0 0]) 2 32 Tryz.underlying104 hi hz0 hz1 hz2 rfl (by decide) v l.length (jT us) hs hr ⟨nb,0,G⟩ 1 1 (jT [(c,vw)]) hx rfl (rB (cs:=#[Y tC c.turn,vw]) hb) ?_ (by omega) (by unfold pG;omega) hl hbase _ rfl ?_;·intro u hu;simp only[jT,tM,rJ,rO,tK,tQ,or_false]at hu;rcases hu with rfl|rfl;(·rfl);·exact hw.oneCell
 ·intro g cap w' q1 q2 _ _;refine h _ w' ⟨us++[(c,vw)],by simp[hul],?_,fun e=>by simp at e,?_⟩ q2;(·rw[Mp,tB];exact q1);·intro y hy;rcases tZ.1 hy with hy|hy;(·exact(hp y hy).kept q2 hrow);·simp only[tK,tQ,or_false]at hy;subst hy;exact hw.kept q2 hrow
theorem kE{w:F}{ops:Array rM}{rest:List rM}{o:rM}{a:Act}{Q:Exit->Act->F->Prop}(hgd:o.guard=G)(s x:rH)(ho:o.op=.call {callee:=.builtin .append,args:=#[s,x],argTypes:=#[104,104]})(base:Nat)(v:H)(l:List XC)(hs:a.eval s=v)(hown:Y5 base w v l)(vw:H)(c:XC)(hw:Xp 0 w vw c.writes)(nb:Nat)(hb:w.heap[nb]?=I (S #[Y tC c.turn,vw] 210))(hx:a.eval x=J (I ⟨nb,0,G⟩) 1 1)(hl:(l.length+1)*32<=140737488355328)(hbase:base<=w.heap.size)(h:∀v' w',Y5 base w' v' (l++[c])->L w w' v.ownBlock->wpList O ops Q rest (a.put o.dst v') w'):wpList O ops Q (o::rest) a w:=wpList_plain hgd fun _ hK=>R9 s x ho base v l hs hown vw c hw nb hb hx hl hbase fun v' w' h1 h2=>hK _ _ (h v' w' h1 h2)
theorem Y5.ne{base:Nat}{w:F}{v:H}{l:List XC}(h:Y5 base w v l){b:Nat}{cs:Array H}{t:tX}{fz:Nat×Nat}(hb:w.heap[b]?=I (S cs t fz))(ht:t≠210):v.ownBlock≠I b:=by
 intro e;obtain⟨us,_,h,_⟩:=h;rcases h.2with⟨rfl,_⟩|⟨g,cap,cur,rfl,_,hg,_⟩;·cases e
 ·cases e;rw[hb]at hg;simp only[tA,tW]at hg;exact ht hg.2.1
theorem Y5.setOther{base:Nat}{w:F}{v:H}{l:List XC}(h:Y5 base w v l){b i:Nat}{cs:Array H}{t:tX}{fz:Nat×Nat}(hb:w.heap[b]?=I (S cs t fz))(ht:t≠5)(ht2:t≠71)(ht3:t≠210)(u:H):Y5 base (tD w ⟨b,i,G⟩ u) v l:=by
 have hne:=h.ne hb ht3;obtain⟨us,h1,h2,h0,h3⟩:=h;exact⟨us,h1,tS h2 (YK w b i u) (.inr hne),h0,fun x hx=>(h3 x hx).kept (YK w b i u) (.inr ⟨b,cs,t,fz,rfl,tR _,hb,ht,ht2⟩)⟩
theorem Y5.other{base:Nat}{w w':F}{v:H}{l:List XC}(h:Y5 base w v l)(hg:L w w' v.ownBlock){b:Nat}{cs:Array H}{t:tX}{fz:Nat×Nat}(hb:w.heap[b]?=I (S cs t fz))(ht:t≠210):w'.heap[b]?=I (S cs t fz):=by
 rw[hg.block b (tI.1 hb).1 (fun e=>h.ne hb ht e.symm)];exact hb
def Is:Prop:=∀(w:F)(v u:H)(t:Tx)(r:Rd),GS w v t->xE t->Yw w u r->PR r->sW O 132 #[v,u] w fun e w'=>∃x,e=tE (sH #[x,Y tC (Xi t r)])∧GN w' x (Yc t r)∧L w w' G
theorem Qf(w:F)(o:Obj):∃W:F,Hid (W=w.alloc o)∧L w W G∧Hid (W.heap[w.heap.size]?=I o):=⟨w.alloc o,rfl,sV _ _ _,oF w o⟩
theorem Z8{x y:Int}(h:x=y):tE (Y tC y)=tE (Y tC x):=by
 rw[h]
theorem YM{x y:Bool}(h:x=y):tE (tL y)=tE (tL x):=by
 rw[h]
theorem Xz{W w:F}{b:Nat}{x y z:H}{t:tX}(hg:L W w G)(h:W.heap[b]?=I (S #[x,y,z] t)):w.cell? ⟨b,0,G⟩=I x∧w.cell? ⟨b,1,G⟩=I y∧w.cell? ⟨b,2,G⟩=I z:=by
 have hb:w.heap[b]?=I (S #[x,y,z] t):=by rw[hg.block b (tI.1 h).1 (by simp)];exact h
 refine⟨?_,?_,?_⟩<;>simp[tU,hb]
def MB(p:List Rd)(r:Rd):Int:=if XD r=0then(if p.any (fun q=>XE q r)=M then 3 else 0)else XD r
def Dl(p:List Zb)(w:Zb):Int:=if Qz w=0then(if p.any (fun q=>ZX q w)=M then 3 else 0)else Qz w
theorem bV(l:List Rd)(m:Nat)(h:m<l.length):GQ (l.take m) (l.drop m)=if MB (l.take m) (l.getD m Zh)=0then GQ (l.take (m+1)) (l.drop (m+1))else MB (l.take m) (l.getD m Zh):=by
 rw[sS h,GQ,sU h,show l[m]=l.getD m Zh by simp[h]];unfold MB;by_cases h1:XD (l.getD m Zh)=0;·rw[if_pos h1,if_pos h1];by_cases h2:(l.take m).any (fun q=>XE q (l.getD m Zh))=M;(·rw[if_pos h2,if_pos h2,if_neg (by omega)]);·rw[if_neg h2,if_neg h2,if_pos rfl]
 ·rw[if_neg h1,if_neg h1,if_neg h1]
theorem cM(l:List Zb)(m:Nat)(h:m<l.length):xP (l.take m) (l.drop m)=if Dl (l.take m) (l.getD m Qr)=0then xP (l.take (m+1)) (l.drop (m+1))else Dl (l.take m) (l.getD m Qr):=by
 rw[sS h,xP,sU h,show l[m]=l.getD m Qr by simp[h]];unfold Dl;by_cases h1:Qz (l.getD m Qr)=0;·rw[if_pos h1,if_pos h1];by_cases h2:(l.take m).any (fun q=>ZX q (l.getD m Qr))=M;(·rw[if_pos h2,if_pos h2,if_neg (by omega)]);·rw[if_neg h2,if_neg h2,if_pos rfl]
 ·rw[if_neg h1,if_neg h1,if_neg h1]
theorem PM{α:Type}(d:α)(f:α->Bool)(l:List α)(k:Nat)(h:k<l.length):(l.take (k+1)).any f=((l.take k).any f||f (l.getD k d)):=by
 rw[sU h,List.any_append,show l[k]=l.getD k d by simp[h]];simp
theorem ER{α:Type}(d:α)(f:α->Bool)(l:List α)(k m:Nat)(hk:k<m)(hm:m<=l.length)(h:f (l.getD k d)=M):(l.take m).any f=M:=by
 rw[sZ];refine⟨l.getD k d,?_,h⟩;rw[show l.getD k d=(l.take m)[k]'(by rw[rW];omega)by rw[List.getElem_take];simp[show k<l.length by omega]];exact sN _
theorem zT{w:F}{a:Option rA}{n cap:Nat}{l:List Rd}(h:Xd w (J a n cap) l)(i:Nat)(hi:i<l.length):∃b o,a=I ⟨b,o,G⟩∧∃u1 u2 u3 u4 u5 u6,(w.cell? ⟨b,o+i*4,G⟩=I (J u1 (l.getD i Zh).name.length u2)∧w.cell? ⟨b,o+i*4+1,G⟩=I (J u3 (l.getD i Zh).key.length u4)∧w.cell? ⟨b,o+i*4+2,G⟩=I (tL (l.getD i Zh).wide)∧w.cell? ⟨b,o+i*4+3,G⟩=I (J u5 (l.getD i Zh).last.length u6))∧Yw w (sR #[J u1 (l.getD i Zh).name.length u2,J u3 (l.getD i Zh).key.length u4,tL (l.getD i Zh).wide,J u5 (l.getD i Zh).last.length u6]) (l.getD i Zh):=by
 obtain⟨b,o,rfl,hat⟩:=h.at i hi;obtain⟨vn,vk,vl,c1,c2,c3,c4,s1,s2,s3⟩:=hat;obtain⟨u1,u2,rfl⟩:=s1.shape;obtain⟨u3,u4,rfl⟩:=s2.shape;obtain⟨u5,u6,rfl⟩:=s3.shape;exact⟨b,o,rfl,u1,u2,u3,u4,u5,u6,⟨c1,c2,c3,c4⟩,⟨_,_,_,rfl,s1,s2,s3⟩⟩
theorem Yg{w:F}{a:Option rA}{n cap:Nat}{l:List Zb}(h:QR w (J a n cap) l)(i:Nat)(hi:i<l.length):∃b o,a=I ⟨b,o,G⟩∧∃u1 u2 u3 u4 u5 u6,(w.cell? ⟨b,o+i*4,G⟩=I (J u1 (l.getD i Qr).name.length u2)∧w.cell? ⟨b,o+i*4+1,G⟩=I (J u3 (l.getD i Qr).key.length u4)∧w.cell? ⟨b,o+i*4+2,G⟩=I (tL (l.getD i Qr).gone)∧w.cell? ⟨b,o+i*4+3,G⟩=I (J u5 (l.getD i Qr).value.length u6))∧Xe w (sR #[J u1 (l.getD i Qr).name.length u2,J u3 (l.getD i Qr).key.length u4,tL (l.getD i Qr).gone,J u5 (l.getD i Qr).value.length u6]) (l.getD i Qr):=by
 obtain⟨b,o,rfl,hat⟩:=h.at i hi;obtain⟨vn,vk,vl,c1,c2,c3,c4,s1,s2,s3⟩:=hat;obtain⟨u1,u2,rfl⟩:=s1.shape;obtain⟨u3,u4,rfl⟩:=s2.shape;obtain⟨u5,u6,rfl⟩:=s3.shape;exact⟨b,o,rfl,u1,u2,u3,u4,u5,u6,⟨c1,c2,c3,c4⟩,⟨_,_,_,rfl,s1,s2,s3⟩⟩
theorem Ee{x y:Bool}{a b:Int}(h:x=y)(k:a=b):tE (sH #[tL y,Y tC b])=tE (sH #[tL x,Y tC a]):=by
 rw[h,k]
theorem OJ{α:Type}(f:α->Bool)(l:List α)(d:α)(i:Nat)(hi:i<l.length)(h:f (l.getD i d)=M):l.any f=M:=by
 have:=ER d f l i l.length hi (sB _) h;rw[sE]at this;exact this
theorem zB:(107:Nat)≠5:=by
 decide
theorem jW:(107:Nat)≠220:=by
 decide
theorem GZ:(107:Nat)≠71:=by
 decide
theorem ZS.block{rb pb:Nat}{W w':F}{v:H}{l:List Rd}(ho:ZS rb pb W v l)(hg:L W w' v.ownBlock){b:Nat}{cs:Array H}{t:tX}{fz:Nat×Nat}(h:W.heap[b]?=I (S cs t fz))(ht:t≠220):w'.heap[b]?=I (S cs t fz):=by
 rw[hg.block b (tI.1 h).1 (fun e=>ho.ne h ht e.symm)];exact h
theorem Q7.block{rb pb:Nat}{W w':F}{v:H}{l:List Zb}(ho:Q7 rb pb W v l)(hg:L W w' v.ownBlock){b:Nat}{cs:Array H}{t:tX}{fz:Nat×Nat}(h:W.heap[b]?=I (S cs t fz))(ht:t≠71):w'.heap[b]?=I (S cs t fz):=by
 rw[hg.block b (tI.1 h).1 (fun e=>ho.ne h ht e.symm)];exact h
theorem ZS.keptV{rb rb':Nat}{W w':F}{v u:H}{l:List Rd}{k:List Zb}(hR:ZS rb 0 W v l)(hV:Q7 rb' 0 W u k)(hg:L W w' u.ownBlock):ZS rb 0 w' v l:=by
 refine hR.kept hg ?_ ?_;·rcases hR.row with h|⟨g,cur,fz,e,_,h⟩;(·exact .inl h);·refine .inr ?_;rw[e];exact fun e2=>hV.ne h (fun e=>lB e) e2.symm
 ·rcases hV.row with h|⟨g,cur,fz,e,_,h⟩;(·exact .inl h);·exact .inr ⟨g,cur,_,fz,e,tR _,h,kU⟩
theorem QJ{w:F}{b:Nat}{x y z:H}{t:tX}(h:w.heap[b]?=I (S #[x,y,z] t)):(w.cell? ⟨b,0,G⟩=I x∧w.cell? ⟨b,1,G⟩=I y∧w.cell? ⟨b,2,G⟩=I z)∧w.frozen? ⟨b,0,G⟩=N∧w.frozen? ⟨b,1,G⟩=N∧w.frozen? ⟨b,2,G⟩=N:=by
 refine⟨⟨?_,?_,?_⟩,?_,?_,?_⟩<;>simp[tU,rV,h]
theorem UO{rb:Nat}{w wr:F}{RB:Nat}{x y z:H}{st:Int}{va ua:Option rA}{n m vc uc:Nat}{R:List Rd}{V:List Zb}(h:wr.heap[RB]?=I (S #[x,y,z] 107))(hR:ZS rb 0 wr (J va n vc) R)(hV:Q7 rb 0 wr (J ua m uc) V)(hg:L w wr G)(hw:w.heap.size<=RB):((((tD wr ⟨RB,0,G⟩ (Y tC st)).setCell ⟨RB,1,G⟩ (J va n vc)).setCell ⟨RB,2,G⟩ (J ua m uc)).cell? ⟨RB,0,G⟩=I (Y tC st)∧(((tD wr ⟨RB,0,G⟩ (Y tC st)).setCell ⟨RB,1,G⟩ (J va n vc)).setCell ⟨RB,2,G⟩ (J ua m uc)).cell? ⟨RB,1,G⟩=I (J va n vc)∧(((tD wr ⟨RB,0,G⟩ (Y tC st)).setCell ⟨RB,1,G⟩ (J va n vc)).setCell ⟨RB,2,G⟩ (J ua m uc)).cell? ⟨RB,2,G⟩=I (J ua m uc))∧ZS rb 0 (((tD wr ⟨RB,0,G⟩ (Y tC st)).setCell ⟨RB,1,G⟩ (J va n vc)).setCell ⟨RB,2,G⟩ (J ua m uc)) (J va n vc) R∧Q7 rb 0 (((tD wr ⟨RB,0,G⟩ (Y tC st)).setCell ⟨RB,1,G⟩ (J va n vc)).setCell ⟨RB,2,G⟩ (J ua m uc)) (J ua m uc) V∧L w (((tD wr ⟨RB,0,G⟩ (Y tC st)).setCell ⟨RB,1,G⟩ (J va n vc)).setCell ⟨RB,2,G⟩ (J ua m uc)) G:=by
 have b1:=Qi (i:=0) (u:=Y tC st) h;have b2:=Qi (i:=1) (u:=J va n vc) b1;have b3:=Qi (i:=2) (u:=J ua m uc) b2;exact⟨(QJ (x:=Y tC st) (y:=J va n vc) (z:=J ua m uc) b3).1,((hR.setOther h zB jW (tR _) _).setOther b1 zB jW (tR _) _).setOther b2 zB jW (tR _) _,((hV.setOther h zB GZ (tR _) _).setOther b1 zB GZ (tR _) _).setOther b2 zB GZ (tR _) _,Qc (Qc (Qc hg _ hw _ _) _ hw _ _) _ hw _ _⟩
theorem Q7.keptR{rb rb':Nat}{W w':F}{v u:H}{l:List Zb}{k:List Rd}(hV:Q7 rb 0 W v l)(hR:ZS rb' 0 W u k)(hg:L W w' u.ownBlock):Q7 rb 0 w' v l:=by
 refine hV.kept hg ?_ ?_;·rcases hV.row with h|⟨g,cur,fz,e,_,h⟩;(·exact .inl h);·refine .inr ?_;rw[e];exact fun e2=>hR.ne h (fun e=>lB e.symm) e2.symm
 ·rcases hR.row with h|⟨g,cur,fz,e,_,h⟩;(·exact .inl h);·exact .inr ⟨g,cur,_,fz,e,tR _,h,iU⟩
theorem GD{w:F}{v1 v2:H}{st:Int}{R:List Rd}{V:List Zb}{rb:Nat}{t:Tx}(e:t=⟨st,R,V⟩)(h1:ZS rb 0 w v1 R)(h2:Q7 rb 0 w v2 V):GN w (sR #[Y tC st,v1,v2]) t:=by
 subst e;exact⟨_,_,rfl,h1.down 0 (tR _),h2.down 0 (tR _)⟩
theorem UL{v:H}{a b:Int}(h:a=b):tE (sH #[v,Y tC b])=tE (sH #[v,Y tC a]):=by
 rw[h]
theorem LS:∀(l:List Zb)(w:Zb)(m:Nat),m<l.length->(l.take m).any (fun q=>ZX q w)=N->ZX (l.getD m Qr) w=M->zY l w=l.set m w|[],_,_,h,_,_=>by simp at h|a::l,w,0,_,_,h=>by have h':ZX a w=M:=h;rw[zY,if_pos h'];rfl|a::l,w,m+1,h0,h1,h2=>by rw[rC,pB,rN]at h1;rw[zY,if_neg (by rw[h1.1];decide),pM,LS l w m (by simpa using h0) h1.2 (by simpa using h2)]
theorem DD:∀(l:List Zb)(w:Zb),l.any (fun q=>ZX q w)=N->zY l w=l++[w]|[],_,_=>rfl|a::l,w,h=>by rw[pB,rN]at h;rw[zY,if_neg (by rw[h.1];decide),DD l w h.2];rfl
theorem Q7.zero{rb:Nat}{w:F}{b o n cap:Nat}{l:List Zb}(h:Q7 rb 0 w (J (I ⟨b,o,G⟩) n cap) l):o=0:=by
 obtain⟨us,hl,hr,h3⟩:=h;rcases hr.2with⟨e,_⟩|⟨g',cap',cur,e,_⟩;·cases e
 ·simp only[tH,tA,rG]at e;exact e.1.2.1
theorem Q7.frozenT{rb:Nat}{w:F}{g n cap:Nat}{l:List Zb}(h:Q7 rb 0 w (J (I ⟨g,0,G⟩) n cap) l)(j:Nat):w.frozen? ⟨g,j,G⟩=N:=by
 obtain⟨us,hl,hr,h3⟩:=h;rcases hr.2with⟨e,_⟩|⟨g',cap',cur,e,hb,hg,_⟩;·cases e
 ·simp only[tH,tA,rG]at e;obtain⟨⟨rfl,_⟩,_⟩:=e;simp[rV,hg]
theorem Ef:∀(us:List WV)(i:Nat)(x:WV),Y0 (us.set i x)=((((Y0 us).set (i*4) x.2.1).set (i*4+1) x.2.2.1).set (i*4+2) (tL x.1.gone)).set (i*4+3) x.2.2.2|[],i,x=>by simp[Y0]|y::us,0,x=>by simp[Y0]|y::us,i+1,x=>by have ih:=Ef us i x;(have e:∀us:List WV,Y0 (y::us)=y.2.1::y.2.2.1::tL y.1.gone::y.2.2.2::Y0 us:=fun us=>by simp[Y0]);rw[pM,e,e,ih,show(i+1)*4=i*4+4by omega];rfl
theorem Q7.setT{rb:Nat}{w:F}{g n cap:Nat}{l:List Zb}(h:Q7 rb 0 w (J (I ⟨g,0,G⟩) n cap) l)(i:Nat)(vn vk vv:H)(p:Zb)(h1:Qh 0 w vn p.name)(h2:Qh 0 w vk p.key)(h3:Qh 0 w vv p.value):Q7 rb 0 ((((tD w ⟨g,i*4,G⟩ vn).setCell ⟨g,i*4+1,G⟩ vk).setCell ⟨g,i*4+2,G⟩ (tL p.gone)).setCell ⟨g,i*4+3,G⟩ vv) (J (I ⟨g,0,G⟩) n cap) (l.set i p):=by
 obtain⟨us,hul,hr,hp⟩:=h;have hgr:L w ((((tD w ⟨g,i*4,G⟩ vn).setCell ⟨g,i*4+1,G⟩ vk).setCell ⟨g,i*4+2,G⟩ (tL p.gone)).setCell ⟨g,i*4+3,G⟩ vv) (I g):=Qg (Qg (Qg (Qg (Qb _ _) _ _) _ _) _ _) _ _;rcases hr.2with⟨e,_⟩|⟨g',cap',cur,e,hb,hg,hn,hm,hs,ht⟩;·cases e
 ·simp only[tH,tA,rG]at e;obtain⟨⟨rfl,_⟩,rfl,rfl⟩:=e;have hrow:(I g:Option Nat)=G∨∃g' cur t fz,(I g:Option Nat)=I g'∧0<=g'∧w.heap[g']?=I (S cur t fz)∧t≠5:=.inr ⟨g,cur,_,_,rfl,tR _,hg,kU⟩;(have hus:us.length=l.length:=by rw[<-hul];simp);refine⟨us.set i (p,vn,vk,vv),by rw[List.map_set,hul],⟨by rw[Wj,rP,rP,hus],.inr ⟨g,cap,_,by rw[rP],hb,Qi (Qi (Qi (Qi hg))),by rw[rP];exact hn,hm,by simpa using hs,?_⟩⟩,?_⟩;(·rw[Ef,rP];simp only[Array.toList_setIfInBounds];rw[pC,pC,pC,pC,ht]);·intro x hx;rcases List.mem_or_eq_of_mem_set hx with hx|rfl;(·exact⟨(hp x hx).1.keptT hgr hrow,(hp x hx).2.1.keptT hgr hrow,(hp x hx).2.2.keptT hgr hrow⟩);·exact⟨h1.keptT hgr hrow,h2.keptT hgr hrow,h3.keptT hgr hrow⟩
def K5(n k:List UInt8)(q:Zb):Bool:=tP (q.name=n)&&tP (q.key=k)
theorem Bs{α:Type}(p:α->Bool)(d:α):∀(l:List α)(m:Nat),m<l.length->(l.take m).any p=N->p (l.getD m d)=M->l.find? p=I (l.getD m d)|[],_,h,_,_=>by simp at h|a::l,0,_,_,h=>by have h':p a=M:=h;rw[List.find?_cons_of_pos h'];rfl|a::l,m+1,h0,h1,h2=>by rw[rC,pB,rN]at h1;rw[List.find?_cons_of_neg (by rw[h1.1];decide),Bs p d l m (by simpa using h0) h1.2 (by simpa using h2)];simp
theorem L7{α:Type}(p:α->Bool)(l:List α)(h:l.any p=N):l.find? p=G:=by
 rw[List.find?_eq_none];intro x hx hp;rw[List.any_eq_false]at h;exact h x hx hp
theorem iB{l:List Zb}{n k:List UInt8}{m:Nat}(h:m<l.length)(h1:(l.take m).any (K5 n k)=N)(h2:K5 n k (l.getD m Qr)=M):iW l n k=I (l.getD m Qr):=Bs (K5 n k) Qr l m h h1 h2
theorem dR{l:List Zb}{n k:List UInt8}(h:l.any (K5 n k)=N):iW l n k=G:=L7 (K5 n k) l h
theorem On{l:FL}{t:Tx}{n k:List UInt8}(h:Kr l t n k≠0):U3 l t n k=N∧Vd l t n k=N∧UU l t n k=[]:=by
 rw[U3,Vd,UU,if_neg h,if_neg h,if_neg h];exact⟨rfl,rfl,rfl⟩
theorem eP{l:FL}{t:Tx}{n k:List UInt8}(h:zS l t≠0):Kr l t n k=zS l t:=by
 rw[Kr,if_neg h]
theorem DN{l:FL}{t:Tx}(h:zS l t=0):ZW l∧GI t:=by
 unfold zS at h;by_cases hf:Q9 l=0;·rw[if_pos hf]at h;exact⟨(XM l).1 hf,(yI t).1 h⟩
 ·rw[if_neg hf]at h;exact absurd h hf
theorem bQ{l:FL}{t:Tx}{n k:List UInt8}(h:zS l t=0){m:Nat}(hm:m<t.writes.length)(h1:(t.writes.take m).any (K5 n k)=N)(h2:K5 n k (t.writes.getD m Qr)=M):Kr l t n k=0∧U3 l t n k=M∧Vd l t n k=!(t.writes.getD m Qr).gone∧UU l t n k=(t.writes.getD m Qr).value:=by
 obtain⟨hf,ht⟩:=DN h;have ha:=iB hm h1 h2;have hs:=OF ha;have hw:=(Xr _).1 (ht.wrs _ hs.1);rw[hs.2.1,hs.2.2]at hw;have h0:=Lg hf ht hw.1 hw.2.1;refine⟨h0,?_,?_,?_⟩;·rw[U3,if_pos h0,ha];rfl
 ·rw[Vd,if_pos h0,ha]
 ·rw[UU,if_pos h0,ha]
theorem bM{l:FL}{t:Tx}{n k:List UInt8}(h:zS l t=0)(h1:t.writes.any (K5 n k)=N):Kr l t n k=VF l n k∧U3 l t n k=N∧Vd l t n k=U9 l n k∧UU l t n k=Vc l n k:=by
 obtain⟨hf,ht⟩:=DN h;have ha:=dR h1;have hfo:=(XM l).2 hf;have hE:Kr l t n k=VF l n k:=by rw[Kr,if_pos h,VF,qD,if_pos hfo];by_cases hn:Qt n.length=0;(·rw[if_pos hn,if_pos hn,Xf,if_pos ((YP _).2 (K9 hf n))]);·rw[if_neg hn,if_neg hn]
 refine⟨hE,?_,?_,?_⟩;·rw[U3,ha];by_cases h0:Kr l t n k=0;(·rw[if_pos h0];rfl);·rw[if_neg h0]
 ·rw[Vd,ha];by_cases h0:Kr l t n k=0;(·rw[if_pos h0]);·rw[if_neg h0];rw[hE]at h0;rw[U9];by_cases hn:qD l n=0;(·rw[VF,if_pos hn]at h0;rw[if_pos hn,Ej];simp[h0]);·rw[if_neg hn]
 ·rw[UU,ha];by_cases h0:Kr l t n k=0;(·rw[if_pos h0]);·rw[if_neg h0];rw[hE]at h0;rw[Vc];by_cases hn:qD l n=0;(·rw[VF,if_pos hn]at h0;rw[if_pos hn,En,if_neg h0]);·rw[if_neg hn]
theorem IR{X:PL}(h:ZH X)(k:List UInt8):ZH (kB X k):=⟨tN (Mt X k) h.room,fun p hp=>h.pairs p (pW.1 hp).1,Nx X k h.rises⟩
theorem DG{X:PL}(h:ZH X)(f u:List UInt8):ZH (Vf X f u):=⟨tN (WZ X f u) h.room,fun p hp=>h.pairs p (pW.1 hp).1,Bm X f u h.rises⟩
theorem Hg{X:PL}(h:ZH X){p:Pr}(hp:(1<=p.1.length∧p.1.length<=16)∧p.2.length<=32)(hl:(J9 X p).length<=60):ZH (J9 X p):=⟨hl,EY X p h.pairs hp,Pc X p h.rises⟩
theorem jX(n a b:List UInt8)(w:Zb):XT ⟨n,a,M,b⟩ w=M↔w.name=n∧lD a b w.key=M:=by
 show(tP (n=w.name)&&lD a b w.key)=M↔_;rw[rI,decide_eq_true_iff];exact⟨fun h=>⟨h.1.symm,h.2⟩,fun h=>⟨h.1.symm,h.2⟩⟩
theorem Od{n a b:List UInt8}{w:Zb}(h:XT ⟨n,a,M,b⟩ w=N)(X:PL):KS n a b X w=X:=by
 rw[KS,if_neg];intro e;rw[(jX n a b w).2 e]at h;cases h
theorem aP{n a b:List UInt8}{w:Zb}(h:XT ⟨n,a,M,b⟩ w=M)(hg:w.gone=M){X:PL}(hX:ZH X)(hw:Qz w=0):Xf X w.key=0∧zR X w.key=KS n a b X w∧ZH (KS n a b X w):=by
 have hk:=((Xr w).1 hw).2.1;have h0:=vT hX hk;have e:KS n a b X w=kB X w.key:=by rw[KS,if_pos ((jX n a b w).1 h),if_pos hg]
 refine⟨h0,by rw[e,zR,if_pos h0],by rw[e];exact IR hX _⟩
theorem bJ{n a b:List UInt8}{w:Zb}(h:XT ⟨n,a,M,b⟩ w=M)(hg:w.gone=N){X:PL}(hX:ZH X)(hw:Qz w=0):KS n a b X w=J9 X (w.key,w.value)∧(60<(KS n a b X w).length->Ke X (w.key,w.value)=11)∧(¬60<(KS n a b X w).length->Ke X (w.key,w.value)=0∧Vo X (w.key,w.value)=KS n a b X w∧ZH (KS n a b X w)):=by
 have hk:=(Xr w).1 hw;have hv:w.value.length<=32:=by have:=hk.2.2;rw[hg,if_neg (by decide)]at this;exact this
 have e:KS n a b X w=J9 X (w.key,w.value):=by rw[KS,if_pos ((jX n a b w).1 h),hg,if_neg (by decide)]
 have h0:VW X (w.key,w.value)=0:=by rw[VW,if_pos ((YP X).2 hX)];exact(Jz _).2 ⟨hk.2.1,hv⟩
 refine⟨e,fun hl=>?_,fun hl=>?_⟩;·rw[e]at hl;rw[Ke,if_pos h0,if_pos hl]
 ·rw[e]at hl;(have h1:Ke X (w.key,w.value)=0:=by rw[Ke,if_pos h0,if_neg hl]);refine⟨h1,by rw[e,Vo,if_pos h1],?_⟩;rw[e];exact Hg hX ⟨hk.2.1,hv⟩ (by omega)
def JC(n a b:List UInt8)(X:PL)(ws:List Zb):Int×PL:=(kO n a b X ws,if kO n a b X ws=0then SC n a b X ws else[])
theorem S7(n a b:List UInt8)(X:PL):JC n a b X []=(0,X):=rfl
theorem Pn{n a b:List UInt8}{X:PL}{ws:List Zb}{m:Nat}(hm:m<ws.length)(h:¬60<(KS n a b X (ws.getD m Qr)).length):JC n a b X (ws.drop m)=JC n a b (KS n a b X (ws.getD m Qr)) (ws.drop (m+1)):=by
 rw[sS hm,show ws[m]=ws.getD m Qr by simp[hm]];rw[JC,JC,kO,if_neg h];rfl
theorem Cq{n a b:List UInt8}{X:PL}{ws:List Zb}{m:Nat}(hm:m<ws.length)(h:60<(KS n a b X (ws.getD m Qr)).length):JC n a b X (ws.drop m)=(11,[]):=by
 rw[sS hm,show ws[m]=ws.getD m Qr by simp[hm]];rw[JC,kO,if_pos h,if_neg (by decide)]
theorem dL{l:FL}{t:Tx}{n a b:List UInt8}(h:zS l t≠0):JQ l t n a b=zS l t∧VV l t n a b=[]:=by
 have e:JQ l t n a b=zS l t:=by rw[JQ,if_neg h]
 exact⟨e,by rw[VV,e,if_neg h]⟩
theorem Sp{l:FL}{t:Tx}{n a b:List UInt8}(h:zS l t=0)(h1:YE l n a b≠0):JQ l t n a b=YE l n a b∧VV l t n a b=[]:=by
 obtain⟨hf,ht⟩:=DN h;have hfo:=(XM l).2 hf;have e:JQ l t n a b=YE l n a b:=by(have hE:YE l n a b=if Qt n.length=0then(if Qq a.length=0then Qq b.length else Qq a.length)else Qt n.length:=by rw[YE,qD,if_pos hfo];by_cases hn:Qt n.length=0;(·rw[if_pos hn,if_pos hn,YA,Xf,if_pos ((YP _).2 (K9 hf n))]);·rw[if_neg hn,if_neg hn]);rw[JQ,if_pos h,hE];by_cases hn:Qt n.length=0;(·rw[if_pos hn,if_pos hn];by_cases ha:Qq a.length=0;(·rw[if_pos ha,if_pos ha];by_cases hb:Qq b.length=0;(·rw[hE,if_pos hn,if_pos ha]at h1;exact absurd hb h1);·rw[if_neg hb]);·rw[if_neg ha,if_neg ha]);·rw[if_neg hn,if_neg hn]
 exact⟨e,by rw[VV,e,if_neg h1]⟩
theorem Ax{l:FL}{t:Tx}{n a b:List UInt8}(h:zS l t=0)(h1:YE l n a b=0):JC n a b (Kg l n a b) t.writes=(JQ l t n a b,VV l t n a b)∧ZH (Kg l n a b):=by
 obtain⟨hf,ht⟩:=DN h;have hfo:=(XM l).2 hf;have hn:qD l n=0:=by by_cases hn:qD l n=0;(·exact hn);·rw[YE,if_neg hn]at h1;exact absurd h1 hn
 have hr:YA (YX l n) a b=0:=by rw[YE,if_pos hn]at h1;exact h1
 have hg:=Aa hr;have hb:Qq b.length=0:=by rw[YA,if_pos hg]at hr;exact hr
 have ha:Qq a.length=0:=(Zx _).2 (OW hg);have hnn:Qt n.length=0:=(ZG _).2 (qT hn).2;have e:Kg l n a b=Vf (YX l n) a b:=by rw[Kg,if_pos hn,KH,if_pos hr]
 have eE:JQ l t n a b=kO n a b (Vf (YX l n) a b) t.writes:=by rw[JQ,if_pos h,if_pos hnn,if_pos ha,if_pos hb]
 refine⟨?_,by rw[e];exact DG (K9 hf n) a b⟩;rw[e,JC,VV,eE]
def WY:Prop:=∀(w:F)(v:H)(t:Tx),GS w v t->xE t->sW O 136 #[v] w fun e w'=>e=tE (Y tC (Gf t))∧L w w' G
def I8:Prop:=∀(w:F)(v:H)(l:PL),Qs w v l->kV l->sW O 52 #[v] w fun e w'=>e=tE (Y tC (QC l))∧L w w' G
theorem FM{w:F}{o:rM}{a:Act}{K:Act->F->Prop}{Q:Exit->Act->F->Prop}(s x:rH)(ho:o.op=.call {callee:=.builtin .append,args:=#[s,x],argTypes:=#[41,41]})(rb base:Nat)(hrb:base<=rb)(v:H)(l:PL)(hs:a.eval s=v)(hown:Kk rb base w v l)(vk vv:H)(p:Pr)(hk:Qh base w vk p.1)(hv:Qh base w vv p.2)(nb:Nat)(hb:w.heap[nb]?=I (S #[vk,vv] 44))(hx:a.eval x=J (I ⟨nb,0,G⟩) 1 1)(hl:(l.length+1)*48<=140737488355328)(hbase:rb<=w.heap.size)(h:∀v' w',Kk rb base w' v' (l++[p])->L w w' v.ownBlock->K (a.put o.dst v') w'):o.wp O a w K Q:=by
 obtain⟨i0,hi,hz0,hz1,hz2⟩:=r7 CA;have hrow:=hown.row hrb;obtain⟨vs,hvl,hr,hp⟩:=hown;refine wp_append_lies w s x 41 ho rb 44 i0 (sR #[J G 0 0,J G 0 0]) 2 48 Tryz.underlying41 hi hz0 hz1 hz2 rfl (by decide) v l.length (flat vs) hs hr ⟨nb,0,G⟩ 1 1 (flat [(vk,vv)]) hx rfl (rB (cs:=#[vk,vv]) hb) ?_ (by omega) (by unfold pG;omega) hl hbase _ rfl ?_;·intro u hu;simp only[flat,tM,rJ,rO,tK,tQ,or_false]at hu;rcases hu with rfl|rfl;(·exact ZM hk);·exact ZM hv
 ·intro g cap w' h1 h2 _ _;refine h _ w' ⟨vs++[(vk,vv)],by simp[hvl],?_,?_⟩ h2;(·rw[JS,tB];exact h1);·intro i hi;rw[Jh,Jh,hvl];by_cases hil:i<l.length;(·rw[if_pos hil,if_pos hil];exact⟨(hp i hil).1.kept h2 hrow,(hp i hil).2.kept h2 hrow⟩);·rw[if_neg hil,if_neg hil];(obtain rfl:i=l.length:=by simp at hi;omega);rw[oE];exact⟨hk.kept h2 hrow,hv.kept h2 hrow⟩
theorem Gc{w:F}{ops:Array rM}{o:rM}{a:Act}{K:Act->F->Prop}{Q:Exit->Act->F->Prop}{E:Prop}(hgd:o.guard=G)(s x:rH)(ho:o.op=.call {callee:=.builtin .append,args:=#[s,x],argTypes:=#[41,41]})(rb base:Nat)(hrb:base<=rb)(v:H)(l:PL)(hs:a.eval s=v)(hown:Kk rb base w v l)(vk vv:H)(p:Pr)(hk:Qh base w vk p.1)(hv:Qh base w vv p.2)(nb:Nat)(hb:w.heap[nb]?=I (S #[vk,vv] 44))(hx:a.eval x=J (I ⟨nb,0,G⟩) 1 1)(hl:(l.length+1)*48<=140737488355328)(hbase:rb<=w.heap.size)(h:∀v' w',Kk rb base w' v' (l++[p])->L w w' v.ownBlock->K (a.put o.dst v') w'):if sF o (r8 ops a.tmps)=M then Oper.wp O o a w K Q else E:=by
 have hw:sF o (r8 ops a.tmps)=M:=by simp[sF,hgd]
 rw[if_pos hw];exact FM s x ho rb base hrb v l hs hown vk vv p hk hv nb hb hx hl hbase h
theorem Rz(w:F):(sizeOf (O.elem 41)).run O w=.ok 2 w:=by
 kernel_rfl
theorem Qs.sliced{w:F}{a:Option rA}{cap:Nat}{l:PL}(h:Qs w (J a l.length cap) l)(i j:Nat)(hij:i<=j)(hj:j<=l.length):Qs w (sP a i j cap 2) ((l.take j).drop i):=by
 obtain⟨a',cap',e,hc,h⟩:=h;simp only[tH,true_and]at e;obtain⟨rfl,rfl⟩:=e;have hlen:((l.take j).drop i).length=j-i:=by simp;omega
 refine⟨if cap=i then a else a.map (·.add (i*2)),cap-i,by rw[hlen];rfl,by rw[hlen];omega,?_⟩;by_cases hci:cap=i;·left;exact⟨tJ (by rw[hlen];omega),fun _=>by omega⟩
 ·rw[if_neg hci];rcases h with⟨rfl,h⟩|⟨b,o,rfl,h⟩;(·left;refine⟨by simp,fun e=>?_⟩;cases a with|none=>have:=h rfl;simp at hj;omega|some x=>cases e);·right;refine⟨b,o+i*2,by simp[Xa],fun k hk=>?_⟩;rw[hlen]at hk;have:=h (i+k) (by omega);(have e:((l.take j).drop i).getD k ([],[])=l.getD (i+k) ([],[]):=by simp[show i+k<j by omega]);rw[e,show o+i*2+k*2=o+(i+k)*2by omega];exact this
theorem vG(a:Option rA)(cap:Nat)(l:PL)(n:Nat)(hn:n<=l.length)(hc:l.length<=cap):∃a1 c1,(∀W,(rT 41 (J a l.length cap) G (I (Y tC (n:Int))) G).run O W=.ok (J a1 n c1) W)∧∀W,Qs W (J a l.length cap) l->Qs W (J a1 n c1) (l.take n):=by
 refine⟨if cap=0then a else a.map (·.add (0*2)),cap-0,fun W=>?_,fun W h=>?_⟩;·rw[run_slice_h _ _ _ _ _ (by kernel_rfl) _ _ (by omega) (by omega),Rz];simp only[rF,sP,sY,pD]
 ·have:=h.sliced 0 n (by omega) hn;simpa only[sP,oD,pD]using this
theorem vU(a:Option rA)(cap:Nat)(l:PL)(n:Nat)(hn:n<=l.length):∃a1 c1,(∀W,(rT 41 (J a l.length cap) (I (Y tC (n:Int))) G G).run O W=.ok (J a1 (l.length-n) c1) W)∧∀W,Qs W (J a l.length cap) l->Qs W (J a1 (l.length-n) c1) (l.drop n):=by
 refine⟨if cap=n then a else a.map (·.add (n*2)),cap-n,fun W=>?_,fun W h=>?_⟩;·rw[run_slice_l _ _ _ _ _ (by kernel_rfl) _ _ (by omega) (by omega),Rz];simp only[rF,sP,sY]
 ·have:=h.sliced n l.length hn (sB _);simpa only[sP,sE]using this
theorem N5(a:Option rA)(cap:Nat)(l:PL)(i j:Nat)(hij:i<=j)(hj:j<=l.length)(hc:l.length<=cap):∃a1 c1,(∀W,(rT 41 (J a l.length cap) (I (Y tC (i:Int))) (I (Y tC (j:Int))) G).run O W=.ok (J a1 (j-i) c1) W)∧∀W,Qs W (J a l.length cap) l->Qs W (J a1 (j-i) c1) ((l.take j).drop i):=by
 refine⟨if cap=i then a else a.map (·.add (i*2)),cap-i,fun W=>?_,fun W h=>?_⟩;·rw[run_slice_lh _ _ _ _ _ (by kernel_rfl) _ _ _ _ (by omega) (by omega) (by omega),Rz];simp only[rF,sP,sY]
 ·have:=h.sliced i j hij hj;simpa only[sP]using this
theorem Qs.cap{w:F}{a:Option rA}{n cap:Nat}{l:PL}(h:Qs w (J a n cap) l):l.length<=cap:=by
 obtain⟨a',cap',e,hc,_⟩:=h;simp only[tH]at e;obtain⟨_,_,rfl⟩:=e;exact hc
def bH:Prop:=∀(w:F)(v:H)(l:FL),ZD w v l->Uj l->sW O 30 #[v] w fun e w'=>e=tE (Y tC (Q9 l))∧L w w' G
def DO:Prop:=∀(w:F)(v u:H)(l:FL)(ws:List Zb),ZD w v l->QR w u ws->Uj l->jG ws->sW O 25 #[v,u] w fun e w'=>∃x,e=tE (sH #[x,Y tC (QN l ws)])∧ZD w' x (ZA l ws)∧L w w' G
theorem Zp.down{base:Nat}{w:F}{v:H}{l:FL}(h:Zp base w v l)(b2:Nat)(hb:b2<=base):Zp b2 w v l:=by
 obtain⟨vs,h1,h2,h3⟩:=h;refine⟨vs,h1,⟨h2.1,?_⟩,h3⟩;rcases h2.2with h|⟨g,cap,cur,e,hb2,rest⟩;·exact .inl h
 ·exact .inr ⟨g,cap,cur,e,tN hb hb2,rest⟩
def yB:Prop:=∀(w:F)(v u:H)(l:FL)(ws:List Zb),ZD w v l->QR w u ws->Uj l->jG ws->sW O 25 #[v,u] w fun e w'=>∃x,e=tE (sH #[x,Y tC (QN l ws)])∧Zp w.heap.size w' x (ZA l ws)∧L w w' G
theorem yB.ok(h:yB):DO:=fun w v u l ws h1 h2 h3 h4=>(h w v u l ws h1 h2 h3 h4).mono (by
 rintro e w'⟨x,rfl,hx,hg⟩;exact⟨x,rfl,hx.list,hg⟩)
theorem qX(w:F)(b i:Nat)(u:H):∃W:F,Hid (W=tD w ⟨b,i,G⟩ u)∧L w W (I b):=⟨_,rfl,YK w b i u⟩
theorem zH{w:F}{ops:Array rM}{o:rM}{a:Act}{K:Act->F->Prop}{Q:Exit->Act->F->Prop}{E:Prop}(hgd:o.guard=G)(s x:rH)(ho:o.op=.call {callee:=.builtin .append,args:=#[s,x],argTypes:=#[72,72]})(rb:Nat)(v:H)(l:List Zb)(hs:a.eval s=v)(hown:Q7 rb 0 w v l)(vn vk vv:H)(p:Zb)(h1:Qh 0 w vn p.name)(h2:Qh 0 w vk p.key)(h3:Qh 0 w vv p.value)(nb:Nat)(hb:w.heap[nb]?=I (S #[vn,vk,tL p.gone,vv] 71))(hx:a.eval x=J (I ⟨nb,0,G⟩) 1 1)(hl:(l.length+1)*80<=140737488355328)(hbase:rb<=w.heap.size)(h:∀v' w',Q7 rb 0 w' v' (l++[p])->L w w' v.ownBlock->K (a.put o.dst v') w'):if sF o (r8 ops a.tmps)=M then Oper.wp O o a w K Q else E:=by
 have hw:sF o (r8 ops a.tmps)=M:=by simp[sF,hgd]
 rw[if_pos hw];obtain⟨i0,hi,hz0,hz1,hz2⟩:=r7 cI;have hrow:v.ownBlock=G∨∃g cur t fz,v.ownBlock=I g∧0<=g∧w.heap[g]?=I (S cur t fz)∧t≠5:=by rcases hown.row with h|⟨g,cur,fz,e,_,h⟩;(·exact .inl h);·exact .inr ⟨g,cur,_,fz,e,tR _,h,kU⟩
 obtain⟨us,hul,hr,hp⟩:=hown;refine wp_append_lies w s x 72 ho rb 71 i0 (sR #[J G 0 0,J G 0 0,tL N,J G 0 0]) 4 80 Tryz.underlying72 hi hz0 hz1 hz2 rfl (by decide) v l.length (Y0 us) hs hr ⟨nb,0,G⟩ 1 1 (Y0 [(p,vn,vk,vv)]) hx rfl (rB (cs:=#[vn,vk,tL p.gone,vv]) hb) ?_ (by omega) (by unfold pG;omega) hl hbase _ rfl ?_;·intro u hu;simp only[Y0,tM,rJ,rO,tK,tQ,or_false]at hu;rcases hu with rfl|rfl|rfl|rfl;(·exact ZM h1);(·exact ZM h2);(·rfl);·exact ZM h3
 ·intro g cap w' q1 q2 _ _;refine h _ w' ⟨us++[(p,vn,vk,vv)],by simp[hul],?_,?_⟩ q2;(·rw[uF,tB];exact q1);·intro y hy;rcases tZ.1 hy with hy|hy;(·exact⟨(hp y hy).1.keptT q2 hrow,(hp y hy).2.1.keptT q2 hrow,(hp y hy).2.2.keptT q2 hrow⟩);·simp only[tK,tQ,or_false]at hy;subst hy;exact⟨h1.keptT q2 hrow,h2.keptT q2 hrow,h3.keptT q2 hrow⟩
theorem xQ{w:F}{ops:Array rM}{o:rM}{a:Act}{K:Act->F->Prop}{Q:Exit->Act->F->Prop}{E:Prop}(hgd:o.guard=G)(s x:rH)(ho:o.op=.call {callee:=.builtin .append,args:=#[s,x],argTypes:=#[105,105]})(rb:Nat)(v:H)(l:List Rd)(hs:a.eval s=v)(hown:ZS rb 0 w v l)(vn vk vv:H)(p:Rd)(h1:Qh 0 w vn p.name)(h2:Qh 0 w vk p.key)(h3:Qh 0 w vv p.last)(nb:Nat)(hb:w.heap[nb]?=I (S #[vn,vk,tL p.wide,vv] 220))(hx:a.eval x=J (I ⟨nb,0,G⟩) 1 1)(hl:(l.length+1)*80<=140737488355328)(hbase:rb<=w.heap.size)(h:∀v' w',ZS rb 0 w' v' (l++[p])->L w w' v.ownBlock->K (a.put o.dst v') w'):if sF o (r8 ops a.tmps)=M then Oper.wp O o a w K Q else E:=by
 have hw:sF o (r8 ops a.tmps)=M:=by simp[sF,hgd]
 rw[if_pos hw];obtain⟨i0,hi,hz0,hz1,hz2⟩:=r7 iS;have hrow:v.ownBlock=G∨∃g cur t fz,v.ownBlock=I g∧0<=g∧w.heap[g]?=I (S cur t fz)∧t≠5:=by rcases hown.row with h|⟨g,cur,fz,e,_,h⟩;(·exact .inl h);·exact .inr ⟨g,cur,_,fz,e,tR _,h,iU⟩
 obtain⟨us,hul,hr,hp⟩:=hown;refine wp_append_lies w s x 105 ho rb 220 i0 (sR #[J G 0 0,J G 0 0,tL N,J G 0 0]) 4 80 Tryz.underlying105 hi hz0 hz1 hz2 rfl (by decide) v l.length (Gn us) hs hr ⟨nb,0,G⟩ 1 1 (Gn [(p,vn,vk,vv)]) hx rfl (rB (cs:=#[vn,vk,tL p.wide,vv]) hb) ?_ (by omega) (by unfold pG;omega) hl hbase _ rfl ?_;·intro u hu;simp only[Gn,tM,rJ,rO,tK,tQ,or_false]at hu;rcases hu with rfl|rfl|rfl|rfl;(·exact ZM h1);(·exact ZM h2);(·rfl);·exact ZM h3
 ·intro g cap w' q1 q2 _ _;refine h _ w' ⟨us++[(p,vn,vk,vv)],by simp[hul],?_,?_⟩ q2;(·rw[Mk,tB];exact q1);·intro y hy;rcases tZ.1 hy with hy|hy;(·exact⟨(hp y hy).1.keptT q2 hrow,(hp y hy).2.1.keptT q2 hrow,(hp y hy).2.2.keptT q2 hrow⟩);·simp only[tK,tQ,or_false]at hy;subst hy;exact⟨h1.keptT q2 hrow,h2.keptT q2 hrow,h3.keptT q2 hrow⟩
def bW:Prop:=∀(w:F)(v:H)(r:Rq),UX w->XJ w v r->yH r->sW O 131 #[v] w fun e w'=>∃x,e=tE (sH #[x,Y tC (Uc r)])∧Yw w' x (Zv r)∧L w w' G
def Z6(K:Int)(n q l v:Nat):Nat->Bool|0=>N|1=>!QT K 0&&tP (0<n)|2=>(!QT K 0&&tP (0<n))||(!QT K 1&&tP (0<q))|3=>((!QT K 0&&tP (0<n))||(!QT K 1&&tP (0<q)))||(!QT K 2&&tP (0<l))|_=>(((!QT K 0&&tP (0<n))||(!QT K 1&&tP (0<q)))||(!QT K 2&&tP (0<l)))||(!QT K 3&&tP (0<v))
def lV(K:Int)(n q l v:Nat):Int:=if(tP (Qt n≠0)&&QT K 0)=M then Qt n else if(tP (Qq q≠0)&&QT K 1)=M then Qq q else if(tP (Qq l≠0)&&QT K 2)=M then Qq l else if 32<v then 1 else if Z6 K n q l v 4=M then 4 else 0
theorem iQ(r:Rq)(hk:1<=r.kind∧r.kind<=8):Yi r=lV r.kind r.name.length r.key.length r.last.length r.value.length:=by
 rw[Yi,if_pos hk];have hf:Ed r=if Z6 r.kind r.name.length r.key.length r.last.length r.value.length 4=M then 4 else 0:=by unfold Ed;by_cases h1:Q4 r.kind=N∧0<r.name.length+r.key.length;(·rw[if_pos h1,if_pos];by_cases h2:0<r.name.length;(·simp[Z6,QT,h1.1,h2]);·(have h3:0<r.key.length:=by omega);simp[Z6,QT,h1.1,h3]);·rw[if_neg h1];by_cases h2:(r.kind≠3∧0<r.last.length)∨(r.kind≠4∧0<r.value.length);(·rw[if_pos h2,if_pos];rcases h2 with⟨h2,h3⟩|⟨h2,h3⟩;(·simp[Z6,QT,h2,h3]);·simp[Z6,QT,h2,h3]);·rw[if_neg h2,if_neg];intro hb;simp only[Z6,QT,Bool.or_eq_true,rI,Bool.not_eq_true',decide_eq_true_iff,decide_eq_false_iff_not]at hb;rcases hb with((hb|hb)|hb)|hb;(·exact h1 ⟨hb.1,by omega⟩);(·exact h1 ⟨hb.1,by omega⟩);(·exact h2 (.inl hb));·exact h2 (.inr hb)
 rw[hf];unfold yQ lV;generalize Z6 r.kind r.name.length r.key.length r.last.length r.value.length 4=B;show _=if(tP (Qt r.name.length≠0)&&Q4 r.kind)=M then _ else if(tP (Qq r.key.length≠0)&&Q4 r.kind)=M then _ else if(tP (Qq r.last.length≠0)&&tP (r.kind=3))=M then _ else _;have h3:r.kind=3->Q4 r.kind=M:=fun h=>by rw[h];decide
 generalize Qt r.name.length=A at*;generalize Qq r.key.length=C at*;generalize Qq r.last.length=D at*;cases hN:Q4 r.kind with|false=>(have h3':¬r.kind=3:=fun h=>by rw[h3 h]at hN;cases hN);simp[h3']|true=>by_cases hA:A=0;(·by_cases hC:C=0;(·by_cases h4:r.kind=3;(·by_cases hD:D=0;(·simp[hA,hC,h4,hD]);·simp[hA,hC,h4,hD]);·simp[hA,hC,h4]);·simp[hA,hC]);·simp[hA]
theorem iF(r:Rq)(hk:¬(1<=r.kind∧r.kind<=8)):Yi r=5:=by
 rw[Yi,if_neg hk]
def Hf:Prop:=∀(w:F)(v u a b:H)(l:FL)(t:Tx)(n k:List UInt8),ZD w v l->Uj l->GS w u t->xE t->Qe w a n->Qe w b k->n.length<=140737488355328->k.length<=140737488355328->sW O 119 #[v,u,a,b] w fun e w'=>∃x,e=tE (sH #[sR #[tL (Vd l t n k),x],tL (U3 l t n k),Y tC (Kr l t n k)])∧Qh 0 w' x (UU l t n k)∧L w w' G
theorem XO{w:F}{b:Nat}{x y:H}{t:tX}(h:w.heap[b]?=I (S #[x,y] t)):w.cell? ⟨b,0,G⟩=I x∧w.cell? ⟨b,1,G⟩=I y∧w.frozen? ⟨b,0,G⟩=N∧w.frozen? ⟨b,1,G⟩=N:=by
 refine⟨?_,?_,?_,?_⟩<;>simp[tU,rV,h]
section
variable{D:List UInt8->List UInt8}{v u:Sv}
theorem Ce(hD:∀x,(D x).length=4)(h:Zd D v)(hs:v.synced=v.commits.length){k:Int}(hk:0<=k):UG D v k=V5 N v.tape v.commits v.out:=by
 obtain⟨j,h1,h2,h3,_⟩:=qJ hD h hk;obtain rfl:j=v.commits.length:=by omega
 rw[h3,sE];have hm:=h.mark;rw[hs,sE]at hm;have:(⟨QV D v.commits,((QV D v.commits).length:Int)⟩:V2)=v.tape:=by rw[<-hm,<-h.data]
 rw[this]
end
section
variable{D:List UInt8->List UInt8}{v:Sv}
def U2(s:Nat)(r:Rq):Ac:=⟨1,(s:Int),0,Jn r⟩
def Gt:Ac:=⟨2,0,0,[]⟩
def vX(k:Int):Rq:=⟨k,[],[],[],[]⟩
theorem RY{s:Nat}(hs:s<=7){r:Rq}(hr:XY r):JG (U2 s r):=⟨⟨(by
 decide:(1:Int)<=1),(by
 decide:(1:Int)<=4)⟩,fun _=>⟨Int.natCast_nonneg _,by
 show(s:Int)<=7;omega⟩,(fun h=>by
 cases h),(by
 have:=(Tf hr).1;show(Jn r).length<=4000;omega),(fun h=>absurd rfl h),(fun _=>rfl),(fun h=>absurd rfl h)⟩
theorem Wf:JG Gt:=⟨⟨by
 decide,by
 decide⟩,(fun h=>by
 cases h),(fun h=>by
 cases h),(by
 decide),(fun _=>rfl),(fun _=>rfl),(fun _=>rfl)⟩
theorem Mc{k:Int}(h:k=1∨k=6∨k=7):XY (vX k):=by
 have hn:Q4 k=N:=by rcases h with h|h|h<;>subst h<;>decide
 exact⟨by rcases h with h|h|h<;>subst h<;>decide,(fun e=>by rw[show(vX k).kind=k from rfl,hn]at e;cases e),(fun e=>by rw[show(vX k).kind=k from rfl,hn]at e;cases e),(fun e=>by have:k=3:=e;omega),(by decide:(0:Nat)<=32),fun _=>rfl,fun _=>rfl,fun _=>rfl,fun _=>rfl⟩
end
section
structure Se where
  begun : Bool
  start : Int
  writes : List Zb
structure Md where
  ses : Nat -> Se
  states : List FL
variable{D:List UInt8->List UInt8}{v:Sv}{m:Md}
theorem Gs(v:Sv)(n:Nat):ZW (QE v n):=uV _ _ VI
end
section
variable{D:List UInt8->List UInt8}{v:Sv}{m:Md}
theorem Cn{r:Rq}(hr:XY r)(hk:r.kind=2∨r.kind=3):(1<=r.name.length∧r.name.length<=8)∧(1<=r.key.length∧r.key.length<=16):=by
 have:Q4 r.kind=M:=by rcases hk with e|e<;>rw[e]<;>decide
 exact⟨hr.name this,hr.key this⟩
end
def Ib:Prop:=∀(w:F)(v u:H)(t:Tx)(l:List XC),GS w v t->xE t->Y8 w u l->Aq l->sW O 140 #[v,u] w fun e w'=>e=tE (sH #[tL (Jp t l),Y tC (Tp t)])∧L w w' G
def fL:Prop:=∀(w:F)(v:H)(c:XC),JY w v c->NA c->sW O 161 #[v] w fun e w'=>∃x,e=tE (sH #[x,Y tC (QZ c)])∧Qe w' x (Tv c)∧L w w' G
def He:Prop:=∀(w:F)(v:H)(c:XC),JY w v c->NA c->sW O 165 #[v] w fun e w'=>e=tE (Y tC (QZ c))∧L w w' G
theorem Tk(w:F):(sizeOf (O.elem 24)).run O w=.ok 1 w:=by
 kernel_rfl
theorem Qe.cap{w:F}{a:Option rA}{n cap:Nat}{bs:List UInt8}(h:Qe w (J a n cap) bs):bs.length<=cap∧n=bs.length:=by
 obtain⟨a',cap',e,hc,_⟩:=h;simp only[tH]at e;obtain⟨_,rfl,rfl⟩:=e;exact⟨hc,rfl⟩
theorem Qe.byte{w:F}{a:Option rA}{n cap:Nat}{bs:List UInt8}(h:Qe w (J a n cap) bs)(i:Nat)(hi:i<bs.length):∃b o,a=I ⟨b,o,G⟩∧KA w b o bs:=by
 obtain⟨a',cap',e,hc,h⟩:=h;simp only[tH]at e;obtain⟨rfl,rfl,rfl⟩:=e;rcases h with⟨rfl,_⟩|⟨b,o,rfl,h⟩;·simp at hi
 ·exact⟨b,o,rfl,h⟩
theorem Qe.sliced{w:F}{a:Option rA}{cap:Nat}{l:List UInt8}(h:Qe w (J a l.length cap) l)(i j:Nat)(hij:i<=j)(hj:j<=l.length):Qe w (sP a i j cap 1) ((l.take j).drop i):=by
 obtain⟨a',cap',e,hc,h⟩:=h;simp only[tH,true_and]at e;obtain⟨rfl,rfl⟩:=e;have hlen:((l.take j).drop i).length=j-i:=by simp;omega
 refine⟨if cap=i then a else a.map (·.add (i*1)),cap-i,by rw[hlen];rfl,by rw[hlen];omega,?_⟩;by_cases hci:cap=i;·left;exact⟨tJ (by rw[hlen];omega),fun _=>by omega⟩
 ·rw[if_neg hci];rcases h with⟨rfl,h⟩|⟨b,o,rfl,h⟩;(·left;refine⟨by simp,fun e=>?_⟩;cases a with|none=>have:=h rfl;simp at hj;omega|some x=>cases e);·right;refine⟨b,o+i,by simp[Xa],fun k hk=>?_⟩;rw[hlen]at hk;have:=h (i+k) (by omega);(have e:((l.take j).drop i).getD k 0=l.getD (i+k) 0:=by simp[show i+k<j by omega]);rw[e,show o+i+k=o+(i+k)by omega];exact this
theorem z9(a:Option rA)(cap:Nat)(l:List UInt8)(n:Nat)(hn:n<=l.length)(hc:l.length<=cap):∃a1 c1,(∀W,(rT 24 (J a l.length cap) G (I (Y tC (n:Int))) G).run O W=.ok (J a1 n c1) W)∧∀W,Qe W (J a l.length cap) l->Qe W (J a1 n c1) (l.take n):=by
 refine⟨if cap=0then a else a.map (·.add (0*1)),cap-0,fun W=>?_,fun W h=>?_⟩;·rw[run_slice_h _ _ _ _ _ (by kernel_rfl) _ _ (by omega) (by omega),Tk];simp only[rF,sP,sY,pD]
 ·have:=h.sliced 0 n (by omega) hn;simpa only[sP,oD,pD]using this
theorem GM(a:Option rA)(cap:Nat)(l:List UInt8)(i j:Nat)(hij:i<=j)(hj:j<=l.length)(hc:l.length<=cap):∃a1 c1,(∀W,(rT 24 (J a l.length cap) (I (Y tC (i:Int))) (I (Y tC (j:Int))) G).run O W=.ok (J a1 (j-i) c1) W)∧∀W,Qe W (J a l.length cap) l->Qe W (J a1 (j-i) c1) ((l.take j).drop i):=by
 refine⟨if cap=i then a else a.map (·.add (i*1)),cap-i,fun W=>?_,fun W h=>?_⟩;·rw[run_slice_lh _ _ _ _ _ (by kernel_rfl) _ _ _ _ (by omega) (by omega) (by omega),Tk];simp only[rF,sP,sY]
 ·have:=h.sliced i j hij hj;simpa only[sP]using this
theorem VO(a:Option rA)(cap:Nat)(l:List UInt8)(n:Nat)(hn:n<=l.length):∃a1 c1,(∀W,(rT 24 (J a l.length cap) (I (Y tC (n:Int))) G G).run O W=.ok (J a1 (l.length-n) c1) W)∧∀W,Qe W (J a l.length cap) l->Qe W (J a1 (l.length-n) c1) (l.drop n):=by
 refine⟨if cap=n then a else a.map (·.add (n*1)),cap-n,fun W=>?_,fun W h=>?_⟩;·rw[run_slice_l _ _ _ _ _ (by kernel_rfl) _ _ (by omega) (by omega),Tk];simp only[rF,sP,sY]
 ·have:=h.sliced n l.length hn (sB _);simpa only[sP,sE]using this
theorem Co{ws:List Zb}(hn:ws.length<=1000)(h:∀w∈ws,Qz w=0):jG ws:=⟨by
 omega,fun j hj=>by
 have h0:=h ws[j] (sN hj);rw[show ws[j]=ws.getD j Qr by simp[hj]]at h0;have h2:=(Xr _).1 h0;have h3:(ws.getD j Qr).value.length<=32:=by have:=h2.2.2;split at this;(·rw[this];simp);·exact this
 exact⟨by omega,by omega,by omega⟩⟩
theorem Dx{c:XC}(h:QZ c=0):NA c:=by
 obtain⟨h1,h2,h3⟩:=(KN c).1 h;exact⟨by omega,Co (by omega) h3⟩
def Iv:Prop:=∀(w:F)(v u a b c:H)(l:FL)(t:Tx)(n k m:List UInt8),ZD w v l->Uj l->GS w u t->xE t->Qe w a n->Qe w b k->Qe w c m->n.length<=140737488355328->k.length<=140737488355328->m.length<=140737488355328->sW O 121 #[v,u,a,b,c] w fun e w'=>∃x,e=tE (sH #[x,Y tC (JQ l t n k m)])∧QO 0 w' x (VV l t n k m)∧L w w' G
def IZ:Prop:=∀(w:F)(v u x:H)(l:PL)(f t:List UInt8),Qs w v l->Qe w u f->Qe w x t->kV l->f.length<=140737488355328->t.length<=140737488355328->sW O 154 #[v,u,x] w fun e w'=>∃y,e=tE (sH #[y,Y tC (YA l f t)])∧QO 0 w' y (KH l f t)∧L w w' G
def Iw:Prop:=∀(w:F)(v r u t:H)(l:FL)(n k m:List UInt8),ZD w v l->Qe w r n->Qe w u k->Qe w t m->Uj l->n.length<=140737488355328->k.length<=140737488355328->m.length<=140737488355328->sW O 133 #[v,r,u,t] w fun e w'=>∃x,e=tE (sH #[x,Y tC (YE l n k m)])∧QO 0 w' x (Kg l n k m)∧L w w' G
def N9:Prop:=∀(w:F)(v:H)(bs:List UInt8)(i:Int),Qe w v bs->sW O 97 #[v,Y tC i] w fun e w'=>e=tE (sH #[tL (AA bs i).1,Y tC (AA bs i).2])∧L w w' G
theorem N9.of(hB:N9)(w:F)(v:H)(k:List UInt8)(i:Nat)(hv:Qe w v k)(hk:1<=k.length∧k.length<=16)(hi:i<145):sW O 97 #[v,Y tC (i:Int)] w fun e w'=>e=tE (sH #[tL (ZZ k i),Y tC 0])∧L w w' G:=by
 have:=hB w v k i hv;rw[eA k i hk hi]at this;exact this
def R7:Prop:=∀(w:F)(v u:H)(a b:List UInt8),Qe w v a->Qe w u b->sW O 95 #[v,u] w fun e w'=>e=tE (sH #[Y tC (F8 a b).1,Y tC (F8 a b).2])∧L w w' G
theorem R7.of(hP:R7)(w:F)(v u:H)(a b:List UInt8)(hv:Qe w v a)(hu:Qe w u b)(ha:1<=a.length∧a.length<=16)(hb:1<=b.length∧b.length<=16):sW O 95 #[v,u] w fun e w'=>e=tE (sH #[Y tC (JI a b),Y tC 0])∧L w w' G:=by
 have:=hP w v u a b hv hu;rw[aK a b ha hb]at this;exact this
def SR:Prop:=∀(w:F)(v u:H)(t:Tx)(r:Zb),GS w v t->xE t->Xe w u r->YQ r->sW O 123 #[v,u] w fun e w'=>∃x,e=tE (sH #[x,Y tC (ZY t r)])∧GN w' x (X6 t r)∧L w w' G
def Hn:Prop:=∀(w:F)(v:H)(r:Rq),UX w->XJ w v r->yH r->sW O 122 #[v] w fun e w'=>∃x,e=tE (sH #[x,Y tC (YD r)])∧Xe w' x (Zo r)∧L w w' G
def aL:Prop:=∀(w:F)(n t:Int),-9223372036854775808<=n->n<=9223372036854775807->-9223372036854775808<=t->t<=9223372036854775807->sW O 118 #[Y tC n,Y tC t] w fun e w'=>e=tE (tL (Zl n t))∧L w w' G
def dK:Prop:=∀(w:F)(v:H)(b:List UInt8),UX w->Qe w v b->b.length<=140737488355328->sW O 26 #[v] w fun e w'=>∃x,e=tE (sH #[x,Y tC (QI b)])∧XJ w' x (Qu b)∧L w w' G
theorem ID(b:List UInt8)(n:Nat)(h:n<b.length):Zw (b.drop n)=if n+1+(b.getD n 0).toNat<=b.length then I ((b.take (n+1+(b.getD n 0).toNat)).drop (n+1),b.drop (n+1+(b.getD n 0).toNat))else G:=by
 rw[sS h,Zw,show b[n]=b.getD n 0 by simp[h],pQ];by_cases hc:n+1+(b.getD n 0).toNat<=b.length;·rw[if_pos (by omega),if_pos hc,List.drop_take,List.drop_drop,Nat.add_sub_cancel_left]
 ·rw[if_neg (by omega),if_neg hc]
def Ru(ws:List Zb):Prop:=∀p∈ws,p.name.length<=255∧p.key.length<=255∧p.value.length<=255
theorem Bk{ws:List Zb}{p:Zb}(h:Ru ws)(hp:p.name.length<=255∧p.key.length<=255∧p.value.length<=255):Ru (ws++[p]):=fun q hq=>by
 rcases tZ.1 hq with hq|hq;·exact h q hq
 ·simp only[tK,tQ,or_false]at hq;rw[hq];exact hp
theorem WS{b:List UInt8}(h:4000<b.length):YH b=1∧JB b=Zn:=by
 have:YH b=1:=by rw[YH,if_pos h]
 exact⟨this,by rw[JB,this,if_neg (by decide)]⟩
theorem SJ{b:List UInt8}(h:b.length<4):YH b=14∧JB b=Zn:=by
 have:YH b=14:=by rw[YH,if_neg (by omega),if_pos h]
 exact⟨this,by rw[JB,this,if_neg (by decide)]⟩
theorem Hp{b:List UInt8}(h1:¬4000<b.length)(h2:¬b.length<4)(h:G2 b=G):YH b=14∧JB b=Zn:=by
 have:YH b=14:=by rw[YH,if_neg h1,if_neg h2,h]
 exact⟨this,by rw[JB,this,if_neg (by decide)]⟩
theorem Hc{b r:List UInt8}{ws:List Zb}(h1:¬4000<b.length)(h2:¬b.length<4)(h:G2 b=I (ws,r))(hr:r.length≠0):YH b=4∧JB b=Zn:=by
 have:YH b=4:=by rw[YH,if_neg h1,if_neg h2,h];show(if r.length=0then _ else(4:Int))=4;rw[if_neg hr]
 exact⟨this,by rw[JB,this,if_neg (by decide)]⟩
theorem Ik{b r:List UInt8}{ws:List Zb}(h1:¬4000<b.length)(h2:¬b.length<4)(h:G2 b=I (ws,r))(hr:r.length=0):YH b=QZ ⟨(V9 b:Int),ws⟩∧(YH b=0->JB b=⟨(V9 b:Int),ws⟩)∧(YH b≠0->JB b=Zn):=by
 have:YH b=QZ ⟨(V9 b:Int),ws⟩:=by rw[YH,if_neg h1,if_neg h2,h];show(if r.length=0then _ else(4:Int))=_;rw[if_pos hr]
 refine⟨this,fun h0=>?_,fun h0=>?_⟩;·rw[JB,if_pos h0,h]
 ·rw[JB,if_neg h0]
def Xj(k:Int)(m:Nat)(p0 p1 p2 p3 r:List UInt8):Option (Rq×List UInt8):=match m with|0=>Yf k r|1=>Vj k p0 r|2=>Vl k p0 p1 r|3=>Vk k p0 p1 p2 r|_=>I (⟨k,p0,p1,p2,p3⟩,r)
theorem JX(r:List UInt8):Jg M r=Zw r:=rfl
theorem yS(r:List UInt8)(h:r.length=0):Zw r=G:=by
 rw[tJ h];rfl
theorem uA(r:List UInt8)(h:0<r.length):Zw r=if 1+(r.getD 0 0).toNat<=r.length then I ((r.take (1+(r.getD 0 0).toNat)).drop 1,r.drop (1+(r.getD 0 0).toNat))else G:=by
 have:=ID r 0 h;rw[sM]at this;exact this
theorem qE(k:Int)(p0 p1 p2 p3 r:List UInt8):(QT k 0=N->Xj k 0 p0 p1 p2 p3 r=Xj k 1 [] p1 p2 p3 r)∧(QT k 1=N->Xj k 1 p0 p1 p2 p3 r=Xj k 2 p0 [] p2 p3 r)∧(QT k 2=N->Xj k 2 p0 p1 p2 p3 r=Xj k 3 p0 p1 [] p3 r)∧(QT k 3=N->Xj k 3 p0 p1 p2 p3 r=Xj k 4 p0 p1 p2 [] r):=by
 refine⟨fun h=>?_,fun h=>?_,fun h=>?_,fun h=>?_⟩;·show Yf k r=Vj k [] r;rw[Yf,show Q4 k=N from h];rfl
 ·show Vj k p0 r=Vl k p0 [] r;rw[Vj,show Q4 k=N from h];rfl
 ·show Vl k p0 p1 r=Vk k p0 p1 [] r;rw[Vl,show tP (k=3)=N from h];rfl
 ·show Vk k p0 p1 p2 r=I (⟨k,p0,p1,p2,[]⟩,r);rw[Vk,show tP (k=4)=N from h];rfl
theorem Ga(k:Int)(p0 p1 p2 p3 r:List UInt8)(h0:Zw r=G)(m:Nat)(hm:m<4)(h:QT k m=M):Xj k m p0 p1 p2 p3 r=G:=by
 match m,hm with|0,_=>show Yf k r=G;rw[Yf,show Q4 k=M from h,JX,h0]|1,_=>show Vj k p0 r=G;rw[Vj,show Q4 k=M from h,JX,h0]|2,_=>show Vl k p0 p1 r=G;rw[Vl,show tP (k=3)=M from h,JX,h0]|3,_=>show Vk k p0 p1 p2 r=G;rw[Vk,show tP (k=4)=M from h,JX,h0]
theorem Gb(k:Int)(p0 p1 p2 p3 r p r2:List UInt8)(h0:Zw r=I (p,r2)):(QT k 0=M->Xj k 0 p0 p1 p2 p3 r=Xj k 1 p p1 p2 p3 r2)∧(QT k 1=M->Xj k 1 p0 p1 p2 p3 r=Xj k 2 p0 p p2 p3 r2)∧(QT k 2=M->Xj k 2 p0 p1 p2 p3 r=Xj k 3 p0 p1 p p3 r2)∧(QT k 3=M->Xj k 3 p0 p1 p2 p3 r=Xj k 4 p0 p1 p2 p r2):=by
 refine⟨fun h=>?_,fun h=>?_,fun h=>?_,fun h=>?_⟩;·show Yf k r=Vj k p r2;rw[Yf,show Q4 k=M from h,JX,h0]
 ·show Vj k p0 r=Vl k p0 p r2;rw[Vj,show Q4 k=M from h,JX,h0]
 ·show Vl k p0 p1 r=Vk k p0 p1 p r2;rw[Vl,show tP (k=3)=M from h,JX,h0]
 ·show Vk k p0 p1 p2 r=I (⟨k,p0,p1,p2,p⟩,r2);rw[Vk,show tP (k=4)=M from h,JX,h0]
def WX(k:Int)(b:List UInt8):Int:=match Yf k b with|none=>14|I (_,x)=>if x.length=0then 0 else 4
def Tw(k:Int)(b:List UInt8):Rq:=match Yf k b with|none=>V3|I (r,x)=>if x.length=0then r else V3
theorem FS{k:Int}{b:List UInt8}(h:Yf k b=G):WX k b=14∧Tw k b=V3:=by
 unfold WX Tw;rw[h];exact⟨rfl,rfl⟩
theorem FY{k:Int}{b x:List UInt8}{r:Rq}(h:Yf k b=I (r,x))(hx:0<x.length):WX k b=4∧Tw k b=V3:=by
 unfold WX Tw;rw[h];exact⟨if_neg (by omega),if_neg (by omega)⟩
theorem FP{k:Int}{b x:List UInt8}{r:Rq}(h:Yf k b=I (r,x))(hx:x.length=0):WX k b=0∧Tw k b=r:=by
 unfold WX Tw;rw[h];exact⟨if_pos hx,if_pos hx⟩
theorem eM{k:Int}{b:List UInt8}(h:WX k b=0):(Tw k b).kind=k:=by
 match hD:Yf k b with|none=>rw[(FS hD).1]at h;cases h|I (r,x)=>by_cases hx:x.length=0;(·rw[(FP hD hx).2];exact(Tt hD).2);·rw[(FY hD (by omega)).1]at h;cases h
theorem eH{b:List UInt8}(h1:¬4000<b.length)(h2:¬b.length=0)(hk:1<=Ul b∧Ul b<=8):QI b=(if WX (Ul b) (b.drop 1)=0then Yi (Tw (Ul b) (b.drop 1))else WX (Ul b) (b.drop 1))∧(QI b=0->Qu b=Tw (Ul b) (b.drop 1)):=by
 match hD:Yf (Ul b) (b.drop 1)with|none=>obtain⟨e1,e2⟩:=FS hD;(have:QI b=14:=by rw[QI,if_neg h1,if_neg h2,if_pos hk,hD]);rw[e1,this];exact⟨rfl,fun h=>by cases h⟩|I (r,x)=>(have hw:QI b=if x.length=0then Yi r else 4:=by rw[QI,if_neg h1,if_neg h2,if_pos hk,hD]);by_cases hx:x.length=0;(·obtain⟨e1,e2⟩:=FP hD hx;rw[if_pos hx]at hw;rw[e1,e2,if_pos rfl];exact⟨hw,fun h=>by rw[Qu,if_pos h,hD]⟩);·obtain⟨e1,e2⟩:=FY hD (by omega);rw[if_neg hx]at hw;rw[e1,hw];exact⟨rfl,fun h=>by cases h⟩
theorem dJ{k:Int}{b:List UInt8}(hb:b.length<=4000):(Tw k b).name.length<=4000∧(Tw k b).key.length<=4000∧(Tw k b).last.length<=4000∧(Tw k b).value.length<=4000:=by
 match hD:Yf k b with|none=>rw[(FS hD).2];simp[V3]|I (r,x)=>by_cases hx:x.length=0;(·rw[(FP hD hx).2];obtain⟨_,r1,r2,r3,h1,h2,h3,h4⟩:=kP hD;(have key:∀{c:Bool}{r p r2:List UInt8},Jg c r=I (p,r2)->p.length<=r.length∧r2.length<=r.length:=by intro c r p r2 h;have hf:=VN h;cases c with|false=>have:=Ih h rfl;subst this;rw[hf];exact⟨tR _,by simp[Xo]⟩|true=>rw[hf];simp[Xo,XN];omega);have a1:=key h1;have a2:=key h2;have a3:=key h3;have a4:=key h4;omega);·rw[(FY hD (by omega)).2];simp[V3]
structure Vq where
  rest : List UInt8
  short : Bool
def Fv(r:Vq)(n:Nat):List UInt8:=if r.short=M∨r.rest.length<n then[]else r.rest.take n
def BM(r:Vq)(n:Nat):Vq:=if r.short=M∨r.rest.length<n then⟨r.rest,M⟩else⟨r.rest.drop n,N⟩
theorem F4{r:Vq}{n:Nat}(h:r.short=M∨r.rest.length<n):Fv r n=[]∧BM r n=⟨r.rest,M⟩:=⟨if_pos h,if_pos h⟩
theorem vE{r:Vq}{n:Nat}(h:¬(r.short=M∨r.rest.length<n)):Fv r n=r.rest.take n∧BM r n=⟨r.rest.drop n,N⟩:=⟨if_neg h,if_neg h⟩
theorem dC(r:Vq)(n:Nat):(Fv r n).length<=n:=by
 unfold Fv;split;·simp
 ·rw[rW];omega
def Xh(r:Vq):Vq:=BM r 1
def JD(r:Vq):Nat:=if(Xh r).short=M then 0 else((Fv r 1).getD 0 0).toNat
theorem Yq(r:Vq):JD r<256:=by
 unfold JD;split;·omega
 ·exact((Fv r 1).getD 0 0).toNat_lt
theorem YV(x:UInt8)(l:List UInt8):Xh ⟨x::l,N⟩=⟨l,N⟩∧JD ⟨x::l,N⟩=x.toNat:=by
 have h:¬((⟨x::l,N⟩:Vq).short=M∨(⟨x::l,N⟩:Vq).rest.length<1):=by simp
 obtain⟨h1,h2⟩:=vE h;have h3:Xh ⟨x::l,N⟩=⟨l,N⟩:=h2;refine⟨h3,?_⟩;rw[JD,h3,h1,if_neg (by simp)];rfl
theorem v8{r:Vq}(h:r.short=M)(n:Nat):(BM r n).short=M:=by
 rw[(F4 (.inl h)).2]
theorem Kd{r:Vq}(h:r.short=M):(Xh r).short=M:=v8 h 1
theorem yL:(Xh ⟨[],N⟩).short=M:=rfl
def Lr(r:Vq):List UInt8:=Fv (Xh r) (JD r)
def Kz(r:Vq):Vq:=BM (Xh r) (JD r)
theorem VC{r:Vq}(h:r.short=M):(Kz r).short=M:=v8 (Kd h) _
theorem vQ{l p l2:List UInt8}(h:Zw l=I (p,l2)):Lr ⟨l,N⟩=p∧Kz ⟨l,N⟩=⟨l2,N⟩:=by
 cases l with|nil=>cases h|cons x l=>rw[Zw]at h;obtain⟨h1,h2⟩:=YV x l;unfold Lr Kz;rw[h1,h2];by_cases hx:x.toNat<=l.length;(·rw[if_pos hx]at h;simp only[tA,rU]at h;obtain⟨rfl,rfl⟩:=h;exact vE (by simp;omega));·rw[if_neg hx]at h;cases h
theorem FU{l:List UInt8}(h:Zw l=G):(Kz ⟨l,N⟩).short=M:=by
 cases l with|nil=>exact v8 yL _|cons x l=>rw[Zw]at h;obtain⟨h1,h2⟩:=YV x l;unfold Kz;rw[h1,h2];by_cases hx:x.toNat<=l.length;(·rw[if_pos hx]at h;cases h);·rw[(F4 (.inr (by show l.length<x.toNat;omega))).2]
theorem Rm(r:Vq):(Lr r).length<=255:=tN (dC _ _) (pR (Yq r))
def F9(r:Vq):Zb:=if JD (Kz (Kz r))=255then⟨Lr r,Lr (Kz r),[],M⟩else⟨Lr r,Lr (Kz r),Lr (Kz (Kz r)),N⟩
def Bz(r:Vq):Vq:=if JD (Kz (Kz r))=255then Xh (Kz (Kz r))else Kz (Kz (Kz r))
theorem Cz{r:Vq}(h:r.short=M):(Bz r).short=M:=by
 unfold Bz;split;·exact Kd (VC (VC h))
 ·exact VC (VC (VC h))
theorem Ra{r:Vq}(h:(Kz (Kz r)).short=M):(Bz r).short=M:=by
 unfold Bz;split;·exact Kd h
 ·exact VC h
theorem eJ{l l2:List UInt8}{p:Zb}(h:Y9 l=I (p,l2)):F9 ⟨l,N⟩=p∧Bz ⟨l,N⟩=⟨l2,N⟩:=by
 unfold Y9 at h;cases h1:Zw l with|none=>rw[h1]at h;cases h|some q=>obtain⟨n,la⟩:=q;rw[h1]at h;have h:M5 n la=I (p,l2):=h;unfold M5 at h;obtain⟨a1,a2⟩:=vQ h1;cases h2:Zw la with|none=>rw[h2]at h;cases h|some q=>obtain⟨k,lb⟩:=q;rw[h2]at h;have h:uM n k lb=I (p,l2):=h;unfold uM at h;obtain⟨b1,b2⟩:=vQ h2;unfold F9 Bz;rw[a1,a2,b1,b2];cases lb with|nil=>cases h|cons x lb=>obtain⟨c1,c2⟩:=YV x lb;by_cases hx:(x::lb).head?=I 255;(·rw[if_pos hx]at h;simp only[tA,rU]at h;obtain⟨rfl,rfl⟩:=h;have:x=255:=oG hx;subst this;rw[c2,c1,if_pos (by rfl),if_pos (by rfl)];exact⟨rfl,rfl⟩);·rw[if_neg hx]at h;have hne:¬x.toNat=255:=fun e=>hx (by rw[show x=255from pS.1 e];rfl);rw[c2,if_neg hne,if_neg hne];cases h3:Zw (x::lb)with|none=>rw[h3]at h;cases h|some q=>obtain⟨v,lc⟩:=q;rw[h3]at h;simp only[tA,rU]at h;obtain⟨rfl,rfl⟩:=h;obtain⟨d1,d2⟩:=vQ h3;rw[d1,d2];exact⟨rfl,rfl⟩
theorem dP{l:List UInt8}(h:Y9 l=G):(Bz ⟨l,N⟩).short=M:=by
 unfold Y9 at h;cases h1:Zw l with|none=>exact Ra (VC (FU h1))|some q=>obtain⟨n,la⟩:=q;rw[h1]at h;have h:M5 n la=G:=h;unfold M5 at h;obtain⟨a1,a2⟩:=vQ h1;cases h2:Zw la with|none=>exact Ra (by rw[a2];exact FU h2)|some q=>obtain⟨k,lb⟩:=q;rw[h2]at h;have h:uM n k lb=G:=h;unfold uM at h;obtain⟨b1,b2⟩:=vQ h2;unfold Bz;rw[a2,b2];cases lb with|nil=>split;(·exact yL);·exact FU rfl|cons x lb=>obtain⟨c1,c2⟩:=YV x lb;by_cases hx:(x::lb).head?=I 255;(·rw[if_pos hx]at h;cases h);·rw[if_neg hx]at h;have hne:¬x.toNat=255:=fun e=>hx (by rw[show x=255from pS.1 e];rfl);rw[c2,if_neg hne];cases h3:Zw (x::lb)with|none=>exact FU h3|some q=>obtain⟨v,lc⟩:=q;rw[h3]at h;cases h
theorem OE(r:Vq):(F9 r).name.length<=255∧(F9 r).key.length<=255∧(F9 r).value.length<=255:=by
 unfold F9;split;·exact⟨Rm _,Rm _,by simp⟩
 ·exact⟨Rm _,Rm _,Rm _⟩
def Ux:Nat->Vq->Vq|0,r=>r|n+1,r=>Bz (Ux n r)
def Uq:Nat->Vq->List Zb|0,_=>[]|n+1,r=>Uq n r++[F9 (Ux n r)]
theorem Df:∀(n:Nat)(r:Vq),(Uq n r).length=n|0,_=>rfl|n+1,r=>by rw[Uq,tB,Df n r];rfl
theorem Nh:∀(n:Nat)(r:Vq),Ru (Uq n r)|0,_=>fun p hp=>by simp[Uq]at hp|n+1,r=>Bk (Nh n r) (OE _)
theorem Nb:∀(n:Nat){r:Vq},r.short=M->(Ux n r).short=M|0,_,h=>h|n+1,_,h=>Cz (Nb n h)
theorem vC:∀(n:Nat){l l2:List UInt8}{ws:List Zb},Z4 n l=I (ws,l2)->Uq n ⟨l,N⟩=ws∧Ux n ⟨l,N⟩=⟨l2,N⟩|0,l,l2,ws,h=>by rw[Z4]at h;simp only[tA,rU]at h;obtain⟨rfl,rfl⟩:=h;exact⟨rfl,rfl⟩|n+1,l,l2,ws,h=>by rw[xA]at h;cases h1:Z4 n l with|none=>rw[h1]at h;cases h|some q=>obtain⟨ws1,l1⟩:=q;rw[h1]at h;have h:(match Y9 l1 with|I (w,r2)=>I (ws1++[w],r2)|none=>G)=I (ws,l2):=h;obtain⟨e1,e2⟩:=vC n h1;cases h2:Y9 l1 with|none=>rw[h2]at h;cases h|some q=>obtain⟨p,l3⟩:=q;rw[h2]at h;simp only[tA,rU]at h;obtain⟨rfl,rfl⟩:=h;obtain⟨d1,d2⟩:=eJ h2;rw[Uq,Ux,e1,e2,d1,d2];exact⟨rfl,rfl⟩
theorem Ct:∀(n:Nat){l:List UInt8},Z4 n l=G->(Ux n ⟨l,N⟩).short=M|0,l,h=>by rw[Z4]at h;cases h|n+1,l,h=>by rw[xA]at h;cases h1:Z4 n l with|none=>exact Cz (Ct n h1)|some q=>obtain⟨ws1,l1⟩:=q;rw[h1]at h;have h:(match Y9 l1 with|I (w,r2)=>I (ws1++[w],r2)|none=>G)=G:=h;obtain⟨e1,e2⟩:=vC n h1;cases h2:Y9 l1 with|none=>rw[Ux,e2];exact dP h2|some q=>obtain⟨p,l3⟩:=q;rw[h2]at h;cases h
def ED(r:Vq):Vq:=Ux (JD (Xh (Xh (Xh r)))) (Xh (Xh (Xh (Xh r))))
def EP(r:Vq):XC:=⟨((65536*JD r+256*JD (Xh r)+JD (Xh (Xh r)):Nat):Int),Uq (JD (Xh (Xh (Xh r)))) (Xh (Xh (Xh (Xh r))))⟩
theorem D0(r:Vq):Ru (EP r).writes∧(EP r).writes.length<=255:=⟨Nh _ _,by
 show(Uq _ _).length<=255;rw[Df];exact pR (Yq _)⟩
theorem L0(b:List UInt8)(h:¬b.length<4):JD ⟨b,N⟩=(b.getD 0 0).toNat∧JD (Xh ⟨b,N⟩)=(b.getD 1 0).toNat∧JD (Xh (Xh ⟨b,N⟩))=(b.getD 2 0).toNat∧JD (Xh (Xh (Xh ⟨b,N⟩)))=(b.getD 3 0).toNat∧Xh (Xh (Xh (Xh ⟨b,N⟩)))=⟨b.drop 4,N⟩:=by
 match b,h with|[],h=>exact absurd (by simp) h|[_],h=>exact absurd (by simp) h|[_,_],h=>exact absurd (by simp) h|[_,_,_],h=>exact absurd (by simp) h|x0::x1::x2::x3::b,_=>obtain⟨a1,a2⟩:=YV x0 (x1::x2::x3::b);obtain⟨b1,b2⟩:=YV x1 (x2::x3::b);obtain⟨c1,c2⟩:=YV x2 (x3::b);obtain⟨d1,d2⟩:=YV x3 b;rw[a1,b1,c1,d1];exact⟨a2,b2,c2,d2,rfl⟩
theorem iM(b:List UInt8)(h:b.length<4):(ED ⟨b,N⟩).short=M:=by
 unfold ED;refine Nb _ ?_;match b,h with|[],_=>exact Kd (Kd (Kd yL))|[x],_=>rw[(YV x []).1];exact Kd (Kd yL)|[x,y],_=>rw[(YV x [y]).1,(YV y []).1];exact Kd yL|[x,y,z],_=>rw[(YV x [y,z]).1,(YV y [z]).1,(YV z []).1];exact yL|_::_::_::_::_,h=>exact absurd h (by simp only[sD];omega)
theorem Ow{b:List UInt8}(h0:¬4000<b.length)(h:(ED ⟨b,N⟩).short=M):YH b=14∧JB b=Zn:=by
 by_cases h4:b.length<4;·exact SJ h4
 ·obtain⟨_,_,_,e3,e4⟩:=L0 b h4;cases hb:G2 b with|none=>exact Hp h0 h4 hb|some q=>obtain⟨ws,l⟩:=q;obtain⟨_,e5⟩:=vC _ hb;unfold ED at h;rw[e3,e4,e5]at h;cases h
theorem DQ{b:List UInt8}(h:(ED ⟨b,N⟩).short=N):¬b.length<4∧G2 b=I ((EP ⟨b,N⟩).writes,(ED ⟨b,N⟩).rest)∧(V9 b:Int)=(EP ⟨b,N⟩).turn:=by
 by_cases h4:b.length<4;·rw[iM b h4]at h;cases h
 ·obtain⟨e0,e1,e2,e3,e4⟩:=L0 b h4;refine⟨h4,?_,?_⟩;(·cases hb:G2 b with|none=>have:=Ct _ hb;unfold ED at h;rw[e3,e4,this]at h;cases h|some q=>obtain⟨ws,l⟩:=q;obtain⟨e5,e6⟩:=vC _ hb;unfold ED EP;rw[e3,e4,e5,e6]);·unfold EP;rw[e0,e1,e2];rfl
theorem fR{b:List UInt8}(h0:¬4000<b.length)(h:(ED ⟨b,N⟩).short=N)(hr:(ED ⟨b,N⟩).rest.length≠0):YH b=4∧JB b=Zn:=by
 obtain⟨h4,hb,_⟩:=DQ h;exact Hc h0 h4 hb hr
theorem fH{b:List UInt8}(h0:¬4000<b.length)(h:(ED ⟨b,N⟩).short=N)(hr:(ED ⟨b,N⟩).rest.length=0):YH b=QZ (EP ⟨b,N⟩)∧(YH b=0->JB b=EP ⟨b,N⟩)∧(YH b≠0->JB b=Zn):=by
 obtain⟨h4,hb,ht⟩:=DQ h;have:=Ik h0 h4 hb hr;rw[ht]at this;exact this
theorem ZL(w:F)(o:Obj):∃W:F,Hid (W=w.alloc o)∧L w W G∧Hid (W.heap[w.heap.size]?=I o):=⟨w.alloc o,rfl,sV _ _ _,oF w o⟩
theorem j8(w:F)(b i:Nat)(u:H):∃W:F,Hid (W=tD w ⟨b,i,G⟩ u)∧L w W (I b):=⟨_,rfl,YK w b i u⟩
theorem lW:(251:Nat)≠5:=by
 decide
theorem gB:(251:Nat)≠71:=by
 decide
theorem Qe.rdr{w w':F}{b:Nat}{a0:Option rA}{n0 c0:Nat}{s:Bool}{t:tX}{v:H}{bs:List UInt8}(h:Qe w v bs)(hb:w.heap[b]?=I (S #[J a0 n0 c0,tL s] t))(hg:L w w' (I b)):Qe w' v bs:=by
 obtain⟨a,cap,rfl,hc,h⟩:=h;refine⟨a,cap,rfl,hc,?_⟩;rcases h with h|⟨pb,o,rfl,h⟩;·exact .inl h
 ·by_cases h0:bs=[];(·exact .inl ⟨h0,fun e=>by cases e⟩);·refine .inr ⟨pb,o,rfl,h.grown hg ?_⟩;intro e;cases e;have hc0:=h 0 (rS.2 h0);simp only[tU,hb,Nat.add_zero]at hc0;match o,hc0 with|0,hc0=>simp at hc0|1,hc0=>simp at hc0|o+2,hc0=>simp at hc0
structure Zg (w0 w : F) (b : Nat) (r : Vq) : Prop where
  at_ : ∃ a cap, w.heap[b]? = I (S #[J a r.rest.length cap, tL r.short] 251) ∧ Qe w0 (J a r.rest.length cap) r.rest
  old : ∃ a n c s, w0.heap[b]? = I (S #[J a n c, tL s] 251)
  grown : L w0 w (I b)
theorem Zg.lt{w0 w:F}{b:Nat}{r:Vq}(h:Zg w0 w b r):b<w.heap.size:=by
 obtain⟨a,cap,h,_⟩:=h.at_;exact(tI.1 h).1
theorem Zg.now{w0 w:F}{b:Nat}{r:Vq}(h:Zg w0 w b r){v:H}{bs:List UInt8}(hv:Qe w0 v bs):Qe w v bs:=by
 obtain⟨a,n,c,s,h0⟩:=h.old;exact hv.rdr h0 h.grown
theorem Zg.row{w0 w:F}{b:Nat}{r:Vq}(h:Zg w0 w b r):I b=G∨∃g cur t fz,I b=I g∧0<=g∧w.heap[g]?=I (S cur t fz)∧t≠5:=by
 obtain⟨a,cap,h,_⟩:=h.at_;exact .inr ⟨b,_,_,_,rfl,tR _,h,lW⟩
theorem Qh.rdr{w0 w w':F}{b:Nat}{r:Vq}{v:H}{bs:List UInt8}(h:Qh 0 w v bs)(hb:Zg w0 w b r)(hg:L w w' (I b)):Qh 0 w' v bs:=h.keptT hg hb.row
theorem Xq{w w':F}(hg:L w w' G)(r:Option Nat):L w w' r:=⟨hg.os,hg.tape,hg.output,hg.size,fun i hi _=>hg.block i hi (by
 simp)⟩
theorem Zg.kept{w0 w w':F}{b:Nat}{r:Vq}(h:Zg w0 w b r)(hg:L w w' G):Zg w0 w' b r:=by
 have hl:=h.lt;obtain⟨a,cap,h1,hs⟩:=h.at_;exact⟨⟨a,cap,by rw[hg.block b hl (by simp)];exact h1,hs⟩,h.old,Qa h.grown (Xq hg _)⟩
theorem Xg{w w':F}{b:Nat}(hg:L w w' (I b)){c:Nat}{o:Obj}(hc:w.heap[c]?=I o)(hne:c≠b):w'.heap[c]?=I o:=by
 rw[hg.block c (tI.1 hc).1 (by simpa using hne)];exact hc
theorem Zg.apart{w0 w w':F}{b:Nat}{r:Vq}(h:Zg w0 w b r){c:Nat}(hne:b≠c)(hc:w0.heap.size<=c)(hg:L w w' (I c)):Zg w0 w' b r:=by
 have hl:=h.lt;obtain⟨a,cap,h1,hs⟩:=h.at_;exact⟨⟨a,cap,by rw[hg.block b hl (by simpa using hne)];exact h1,hs⟩,h.old,Jx h.grown hc hg⟩
theorem Q7.rdr{rb:Nat}{w0 w w':F}{b:Nat}{r:Vq}{v:H}{l:List Zb}(h:Q7 rb 0 w v l)(hb:Zg w0 w b r)(hg:L w w' (I b)):Q7 rb 0 w' v l:=by
 obtain⟨a,cap,h0,_⟩:=hb.at_;exact h.kept hg (.inr (h.ne h0 gB)) hb.row
theorem Zg.ownV{rb:Nat}{w0 w w':F}{b:Nat}{r:Vq}{v:H}{l:List Zb}(h:Zg w0 w b r)(ho:Q7 rb 0 w v l)(hb:w0.heap.size<=rb)(hg:L w w' v.ownBlock):Zg w0 w' b r:=by
 obtain⟨a,cap,h1,hs⟩:=h.at_;have hne:=ho.ne h1 gB;cases hv:v.ownBlock with|none=>rw[hv]at hg;exact h.kept hg|some g=>rw[hv]at hg hne;exact h.apart (c:=g) (fun e=>hne (by rw[e])) (tN hb (ho.lt g hv).1) hg
section
open Go.ChangeShapes Go.WideShapes Go.ChangeAt Go.RowKit
theorem own:ownKnob O.godebug=G:=by
 kernel_rfl
theorem dQ:laidOutB O=M:=by
 kernel_rfl
theorem VT{n:Int}(h:(Lit.int tC n).wf=M):-9223372036854775808<=n∧n<=9223372036854775807:=bounds_i64 h
theorem aI{w w':F}(h:L w w' G):Below w.heap.size w w':=⟨h.os,h.tape,h.output,h.size,fun k hk=>h.block k hk (by
 simp)⟩
end
structure Mr(g:Gr):Prop where kind:-9223372036854775808<=g.kind∧g.kind<=9223372036854775807sess:-9223372036854775808<=g.sess∧g.sess<=9223372036854775807name:-9223372036854775808<=g.name∧g.name<=9223372036854775807key:-9223372036854775808<=g.key∧g.key<=9223372036854775807value:-9223372036854775808<=g.value∧g.value<=9223372036854775807
def cW(w:F)(b o:Nat)(g:Gr):Prop:=w.cell? ⟨b,o,G⟩=I (Y tC g.kind)∧w.cell? ⟨b,o+1,G⟩=I (Y tC g.sess)∧w.cell? ⟨b,o+2,G⟩=I (Y tC g.name)∧w.cell? ⟨b,o+3,G⟩=I (Y tC g.key)∧w.cell? ⟨b,o+4,G⟩=I (Y tC g.value)
theorem cW.grown{w w':F}{b o:Nat}{g:Gr}(h:cW w b o g)(hg:L w w' G):cW w' b o g:=⟨hg.cell h.1 (by
 simp),hg.cell h.2.1 (by
 simp),hg.cell h.2.2.1 (by
 simp),hg.cell h.2.2.2.1 (by
 simp),hg.cell h.2.2.2.2 (by
 simp)⟩
def Um(w:F)(v:H)(l:List Gr):Prop:=∃a cap,v=J a l.length cap∧l.length<=cap∧(l=[]∨∃b o,a=I ⟨b,o,G⟩∧∀i,i<l.length->cW w b (o+i*5) (l.getD i G0))
theorem Um.shape{w:F}{v:H}{l:List Gr}(h:Um w v l):∃a cap,v=J a l.length cap:=by
 obtain⟨a,cap,rfl,_⟩:=h;exact⟨a,cap,rfl⟩
theorem Um.grown{w w':F}{v:H}{l:List Gr}(h:Um w v l)(hg:L w w' G):Um w' v l:=by
 obtain⟨a,cap,rfl,hc,h⟩:=h;refine⟨a,cap,rfl,hc,?_⟩;rcases h with h|⟨b,o,rfl,h⟩;·exact .inl h
 ·exact .inr ⟨b,o,rfl,fun i hi=>(h i hi).grown hg⟩
theorem Um.at{w:F}{a:Option rA}{n cap:Nat}{l:List Gr}(h:Um w (J a n cap) l)(i:Nat)(hi:i<l.length):∃b o,a=I ⟨b,o,G⟩∧cW w b (o+i*5) (l.getD i G0):=by
 obtain⟨a',cap',e,_,h⟩:=h;simp only[tH]at e;obtain⟨rfl,_,_⟩:=e;rcases h with rfl|⟨b,o,rfl,h⟩;·simp at hi
 ·exact⟨b,o,rfl,h i hi⟩
def LU(l:List Gr):Prop:=∀g∈l,Mr g
def IM:Prop:=∀(w:F)(v:H)(t:V2),KP w v t->xV t->sW O 92 #[v] w fun e w'=>∃x,e=tE (sH #[x,Y tC (Rs t)])∧Yy w' x (Kj t)∧L w w' G
def Az:Prop:=∀(w:F)(v:H)(t:V2)(keep:Int),KP w v t->xV t->-9223372036854775808<=keep->keep<=9223372036854775807->sW O 110 #[v,Y tC keep] w fun e w'=>∃x,e=tE (sH #[x,Y tC (Uh t keep)])∧Yy w' x (Xs t keep)∧L w w' G
theorem EO:(103:Nat)≠5:=by
 decide
theorem LN:(103:Nat)≠71:=by
 decide
theorem EG:(103:Nat)≠210:=by
 decide
def IG:Prop:=∀(w:F)(v:H)(a:Ac),Wh w v a->Sb a->sW O 45 #[v] w fun e w'=>e=tE (Y tC (YY a))∧L w w' G
theorem Ox(s q:Int)(d:List UInt8):YY ⟨1,s,q,d⟩=if 0<=s∧s<=7then(if 4000<d.length then 1 else if q=0then 0 else 4)else 2:=by
 unfold YY;rw[if_pos (by show(1:Int)<=1∧(1:Int)<=4;omega)];by_cases h1:0<=s∧s<=7;·rw[if_pos h1,if_neg (by rintro(⟨_,h⟩|⟨h,_⟩);exact h h1;cases h)];by_cases h2:4000<d.length;(·rw[if_pos h2,if_pos h2]);·rw[if_neg h2,if_neg h2];by_cases h3:q=0;(·rw[if_pos h3,if_neg];rintro(⟨h,_⟩|⟨_,h⟩|⟨h,_⟩);(·exact h rfl);(·exact h h3);·exact h rfl);·rw[if_neg h3,if_pos (.inr (.inl ⟨by show(1:Int)≠3;decide,h3⟩))]
 ·rw[if_neg h1,if_pos (.inl ⟨rfl,h1⟩)]
theorem Sx(s q:Int)(d:List UInt8):YY ⟨3,s,q,d⟩=if 0<=q∧q<=200000then(if 4000<d.length then 1 else if s=0then(if 0<d.length then 4 else 0)else 4)else 2:=by
 unfold YY;rw[if_pos (by show(1:Int)<=3∧(3:Int)<=4;omega)];by_cases h1:0<=q∧q<=200000;·rw[if_pos h1,if_neg (by rintro(⟨h,_⟩|⟨_,h⟩);cases h;exact h h1)];by_cases h2:4000<d.length;(·rw[if_pos h2,if_pos h2]);·rw[if_neg h2,if_neg h2];by_cases h3:s=0;(·rw[if_pos h3];by_cases h4:0<d.length;(·rw[if_pos h4,if_pos (.inr (.inr ⟨by show(3:Int)≠1;decide,h4⟩))]);·rw[if_neg h4,if_neg];rintro(⟨_,h⟩|⟨h,_⟩|⟨_,h⟩);(·exact h h3);(·exact h rfl);·exact h4 h);·rw[if_neg h3,if_pos (.inl ⟨by show(3:Int)≠1;decide,h3⟩)]
 ·rw[if_neg h1,if_pos (.inr ⟨rfl,h1⟩)]
theorem Bt(k s q:Int)(d:List UInt8)(hk:k=2∨k=4):YY ⟨k,s,q,d⟩=if 4000<d.length then 1 else if s=0then(if q=0then(if 0<d.length then 4 else 0)else 4)else 4:=by
 unfold YY;have k1:¬k=1:=by omega
 have k3:¬k=3:=by omega
 rw[if_pos (by show 1<=k∧k<=4;omega),if_neg (by rintro(⟨h,_⟩|⟨h,_⟩);exact k1 h;exact k3 h)];by_cases h2:4000<d.length;·rw[if_pos h2,if_pos h2]
 ·rw[if_neg h2,if_neg h2];by_cases h3:s=0;(·rw[if_pos h3];by_cases h5:q=0;(·rw[if_pos h5];by_cases h4:0<d.length;(·rw[if_pos h4,if_pos (.inr (.inr ⟨k1,h4⟩))]);·rw[if_neg h4,if_neg];rintro(⟨_,h⟩|⟨_,h⟩|⟨_,h⟩);(·exact h h3);(·exact h h5);·exact h4 h);·rw[if_neg h5,if_pos (.inr (.inl ⟨k3,h5⟩))]);·rw[if_neg h3,if_pos (.inl ⟨k1,h3⟩)]
section
variable{D:List UInt8->List UInt8}{v:Sv}
theorem Lx(hD:∀x,(D x).length=4):∀(cs:List XC),(∀c∈cs,QZ c=0)->(QV D cs).length<=600*cs.length|[],_=>by simp[QV]|c::cs,h=>by have h1:=(yF hD (h c sO)).2;have h2:=Lx hD cs (fun x hx=>h x (tY _ hx));(have e:QV D (c::cs)=ZI D c++QV D cs:=by simp[QV]);rw[e,tB,sD];omega
theorem Zd.each(h:Zd D v):∀c∈v.commits,QZ c=0:=fun c hc=>by
 obtain⟨i,hi,e⟩:=List.getElem_of_mem hc;have:=(h.goes.at i hi).1;rw[List.getD_eq_getElem?_getD,List.getElem?_eq_getElem hi,e]at this;exact this
theorem cS(hD:∀x,(D x).length=4)(h:Zd D v){s:Nat}(hb:v.begun s=M)(hw:¬(v.txns s).writes.length=0):Vb D v.tape (Yn v s)=0:=by
 have hm:=h.many;have hc:QZ (Yn v s)=0:=Fj (h.tx s hb).1 hw v.commits.length hm;have h1:=(yF hD hc).2;have h2:=Lx hD v.commits h.each;have hd:=h.data;rw[Vb,if_pos h.may,if_pos hc,if_neg (by rw[hd];omega)]
def FQ(v:Sv)(s:Nat):Sv:=if(v.txns s).writes.length=0then Zu (Xk v s) (FZ s (v.txns s).start)else if v.queue.length=6∨v.commits.length=300then Zu v (Ur s 11)else if Jp (v.txns s) v.commits=M then Zu (Xk v s) (Ur s 9)else if QN (QE v v.commits.length) (v.txns s).writes≠0then Zu (Xk v s) (Ur s (QN (QE v v.commits.length) (v.txns s).writes))else{Xk v s with commits:=v.commits++[Yn v s],queue:=v.queue++[s],waits:=Km v.waits s M}
def A8(v:Sv)(s:Nat)(r:Rq):Sv:=if r.kind=8then Nq v s r else if QD v s r=M then Zu v (Ur s 6)else if r.kind=1then Zu {v with begun:=Km v.begun s M,txns:=Km v.txns s ⟨(v.synced:Int),[],[]⟩} (FZ s (v.synced:Int))else if r.kind=7then Zu (Xk v s) (Ur s 0)else if Zl (v.synced:Int) (v.txns s).start=N then Zu (Xk v s) (Ur s 10)else if r.kind=6then FQ v s else Gi v s r
def dM(v:Sv)(s:Nat)(data:List UInt8):Sv:=if v.up=N then Zu v (Ur s 13)else if QI data=0then A8 v s (Qu data)else Zu v (Ur s (QI data))
def bI(v:Sv):Sv:={v with synced:=v.synced+v.queue.length,waits:=KI v.waits v.queue,queue:=[],out:=v.out++Us v.synced v.queue}
def Er(v:Sv)(a:Ac):Sv:=if a.kind=1then dM v a.sess.toNat a.data else if a.kind=2then(if v.up=M then bI v else v)else{v with up:=M}
def Cs(l:List Ac):Sv:=l.foldl Er AY
def V4(v:Sv):Sv:={v with tape:=VK}
theorem cP(v:Sv):vN (V4 v)=vN v:=rfl
theorem Ny(v:Sv)(s:Nat)(x:Rd)(o:Rp):V4 (K8 v s x o)=K8 (V4 v) s x o:=by
 unfold K8;show V4 (if Xi (v.txns s) x=0then _ else _)=if Xi (v.txns s) x=0then _ else _;split<;>rfl
theorem Hm(v:Sv)(s:Nat)(r:Rq):V4 (Gi v s r)=Gi (V4 v) s r:=by
 unfold Gi;split;·unfold UH;show V4 (Zu (if ZY (v.txns s) _=0then _ else _) _)=Zu (if ZY (v.txns s) _=0then _ else _) _;split<;>rfl
 ·split;(·unfold Ml;show V4 (if U3 (QE v (v.txns s).start.toNat) (v.txns s) r.name r.key=M then _ else _)=if U3 (QE v (v.txns s).start.toNat) (v.txns s) r.name r.key=M then _ else _;split;(·rfl);·exact Ny v s _ _);·unfold vH;show V4 (if JQ (QE v (v.txns s).start.toNat) (v.txns s) r.name r.key r.last=0then _ else _)=if JQ (QE v (v.txns s).start.toNat) (v.txns s) r.name r.key r.last=0then _ else _;split;(·exact Ny v s _ _);·rfl
theorem Ci(hD:∀x,(D x).length=4)(h:Zd D v){s:Nat}(hb:v.begun s=M):V4 (Jo D v s)=FQ (V4 v) s:=by
 unfold Jo FQ;show V4 (if(v.txns s).writes.length=0then _ else if v.queue.length=6∨v.commits.length=300then _ else if Jp (v.txns s) v.commits=M then _ else if QN (QE v v.commits.length) (v.txns s).writes≠0then _ else _)=if(v.txns s).writes.length=0then _ else if v.queue.length=6∨v.commits.length=300then _ else if Jp (v.txns s) v.commits=M then _ else if QN (QE v v.commits.length) (v.txns s).writes≠0then _ else _;by_cases h1:(v.txns s).writes.length=0;·rw[if_pos h1,if_pos h1];rfl
 ·rw[if_neg h1,if_neg h1];by_cases h2:v.queue.length=6∨v.commits.length=300;(·rw[if_pos h2,if_pos h2];rfl);·rw[if_neg h2,if_neg h2];by_cases h3:Jp (v.txns s) v.commits=M;(·rw[if_pos h3,if_pos h3];rfl);·rw[if_neg h3,if_neg h3];by_cases h4:QN (QE v v.commits.length) (v.txns s).writes≠0;(·rw[if_pos h4,if_pos h4];rfl);·rw[if_neg h4,if_neg h4,if_neg (fun e=>e (cS hD h hb h1))];rfl
theorem bB(hD:∀x,(D x).length=4)(h:Zd D v)(s:Nat)(r:Rq):V4 (JE D v s r)=A8 (V4 v) s r:=by
 unfold JE A8;have es:QD (V4 v) s r=QD v s r:=rfl;rw[es];by_cases h1:r.kind=8;·rw[if_pos h1,if_pos h1];rfl
 ·rw[if_neg h1,if_neg h1];by_cases h2:QD v s r=M;(·rw[if_pos h2,if_pos h2];rfl);·rw[if_neg h2,if_neg h2];by_cases h3:r.kind=1;(·rw[if_pos h3,if_pos h3];rfl);·rw[if_neg h3,if_neg h3];(have hb:v.begun s=M:=by unfold QD at h2;rw[if_neg h3]at h2;cases hw:v.waits s<;>cases hv:v.begun s<;>simp[hw,hv]at h2⊢);by_cases h4:r.kind=7;(·rw[if_pos h4,if_pos h4];rfl);·rw[if_neg h4,if_neg h4];show V4 (if Zl (v.synced:Int) (v.txns s).start=N then _ else _)=if Zl (v.synced:Int) (v.txns s).start=N then _ else _;by_cases h5:Zl (v.synced:Int) (v.txns s).start=N;(·rw[if_pos h5,if_pos h5];rfl);·rw[if_neg h5,if_neg h5];by_cases h6:r.kind=6;(·rw[if_pos h6,if_pos h6];exact Ci hD h hb);·rw[if_neg h6,if_neg h6];exact Hm v s r
theorem cN(hD:∀x,(D x).length=4)(h:Zd D v){a:Ac}(ha:a.kind≠3):V4 (Vt D v a)=Er (V4 v) a:=by
 unfold Vt Er;by_cases h1:a.kind=1;·rw[if_pos h1,if_pos h1];unfold Xl dM;show V4 (if v.up=N then _ else _)=if v.up=N then _ else _;split;(·rfl);·split;(·exact bB hD h _ _);·rfl
 ·rw[if_neg h1,if_neg h1];by_cases h2:a.kind=2;(·rw[if_pos h2,if_pos h2];show V4 (if v.up=M then _ else _)=if v.up=M then _ else _;split<;>rfl);·rw[if_neg h2,if_neg h2,if_neg ha];rfl
theorem E9(hD:∀x,(D x).length=4):∀(l:List Ac)(v:Sv),Zd D v->(∀a∈l,JG a∧a.kind≠3)->V4 (l.foldl (Vt D) v)=l.foldl Er (V4 v)|[],_,_,_=>rfl|a::l,v,h,ha=>by have h1:=ha a sO;rw[pX,pX,E9 hD l _ (h.act hD h1.1) (fun x hx=>ha x (tY _ hx)),cN hD h h1.2]
theorem aS(hD:∀x,(D x).length=4)(l:List Ac)(h:∀a∈l,JG a∧a.kind≠3):vN (Vh D l)=vN (Cs l):=by
 rw[<-cP,Vh,E9 hD l AY (Tu D) h];rfl
end
def XU(r:Rq):Nat->List UInt8|0=>[sX r.kind.toNat]|1=>[sX r.kind.toNat]++Xo (QT r.kind 0) r.name|2=>[sX r.kind.toNat]++Xo (QT r.kind 0) r.name++Xo (QT r.kind 1) r.key|3=>[sX r.kind.toNat]++Xo (QT r.kind 0) r.name++Xo (QT r.kind 1) r.key++Xo (QT r.kind 2) r.last|_=>[sX r.kind.toNat]++Xo (QT r.kind 0) r.name++Xo (QT r.kind 1) r.key++Xo (QT r.kind 2) r.last++Xo (QT r.kind 3) r.value
theorem WM(r:Rq):XU r 4=Jn r:=by
 show[sX r.kind.toNat]++Xo (Q4 r.kind) r.name++Xo (Q4 r.kind) r.key++Xo (tP (r.kind=3)) r.last++Xo (tP (r.kind=4)) r.value=_;rw[Jn,zM];simp[List.append_assoc]
theorem Hu{r:Rq}(h:XY r)(m:Nat):(XU r m).length<=200:=by
 have k1:r.name.length<=8:=by by_cases e:Q4 r.kind=M;(·exact(h.name e).2);·rw[h.noName (by simpa using e)];simp
 have k2:r.key.length<=16:=by by_cases e:Q4 r.kind=M;(·exact(h.key e).2);·rw[h.noKey (by simpa using e)];simp
 have k3:r.last.length<=16:=by by_cases e:r.kind=3;(·exact(h.last e).2);·rw[h.noLast e];simp
 have k4:=h.value;have l1:=KU (QT r.kind 0) r.name;have l2:=KU (QT r.kind 1) r.key;have l3:=KU (QT r.kind 2) r.last;have l4:=KU (QT r.kind 3) r.value;match m with|0=>simp[XU]|1=>simp only[XU,tB,sA];omega|2=>simp only[XU,tB,sA];omega|3=>simp only[XU,tB,sA];omega|m+4=>simp only[XU,tB,sA];omega
end Go.Proofs.YtjnapechlkbfmaaGreatDoor
