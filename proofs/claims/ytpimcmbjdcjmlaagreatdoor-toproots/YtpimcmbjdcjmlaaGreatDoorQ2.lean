/-
  Texts of this proof, joined, with few blanks: AcM0, PairM0, PairB, WrMem, CmtMem, TapeA, TapeB, TapeK, HistF, HistC, TxnF, TxnG, SrvF, SrvI, SrvO, TopF, TenMem, CmtSet, RdMem, StepMem, SvK, SvG, CmtTy, CmtRow, CmtRowD, TxNote, TxM, TxnL, TxCheck, TCCheck, PairStepQ, PairSlice, FCCheck, FCApply, TxMs, RqRd, WrCkF, TxLook, FindM, SrvS, SrvL, SrvM, SrvN, TxClash, TpEnc, TpCheck, BSlice, CmtFit, TxScan, TCRange, FCRange, BitC, PartC, TxWrite, RqWt, HsKept, RqDe, TapeH, WrDtF, SrvW, WrEnF, RdrF, RdrMem, FrameB, GearM, IntsM, FrameI, TpSync, TpCrash, TapTy, LnCk, LineH.
-/
import Derived.Deep.AppendLies
import Derived.Test.YtpimcmbjdcjmlaaGreatDoorQ1
import Derived.Maps.AppendAt
import Derived.Deep.RegionWith
import Derived.Handy
import Derived.ProofKit
import Derived.OpenShut
import Derived.ShutString
import Derived.ChangeOld
import Derived.Deep.DeepHandedRow
import Derived.SizedLaws
import Derived.Test.YtpimcmbjdcjmlaaGreatDoorRows
set_option maxRecDepth 100000
set_option maxHeartbeats 8000000
open Array renaming getElem?_eq_some_iff->tI,getElem?_modify->tV,getElem?_toList->rY
open Bool renaming true->M,false->N,and_eq_true->rI,or_eq_false_iff->rN
open Classical renaming byContradiction->sQ
open Decidable renaming decide->tP
open Go renaming World->F,Value->H,TypeId->tX,undef->sJ,sliced->sP,Calls->sW,Addr->sX,Operand->rH,Oper->rM,info_parts->r7,maxLen->r8,yielded->pA,heap_alloc_new->oF
open Go.Addr.mk renaming injEq->rG
open Go.Ending renaming returned->tE
open Go.Instr renaming slice->rT
open Go.IntKind renaming i64->tC,u8->pJ
open Go.Obj renaming cells->S
open Go.Obj.cells renaming injEq->tW
open Go.Proofs.Tryz renaming prog->O
open Go.Region renaming wanted->sF
open Go.Result renaming andThen->rF
open Go.Value renaming slice->J,int->Y,bool->tL,tuple->sH,agg->sR,ownBlock->pF
open Go.Value.slice renaming injEq->tG
open Go.World renaming grownBy->L,setCell->tD,cell?->tS,cell?_of_block->sK,ownsRow_nil->sL,grownBy_alloc->sV,news_of_block->rB,frozen?->rV,cell?_setCell_same'->pG
open Go.World.ownsRow renaming kept->tU,lt->sG
open Int renaming toNat_natCast->sZ,emod_lt_of_pos->pO,emod_nonneg->oC
open List renaming length_append->tB,eq_nil_of_length_eq_zero->tJ,mem_cons->tK,flatMap_cons->tM,not_mem_nil->tQ,mem_cons_of_mem->tY,mem_append->sA,length_singleton->sB,getElem?_take->sC,length_cons->sD,take_length->sE,getElem?_eq_some_iff->sI,getElem_mem->sN,mem_cons_self->sO,drop_eq_getElem_cons->sS,take_succ_eq_append_getElem->sU,any_eq_true->rA,take_succ_cons->rC,pairwise_cons->rD,flatMap_nil->rJ,append_nil->rO,length_set->rP,length_pos_iff->rS,length_take->rW,any_cons->pC,take_set->pD,getElem?_append_left->pH,take_append_drop->pI,getElem?_append->pK,drop_succ_cons->pL,set_cons_succ->pM,nodup_append->pN,cons_append->pP,length_drop->pQ,length_nil->pT,nil_append->pU,nodup_cons->pV,mem_filter->pW,foldl_cons->pX,take_take->pY,drop_zero->oD
open Nat renaming lt_of_lt_of_le->tH,le_trans->tN,zero_le->tR,le_refl->tZ,zero_add->sM,succ_mul->rX,mul_le_mul_right->pB,sub_zero->pE,le_of_lt_succ->pR,min_eq_left->pZ,sub_self->oE
open Option renaming none->G,some->I,map_some->rK
open Option.some renaming injEq->tA,inj->oG
open Prod.mk renaming injEq->rU
open UInt8 renaming ofNat->sY,toNat_inj->pS
namespace Go.Proofs.YtpimcmbjdcjmlaaGreatDoor
open Go.RowKit
def Wp(w:F)(v:H)(a:Ac):Prop:=∃vd,v=sR #[Y tC a.kind,Y tC a.sess,Y tC a.keep,vd]∧Qe w vd a.data
theorem Wp.grown{w w':F}{v:H}{a:Ac}(h:Wp w v a)(hg:L w w' G):Wp w' v a:=by
 obtain⟨vd,rfl,h1⟩:=h;exact⟨vd,rfl,h1.grown hg⟩
theorem Wp.agg{w:F}{v:H}{a:Ac}(h:Wp w v a):∃da dc,v=sR #[Y tC a.kind,Y tC a.sess,Y tC a.keep,J da a.data.length dc]∧Qe w (J da a.data.length dc) a.data:=by
 obtain⟨vd,rfl,h1⟩:=h;obtain⟨da,dc,rfl⟩:=h1.shape;exact⟨da,dc,rfl,h1⟩
def Be(w:F)(b o:Nat)(a:Ac):Prop:=∃vd,w.cell? ⟨b,o,G⟩=I (Y tC a.kind)∧w.cell? ⟨b,o+1,G⟩=I (Y tC a.sess)∧w.cell? ⟨b,o+2,G⟩=I (Y tC a.keep)∧w.cell? ⟨b,o+3,G⟩=I vd∧Qe w vd a.data
theorem Be.grown{w w':F}{b o:Nat}{a:Ac}(h:Be w b o a)(hg:L w w' G):Be w' b o a:=by
 obtain⟨vd,c1,c2,c3,c4,h1⟩:=h;exact⟨vd,hg.cell c1 (by simp),hg.cell c2 (by simp),hg.cell c3 (by simp),hg.cell c4 (by simp),h1.grown hg⟩
def Y8(w:F)(v:H)(l:List Ac):Prop:=∃a cap,v=J a l.length cap∧l.length<=cap∧((l=[]∧(a=G->cap=0))∨∃b o,a=I ⟨b,o,G⟩∧∀i,i<l.length->Be w b (o+i*4) (l.getD i UN))
theorem R6(w:F):Y8 w (J G 0 0) []:=⟨G,0,rfl,tZ _,.inl ⟨rfl,fun _=>rfl⟩⟩
theorem Y8.shape{w:F}{v:H}{l:List Ac}(h:Y8 w v l):∃a cap,v=J a l.length cap:=by
 obtain⟨a,cap,rfl,_⟩:=h;exact⟨a,cap,rfl⟩
theorem Y8.grown{w w':F}{v:H}{l:List Ac}(h:Y8 w v l)(hg:L w w' G):Y8 w' v l:=by
 obtain⟨a,cap,rfl,hc,h⟩:=h;refine⟨a,cap,rfl,hc,?_⟩;rcases h with h|⟨b,o,rfl,h⟩;·exact .inl h
 ·exact .inr ⟨b,o,rfl,fun i hi=>(h i hi).grown hg⟩
theorem Y8.at{w:F}{a:Option sX}{n cap:Nat}{l:List Ac}(h:Y8 w (J a n cap) l)(i:Nat)(hi:i<l.length):∃b o,a=I ⟨b,o,G⟩∧Be w b (o+i*4) (l.getD i UN):=by
 obtain⟨a',cap',e,hc,h⟩:=h;simp only[tG]at e;obtain⟨rfl,rfl,rfl⟩:=e;rcases h with⟨rfl,_⟩|⟨b,o,rfl,h⟩;·simp at hi
 ·exact⟨b,o,rfl,h i hi⟩
structure Si(a:Ac):Prop where kind:-9223372036854775808<=a.kind∧a.kind<=9223372036854775807sess:-9223372036854775808<=a.sess∧a.sess<=9223372036854775807keep:-9223372036854775808<=a.keep∧a.keep<=9223372036854775807data:a.data.length<=140737488355328
structure Rr (l : List Ac) : Prop where
  many : l.length * 48 <= 140737488355328
  each : ∀ i, i < l.length -> Si (l.getD i UN)
theorem LZ{a:Ac}(h:JM a):Si a:=by
 have h0:=h.kind;have h1:=h.data;have h2:0<=a.sess∧a.sess<=7:=by by_cases e:a.kind=1;(·exact h.sess e);·rw[h.noSess e];omega
 have h3:0<=a.keep∧a.keep<=200000:=by by_cases e:a.kind=3;(·exact h.keep e);·rw[h.noKeep e];omega
 exact⟨by omega,by omega,by omega,by omega⟩
abbrev AV:=Ac×H
def Sw:AV:=(UN,sJ)
def Jk(us:List AV):List H:=us.flatMap fun x=>[Y tC x.1.kind,Y tC x.1.sess,Y tC x.1.keep,x.2]
theorem jA(us:List AV):(Jk us).length=us.length*4:=by
 induction us with|nil=>rfl|cons x us ih=>rw[Jk,tM,tB,<-Jk,ih,sD];simp;omega
theorem M2(a b:List AV):Jk (a++b)=Jk a++Jk b:=by
 simp[Jk]
theorem Mb:∀(us:List AV)(i:Nat),i<us.length->(Jk us)[i*4]?=I (Y tC (us.getD i Sw).1.kind)∧(Jk us)[i*4+1]?=I (Y tC (us.getD i Sw).1.sess)∧(Jk us)[i*4+2]?=I (Y tC (us.getD i Sw).1.keep)∧(Jk us)[i*4+3]?=I (us.getD i Sw).2|[],i,h=>by simp at h|x::us,0,_=>⟨rfl,rfl,rfl,rfl⟩|x::us,i+1,h=>by have:=Mb us i (by simpa using h);rw[show(i+1)*4=i*4+4by omega];exact this
theorem mE:(42:Nat)≠5:=by
 decide
def UL(rb:Nat)(w:F)(v:H)(l:List Ac):Prop:=∃us:List AV,us.map (·.1)=l∧w.ownsRow rb 42 4 v l.length (Jk us)∧∀x∈us,Qf 0 w x.2 x.1.data
theorem OD(rb:Nat)(w:F):UL rb w (J G 0 0) []:=⟨[],rfl,sL _ _ _ _,fun x hx=>by
 simp at hx⟩
theorem UL.row{rb:Nat}{w:F}{v:H}{l:List Ac}(h:UL rb w v l):v.ownBlock=G∨∃g cur fz,v.ownBlock=I g∧rb<=g∧w.heap[g]?=I (S cur 42 fz):=by
 obtain⟨us,_,h,_⟩:=h;rcases h.2with⟨rfl,_⟩|⟨g,cap,cur,rfl,hb,hg,_⟩;·exact .inl rfl
 ·exact .inr ⟨g,cur,_,rfl,hb,hg⟩
theorem UL.lt{rb:Nat}{w:F}{v:H}{l:List Ac}(h:UL rb w v l):∀k,v.ownBlock=I k->rb<=k∧k<w.heap.size:=by
 obtain⟨us,_,h,_⟩:=h;exact sG h
theorem UL.grownNone{rb:Nat}{w w':F}{v:H}{l:List Ac}(h:UL rb w v l)(hg:L w w' G):UL rb w' v l:=by
 obtain⟨us,h1,h2,h3⟩:=h;refine⟨us,h1,tU h2 hg ?_,fun x hx=>(h3 x hx).keptT hg (.inl rfl)⟩;cases hv:v.ownBlock with|none=>exact .inl rfl|some k=>exact .inr (by simp)
theorem UL.shape{rb:Nat}{w:F}{v:H}{l:List Ac}(h:UL rb w v l):∃a cap,v=J a l.length cap:=by
 obtain⟨us,_,h,_⟩:=h;rcases h.2with⟨rfl,h0⟩|⟨g,cap,cur,rfl,_⟩;·exact⟨G,0,by rw[h0]⟩
 ·exact⟨_,cap,rfl⟩
theorem WC{us:List AV}{l:List Ac}(h:us.map (·.1)=l)(i:Nat)(hi:i<l.length):(us.getD i Sw).1=l.getD i UN∧us.getD i Sw∈us:=by
 subst h;have hi':i<us.length:=by simpa using hi
 refine⟨by simp[hi'],?_⟩;rw[show us.getD i Sw=us[i]by simp[hi']];exact sN hi'
theorem UL.list{rb:Nat}{w:F}{v:H}{l:List Ac}(h:UL rb w v l):Y8 w v l:=by
 obtain⟨us,hl,hr,h3⟩:=h;rcases hr.2with⟨rfl,h0⟩|⟨g,cap,cur,rfl,hb,hg,hn,hm,hs,ht⟩;·have:l=[]:=tJ h0;rw[this];exact R6 w
 ·(have hcell:∀j u,(Jk us)[j]?=I u->w.cell? ⟨g,j,G⟩=I u:=by intro j u hj;(have hlt:j<l.length*4:=by have:=(sI.1 hj).1;rw[hr.1]at this;exact this);(have e2:(cur.toList.take (l.length*4))[j]?=(Jk us)[j]?:=by rw[ht]);rw[sC,if_pos hlt,hj]at e2;simp[tS,hg];simpa using e2);refine⟨_,cap,rfl,hn,.inr ⟨g,0,rfl,fun i hi=>?_⟩⟩;obtain⟨e1,e2⟩:=WC hl i hi;(have hlen:us.length=l.length:=by rw[<-hl];simp);obtain⟨c1,c2,c3,c4⟩:=Mb us i (by omega);have hp:=h3 _ e2;rw[e1]at c1 c2 c3 hp;rw[sM];exact⟨_,hcell _ _ c1,hcell _ _ c2,hcell _ _ c3,hcell _ _ c4,hp.1⟩
theorem BP{rb:Nat}{w W w1:F}{v:H}{l:List Ac}(h:L w W G)(ho:UL rb W v l)(hb:w.heap.size<=rb)(hg:L W w1 v.ownBlock):L w w1 G:=⟨hg.os.trans h.os,hg.tape.trans h.tape,hg.output.trans h.output,tN h.size hg.size,fun i hi hn=>(hg.block i (tH hi h.size) (fun e=>by
 have:=(ho.lt i e.symm).1;omega)).trans (h.block i hi hn)⟩
theorem M9:(O.info? 42).map (fun i=>(i.zero,i.size,i.bytes))=I (I (sR #[Y tC 0,Y tC 0,Y tC 0,J G 0 0]),4,48):=by
 kernel_rfl
def M3(w:F)(v:H)(p:Pr):Prop:=∃vk vv,v=sR #[vk,vv]∧Qe w vk p.1∧Qe w vv p.2
theorem M3.grown{w w':F}{v:H}{p:Pr}(h:M3 w v p)(hg:L w w' G):M3 w' v p:=by
 obtain⟨vk,vv,rfl,h1,h2⟩:=h;exact⟨vk,vv,rfl,h1.grown hg,h2.grown hg⟩
def PY(w:F)(b o:Nat)(p:Pr):Prop:=∃vk vv,w.cell? ⟨b,o,G⟩=I vk∧w.cell? ⟨b,o+1,G⟩=I vv∧Qe w vk p.1∧Qe w vv p.2
theorem PY.grown{w w':F}{b o:Nat}{p:Pr}(h:PY w b o p)(hg:L w w' G):PY w' b o p:=by
 obtain⟨vk,vv,c1,c2,h1,h2⟩:=h;exact⟨vk,vv,hg.cell c1 (by simp),hg.cell c2 (by simp),h1.grown hg,h2.grown hg⟩
def Qp(w:F)(v:H)(l:PL):Prop:=∃a cap,v=J a l.length cap∧l.length<=cap∧((l=[]∧(a=G->cap=0))∨∃b o,a=I ⟨b,o,G⟩∧∀i,i<l.length->PY w b (o+i*2) (l.getD i ([],[])))
theorem Yj(w:F):Qp w (J G 0 0) []:=⟨G,0,rfl,tZ _,.inl ⟨rfl,fun _=>rfl⟩⟩
theorem Qp.grown{w w':F}{v:H}{l:PL}(h:Qp w v l)(hg:L w w' G):Qp w' v l:=by
 obtain⟨a,cap,rfl,hc,h⟩:=h;refine⟨a,cap,rfl,hc,?_⟩;rcases h with h|⟨b,o,rfl,h⟩;·exact .inl h
 ·exact .inr ⟨b,o,rfl,fun i hi=>(h i hi).grown hg⟩
theorem Qp.shape{w:F}{v:H}{l:PL}(h:Qp w v l):∃a cap,v=J a l.length cap:=by
 obtain⟨a,cap,rfl,_⟩:=h;exact⟨a,cap,rfl⟩
theorem Qp.at{w:F}{a:Option sX}{n cap:Nat}{l:PL}(h:Qp w (J a n cap) l)(i:Nat)(hi:i<l.length):∃b o,a=I ⟨b,o,G⟩∧PY w b (o+i*2) (l.getD i ([],[])):=by
 obtain⟨a',cap',e,hc,h⟩:=h;simp only[tG]at e;obtain⟨rfl,rfl,rfl⟩:=e;rcases h with⟨rfl,_⟩|⟨b,o,rfl,h⟩;·simp at hi
 ·exact⟨b,o,rfl,h i hi⟩
theorem Qf.kept{base:Nat}{w w':F}{v:H}{bs:List UInt8}(h:Qf base w v bs){row:Option Nat}(hg:L w w' row)(hrow:row=G∨∃g cur fz,row=I g∧base<=g∧w.heap[g]?=I (S cur 35 fz)):Qf base w' v bs:=by
 obtain⟨hs,ho⟩:=h;rcases ho with rfl|⟨b,hb,hlt,hc⟩;·obtain⟨a,cap,rfl,hc,h⟩:=hs;refine⟨⟨a,cap,rfl,hc,?_⟩,.inl rfl⟩;rcases h with h|⟨b,o,rfl,h⟩;(·exact .inl h);·exact .inr ⟨b,o,rfl,fun i hi=>by simp at hi⟩
 ·(have hne:I b≠row:=by intro e;rcases hrow with rfl|⟨g,cur,fz,rfl,hbg,hgc⟩;(·cases e);·cases e;rcases hc with hc|⟨cur2,fz2,hc⟩;(·omega);·rw[hc]at hgc;simp at hgc);have hblk:=hg.block b hlt hne;refine⟨?_,.inr ⟨b,hb,tH hlt hg.size,?_⟩⟩;(·obtain⟨a,cap,rfl,hcp,h⟩:=hs;refine⟨a,cap,rfl,hcp,?_⟩;rcases h with h|⟨b',o,rfl,h⟩;(·exact .inl h);·refine .inr ⟨b',o,rfl,fun i hi=>?_⟩;simp[pF]at hb;subst hb;exact hg.cell (h i hi) (by simpa using hne));·rcases hc with hc|⟨cur,fz,hc⟩;(·exact .inl hc);·exact .inr ⟨cur,fz,by rw[hblk];exact hc⟩
def flat(vs:List (H×H)):List H:=vs.flatMap fun x=>[x.1,x.2]
theorem Ku(vs:List (H×H)):(flat vs).length=vs.length*2:=by
 induction vs with|nil=>rfl|cons x r ih=>simp only[flat,tM,tB,sD,pT]at ih⊢;omega
theorem JU(a b:List (H×H)):flat (a++b)=flat a++flat b:=by
 simp[flat]
theorem xU:∀(vs:List (H×H))(i:Nat),i<vs.length->(flat vs)[i*2]?=I (vs.getD i (sJ,sJ)).1∧(flat vs)[i*2+1]?=I (vs.getD i (sJ,sJ)).2|[],i,h=>by simp at h|x::r,0,_=>by simp[flat]|x::r,i+1,h=>by have:=xU r i (by simpa using h);rw[show(i+1)*2=i*2+2by omega,show i*2+2+1=(i*2+1)+2by omega];simpa[flat]using this
def Gy(base:Nat)(w:F)(v:H)(l:PL):Prop:=∃vs:List (H×H),vs.length=l.length∧w.ownsRow base 35 2 v l.length (flat vs)∧∀i,i<l.length->Qf base w (vs.getD i (sJ,sJ)).1 (l.getD i ([],[])).1∧Qf base w (vs.getD i (sJ,sJ)).2 (l.getD i ([],[])).2
theorem Gy.row{base:Nat}{w:F}{v:H}{l:PL}(h:Gy base w v l):v.ownBlock=G∨∃g cur fz,v.ownBlock=I g∧base<=g∧w.heap[g]?=I (S cur 35 fz):=by
 obtain⟨vs,_,h,_⟩:=h;rcases h.2with⟨rfl,_⟩|⟨g,cap,cur,rfl,hb,hg,_⟩;·exact .inl rfl
 ·exact .inr ⟨g,cur,_,rfl,hb,hg⟩
theorem Gy.lt{base:Nat}{w:F}{v:H}{l:PL}(h:Gy base w v l):∀k,v.ownBlock=I k->base<=k∧k<w.heap.size:=by
 obtain⟨vs,_,h,_⟩:=h;exact sG h
theorem Gy.grownNone{base:Nat}{w w':F}{v:H}{l:PL}(h:Gy base w v l)(hg:L w w' G):Gy base w' v l:=by
 obtain⟨vs,h1,h2,h3⟩:=h;refine⟨vs,h1,tU h2 hg ?_,fun i hi=>⟨((h3 i hi).1).kept hg (.inl rfl),((h3 i hi).2).kept hg (.inl rfl)⟩⟩;cases hv:v.ownBlock with|none=>exact .inl rfl|some k=>exact .inr (by simp)
theorem Gy.alloc{base:Nat}{w:F}{v:H}{l:PL}(h:Gy base w v l)(o:Obj):Gy base (w.alloc o) v l:=h.grownNone (sV _ _ _)
theorem Gy.shape{base:Nat}{w:F}{v:H}{l:PL}(h:Gy base w v l):∃a cap,v=J a l.length cap:=by
 obtain⟨vs,_,h,_⟩:=h;rcases h.2with⟨rfl,h0⟩|⟨g,cap,cur,rfl,_⟩;·exact⟨G,0,by rw[h0]⟩
 ·exact⟨_,cap,rfl⟩
theorem gN{base:Nat}{w W w1:F}{v:H}{l:PL}(h:L w W G)(ho:Gy base W v l)(hb:w.heap.size<=base)(hg:L W w1 v.ownBlock):L w w1 G:=⟨hg.os.trans h.os,hg.tape.trans h.tape,hg.output.trans h.output,tN h.size hg.size,fun i hi hn=>(hg.block i (tH hi h.size) (fun e=>by
 have:=(ho.lt i e.symm).1;omega)).trans (h.block i hi hn)⟩
theorem CD:(O.info? 35).map (fun i=>(i.zero,i.size,i.bytes))=I (I (sR #[J G 0 0,J G 0 0]),2,48):=by
 kernel_rfl
theorem Jh{α:Type}(a b:List α)(i:Nat)(d:α):(a++b).getD i d=if i<a.length then a.getD i d else b.getD (i-a.length) d:=by
 by_cases h:i<a.length;·rw[if_pos h];simp[pK,h]
 ·rw[if_neg h];simp[pK,h]
theorem jL(vs:List (H×H))(k:Nat):flat (vs.take k)=(flat vs).take (k*2):=by
 induction vs generalizing k with|nil=>simp[flat]|cons x r ih=>cases k with|zero=>simp[flat]|succ k=>rw[rC,show(k+1)*2=k*2+2by omega];have:=ih k;simp only[flat,tM,pP,pU,rC]at this⊢;rw[this]
theorem EZ(vs:List (H×H))(k:Nat):flat (vs.drop k)=(flat vs).drop (k*2):=by
 induction vs generalizing k with|nil=>simp[flat]|cons x r ih=>cases k with|zero=>simp[flat]|succ k=>rw[pL,show(k+1)*2=k*2+2by omega];have:=ih k;simp only[flat,tM,pP,pU,pL]at this⊢;rw[this]
theorem Gy.cells{base:Nat}{w:F}{g n cap:Nat}{vs:List (H×H)}{l:PL}(hr:w.ownsRow base 35 2 (J (I ⟨g,0,G⟩) n cap) l.length (flat vs)):∀j u,(flat vs)[j]?=I u->w.cell? ⟨g,j,G⟩=I u:=by
 intro j u hj;rcases hr.2with⟨e,_⟩|⟨g',cap',cur,e,hb,hg,hn,hm,hs,ht⟩;·cases e
 ·simp only[tG,tA,rG]at e;obtain⟨⟨rfl,_⟩,_,_⟩:=e;(have hlt:j<l.length*2:=by have:=(sI.1 hj).1;rw[hr.1]at this;exact this);(have e2:(cur.toList.take (l.length*2))[j]?=(flat vs)[j]?:=by rw[ht]);rw[sC,if_pos hlt,hj]at e2;simp[tS,hg];simpa using e2
theorem Q7.setOther{base:Nat}{w:F}{v:H}{bs:List UInt8}(h:Q7 base w v bs)(c i:Nat)(x:H)(hc:c<base):Q7 base (tD w ⟨c,i,G⟩ x) v bs:=by
 refine h.grown (row:=I c) (Qg (Qb _ _) i x) ?_;cases hv:v.ownBlock with|none=>exact .inl rfl|some k=>have:=(h.lt k hv).1;exact .inr (by simp;omega)
theorem U5{W w:F}{b:Nat}{x y:H}{t:tX}(hg:L W w G)(h:W.heap[b]?=I (S #[x,y] t))(u v:H):(tD w ⟨b,0,G⟩ u).cell? ⟨b,0,G⟩=I u∧((tD w ⟨b,0,G⟩ u).setCell ⟨b,1,G⟩ v).cell? ⟨b,1,G⟩=I v:=by
 have hb:w.heap[b]?=I (S #[x,y] t):=by rw[hg.block b (tI.1 h).1 (by simp)];exact h
 have c0:w.cell? ⟨b,0,G⟩=I x:=by simp[tS,hb]
 have c1:w.cell? ⟨b,1,G⟩=I y:=by simp[tS,hb]
 refine⟨pG _ _ _ (by rw[c0];rfl),pG _ _ _ ?_⟩;rw[World.cell?_setCell_other _ _ _ _ (by simp),c1];rfl
theorem Gp{base:Nat}{W:F}{pb:Nat}{x y:H}(h:W.heap[pb]?=I (S #[x,y] 35))(hb:base<=pb)(u v:H):((tD W ⟨pb,0,G⟩ u).setCell ⟨pb,1,G⟩ v).heap[pb]?=I (S #[u,v] 35)∧(∀z bs,Qf base W z bs->Qf base ((tD W ⟨pb,0,G⟩ u).setCell ⟨pb,1,G⟩ v) z bs)∧∀w0:F,w0.heap.size<=pb->L w0 W G->L w0 ((tD W ⟨pb,0,G⟩ u).setCell ⟨pb,1,G⟩ v) G:=by
 refine⟨?_,fun z bs hz=>?_,fun w0 h0 hg=>Qc (Qc hg _ h0 _ _) _ h0 _ _⟩;·simp only[tD,tV,if_true,h,rK];first|rfl|simp
 ·exact hz.kept (Qg (Qg (Qb _ _) _ _) _ _) (.inr ⟨pb,_,_,rfl,hb,h⟩)
def Kl(rb pb:Nat)(w:F)(v:H)(l:PL):Prop:=∃vs:List (H×H),vs.length=l.length∧w.ownsRow rb 35 2 v l.length (flat vs)∧∀i,i<l.length->Qf pb w (vs.getD i (sJ,sJ)).1 (l.getD i ([],[])).1∧Qf pb w (vs.getD i (sJ,sJ)).2 (l.getD i ([],[])).2
theorem Bz(rb pb:Nat)(w:F):Kl rb pb w (J G 0 0) []:=⟨[],rfl,sL _ _ _ _,fun i hi=>by
 simp at hi⟩
theorem Kl.p{rb pb:Nat}{w:F}{v:H}{l:PL}(h:Kl rb pb w v l)(hb:pb<=rb):Gy pb w v l:=by
 obtain⟨vs,h1,h2,h3⟩:=h;refine⟨vs,h1,⟨h2.1,?_⟩,h3⟩;rcases h2.2with h|⟨g,cap,cur,h1,h2,h3⟩;·exact .inl h
 ·exact .inr ⟨g,cap,cur,h1,tN hb h2,h3⟩
theorem Kl.row{rb base:Nat}{w:F}{v:H}{l:PL}(h:Kl rb base w v l)(hb:base<=rb):v.ownBlock=G∨∃g cur fz,v.ownBlock=I g∧base<=g∧w.heap[g]?=I (S cur 35 fz):=(h.p hb).row
theorem Kl.lt{rb pb:Nat}{w:F}{v:H}{l:PL}(h:Kl rb pb w v l):∀k,v.ownBlock=I k->rb<=k∧k<w.heap.size:=by
 obtain⟨vs,_,h,_⟩:=h;exact sG h
theorem Kl.grownNone{rb pb:Nat}{w w':F}{v:H}{l:PL}(h:Kl rb pb w v l)(hg:L w w' G):Kl rb pb w' v l:=by
 obtain⟨vs,h1,h2,h3⟩:=h;refine⟨vs,h1,tU h2 hg ?_,fun i hi=>⟨((h3 i hi).1).kept hg (.inl rfl),((h3 i hi).2).kept hg (.inl rfl)⟩⟩;cases hv:v.ownBlock with|none=>exact .inl rfl|some k=>exact .inr (by simp)
theorem Kl.alloc{rb pb:Nat}{w:F}{v:H}{l:PL}(h:Kl rb pb w v l)(o:Obj):Kl rb pb (w.alloc o) v l:=h.grownNone (sV _ _ _)
theorem Kl.shape{rb pb:Nat}{w:F}{v:H}{l:PL}(h:Kl rb pb w v l):∃a cap,v=J a l.length cap:=by
 obtain⟨vs,_,h,_⟩:=h;rcases h.2with⟨rfl,h0⟩|⟨g,cap,cur,rfl,_⟩;·exact⟨G,0,by rw[h0]⟩
 ·exact⟨_,cap,rfl⟩
theorem Rm{rb pb:Nat}{w W w1:F}{v:H}{l:PL}(h:L w W G)(ho:Kl rb pb W v l)(hb:w.heap.size<=rb)(hg:L W w1 v.ownBlock):L w w1 G:=⟨hg.os.trans h.os,hg.tape.trans h.tape,hg.output.trans h.output,tN h.size hg.size,fun i hi hn=>(hg.block i (tH hi h.size) (fun e=>by
 have:=(ho.lt i e.symm).1;omega)).trans (h.block i hi hn)⟩
def i5(base:Nat)(w:F)(b o:Nat)(p:Pr):Prop:=∃vk vv,w.cell? ⟨b,o,G⟩=I vk∧w.cell? ⟨b,o+1,G⟩=I vv∧Qf base w vk p.1∧Qf base w vv p.2
def QK(base:Nat)(w:F)(v:H)(l:PL):Prop:=∃a cap,v=J a l.length cap∧l.length<=cap∧((l=[]∧(a=G->cap=0))∨∃b o,a=I ⟨b,o,G⟩∧(b<base∨∃cur fz,w.heap[b]?=I (S cur 35 fz))∧∀i,i<l.length->i5 base w b (o+i*2) (l.getD i ([],[])))
theorem QK.list{base:Nat}{w:F}{v:H}{l:PL}(h:QK base w v l):Qp w v l:=by
 obtain⟨a,cap,rfl,hc,h⟩:=h;refine⟨a,cap,rfl,hc,?_⟩;rcases h with h|⟨b,o,rfl,_,h⟩;·exact .inl h
 ·refine .inr ⟨b,o,rfl,fun i hi=>?_⟩;obtain⟨vk,vv,c1,c2,h1,h2⟩:=h i hi;exact⟨vk,vv,c1,c2,h1.1,h2.1⟩
theorem Qp.pairsB{w w':F}{v:H}{l:PL}(h:Qp w v l)(hg:L w w' G)(base:Nat)(hb:w.heap.size<=base):QK base w' v l:=by
 obtain⟨a,cap,rfl,hc,h⟩:=h;refine⟨a,cap,rfl,hc,?_⟩;rcases h with h|⟨b,o,rfl,h⟩;·exact .inl h
 ·by_cases h0:l=[];(·exact .inl ⟨h0,fun e=>by cases e⟩);·have hl:0<l.length:=rS.2 h0;refine .inr ⟨b,o,rfl,.inl ?_,fun i hi=>?_⟩;(·obtain⟨vk,vv,c1,_⟩:=h 0 hl;exact tH (VB c1) hb);·obtain⟨vk,vv,c1,c2,h1,h2⟩:=h i hi;exact⟨vk,vv,hg.cell c1 (by simp),hg.cell c2 (by simp),h1.part hg base hb,h2.part hg base hb⟩
theorem Gy.pairsB{base:Nat}{w:F}{v:H}{l:PL}(h:Gy base w v l):QK base w v l:=by
 obtain⟨vs,hl,hr,h3⟩:=h;have hr':=hr;rcases hr.2with⟨rfl,h0⟩|⟨g,cap,cur,rfl,hb,hg,hn,hm,hs,ht⟩;·have:l=[]:=tJ h0;subst this;exact⟨G,0,rfl,tZ _,.inl ⟨rfl,fun _=>rfl⟩⟩
 ·refine⟨_,cap,rfl,hn,.inr ⟨g,0,rfl,.inr ⟨cur,_,hg⟩,fun i hi=>?_⟩⟩;have hf:=xU vs i (by omega);refine⟨(vs.getD i (sJ,sJ)).1,(vs.getD i (sJ,sJ)).2,?_,?_,(h3 i hi).1,(h3 i hi).2⟩;(·have:=Gy.cells hr' _ _ hf.1;rw[sM];exact this);·have:=Gy.cells hr' _ _ hf.2;rw[sM];exact this
theorem QK.kept{base:Nat}{w w':F}{v:H}{l:PL}(h:QK base w v l){row:Option Nat}(hg:L w w' row)(hrow:row=G∨∃g cur t fz,row=I g∧base<=g∧w.heap[g]?=I (S cur t fz)∧t≠5∧t≠35):QK base w' v l:=by
 obtain⟨a,cap,rfl,hc,h⟩:=h;refine⟨a,cap,rfl,hc,?_⟩;rcases h with h|⟨b,o,rfl,hb,h⟩;·exact .inl h
 ·by_cases h0:l=[];(·exact .inl ⟨h0,fun e=>by cases e⟩);·have hl:0<l.length:=rS.2 h0;(have hlt:b<w.heap.size:=by obtain⟨vk,vv,c1,_⟩:=h 0 hl;exact VB c1);(have hne:I b≠row:=by intro e;rcases hrow with rfl|⟨g,cur,t,fz,rfl,hbg,hgc,ht,ht2⟩;(·cases e);·cases e;rcases hb with hb|⟨cur2,fz2,hb⟩;(·omega);·rw[hb]at hgc;simp only[tA,tW]at hgc;exact ht2 hgc.2.1.symm);(have hrow':row=G∨∃g cur t fz,row=I g∧base<=g∧w.heap[g]?=I (S cur t fz)∧t≠5:=by rcases hrow with h|⟨g,cur,t,fz,h1,h2,h3,h4,_⟩;(·exact .inl h);·exact .inr ⟨g,cur,t,fz,h1,h2,h3,h4⟩);refine .inr ⟨b,o,rfl,?_,fun i hi=>?_⟩;(·rcases hb with hb|⟨cur,fz,hb⟩;(·exact .inl hb);·exact .inr ⟨cur,fz,by rw[hg.block b hlt hne];exact hb⟩);·obtain⟨vk,vv,c1,c2,h1,h2⟩:=h i hi;exact⟨vk,vv,hg.cell c1 (by simpa using hne),hg.cell c2 (by simpa using hne),h1.keptT hg hrow',h2.keptT hg hrow'⟩
theorem QK.grown{base:Nat}{w w':F}{v:H}{l:PL}(h:QK base w v l)(hg:L w w' G):QK base w' v l:=h.kept hg (.inl rfl)
theorem yM{base:Nat}{w:F}{v:H}{l:PL}(h:QK base w v l):v.oneCell'=M:=by
 obtain⟨a,cap,rfl,_⟩:=h;rfl
theorem Yx(base:Nat)(w:F):QK base w (J G 0 0) []:=⟨G,0,rfl,tZ _,.inl ⟨rfl,fun _=>rfl⟩⟩
theorem QK.shape{base:Nat}{w:F}{v:H}{l:PL}(h:QK base w v l):∃a cap,v=J a l.length cap:=by
 obtain⟨a,cap,rfl,_⟩:=h;exact⟨a,cap,rfl⟩
theorem QK.mono{base base':Nat}{w:F}{v:H}{l:PL}(h:QK base w v l)(hb:base<=base'):QK base' w v l:=by
 obtain⟨a,cap,rfl,hc,h⟩:=h;refine⟨a,cap,rfl,hc,?_⟩;rcases h with h|⟨b,o,rfl,h1,h2⟩;·exact .inl h
 ·refine .inr ⟨b,o,rfl,?_,fun i hi=>?_⟩;(·rcases h1 with h1|h1;(·exact .inl (by omega));·exact .inr h1);·obtain⟨vk,vv,c1,c2,p1,p2⟩:=h2 i hi;exact⟨vk,vv,c1,c2,p1.mono hb,p2.mono hb⟩
theorem Kl.pairsB{rb:Nat}{w:F}{v:H}{l:PL}(h:Kl rb 0 w v l):QK 0 w v l:=(h.p (tR _)).pairsB
theorem QK.up{w:F}{v:H}{l:PL}(h:QK 0 w v l)(base:Nat):QK base w v l:=h.mono (tR _)
abbrev WV:=Q9×H×H×H
def Ab:WV:=(Qo,sJ,sJ,sJ)
def Y0(us:List WV):List H:=us.flatMap fun x=>[x.2.1,x.2.2.1,tL x.1.gone,x.2.2.2]
theorem Wr(us:List WV):(Y0 us).length=us.length*4:=by
 induction us with|nil=>rfl|cons x r ih=>simp only[Y0,tM,tB,sD,pT]at ih⊢;omega
theorem uT(a b:List WV):Y0 (a++b)=Y0 a++Y0 b:=by
 simp[Y0]
theorem Mg:∀(us:List WV)(i:Nat),i<us.length->(Y0 us)[i*4]?=I (us.getD i Ab).2.1∧(Y0 us)[i*4+1]?=I (us.getD i Ab).2.2.1∧(Y0 us)[i*4+2]?=I (tL (us.getD i Ab).1.gone)∧(Y0 us)[i*4+3]?=I (us.getD i Ab).2.2.2|[],i,h=>by simp at h|x::r,0,_=>by simp[Y0]|x::r,i+1,h=>by have:=Mg r i (by simpa using h);rw[show(i+1)*4=i*4+4by omega,show i*4+4+1=(i*4+1)+4by omega,show i*4+4+2=(i*4+2)+4by omega,show i*4+4+3=(i*4+3)+4by omega];simpa[Y0]using this
theorem uG:(118:Nat)≠5:=by
 decide
theorem Wq{us:List WV}{l:List Q9}(h:us.map (·.1)=l)(i:Nat)(hi:i<l.length):(us.getD i Ab).1=l.getD i Qo∧us.getD i Ab∈us:=by
 subst h;have hi':i<us.length:=by simpa using hi
 refine⟨by simp[hi'],?_⟩;rw[show us.getD i Ab=us[i]by simp[hi']];exact sN hi'
theorem cP:(O.info? 118).map (fun i=>(i.zero,i.size,i.bytes))=I (I (sR #[J G 0 0,J G 0 0,tL N,J G 0 0]),4,80):=by
 kernel_rfl
theorem Ej(w:F)(vn vk vv:H)(p:Q9)(h1:Qe w vn p.name)(h2:Qe w vk p.key)(h3:Qe w vv p.value)(t:tX):QN (w.alloc (S #[vn,vk,tL p.gone,vv] t)) (J (I ⟨w.heap.size,0,G⟩) 1 1) [p]:=by
 refine⟨_,1,rfl,by simp,.inr ⟨w.heap.size,0,rfl,fun i hi=>?_⟩⟩;match i,hi with|0,_=>exact⟨vn,vk,vv,by simp,by simp,by simp,by simp,h1.alloc _,h2.alloc _,h3.alloc _⟩
def OR(base:Nat)(w:F)(b o:Nat)(p:Q9):Prop:=∃vn vk vv,w.cell? ⟨b,o,G⟩=I vn∧w.cell? ⟨b,o+1,G⟩=I vk∧w.cell? ⟨b,o+2,G⟩=I (tL p.gone)∧w.cell? ⟨b,o+3,G⟩=I vv∧Qf base w vn p.name∧Qf base w vk p.key∧Qf base w vv p.value
def Xr(base:Nat)(w:F)(v:H)(l:List Q9):Prop:=∃a cap,v=J a l.length cap∧l.length<=cap∧((l=[]∧(a=G->cap=0))∨∃b o,a=I ⟨b,o,G⟩∧(b<base∨∃cur fz,w.heap[b]?=I (S cur 118 fz))∧∀i,i<l.length->OR base w b (o+i*4) (l.getD i Qo))
theorem Cg(base:Nat)(w:F):Xr base w (J G 0 0) []:=⟨G,0,rfl,tZ _,.inl ⟨rfl,fun _=>rfl⟩⟩
theorem Xr.shape{base:Nat}{w:F}{v:H}{l:List Q9}(h:Xr base w v l):∃a cap,v=J a l.length cap:=by
 obtain⟨a,cap,rfl,_⟩:=h;exact⟨a,cap,rfl⟩
theorem Xr.oneCell{base:Nat}{w:F}{v:H}{l:List Q9}(h:Xr base w v l):v.oneCell'=M:=by
 obtain⟨a,cap,rfl,_⟩:=h;rfl
theorem Xr.list{base:Nat}{w:F}{v:H}{l:List Q9}(h:Xr base w v l):QN w v l:=by
 obtain⟨a,cap,rfl,hc,h⟩:=h;refine⟨a,cap,rfl,hc,?_⟩;rcases h with h|⟨b,o,rfl,_,h⟩;·exact .inl h
 ·refine .inr ⟨b,o,rfl,fun i hi=>?_⟩;obtain⟨vn,vk,vv,c1,c2,c3,c4,h1,h2,h3⟩:=h i hi;exact⟨vn,vk,vv,c1,c2,c3,c4,h1.1,h2.1,h3.1⟩
theorem Xr.kept{base:Nat}{w w':F}{v:H}{l:List Q9}(h:Xr base w v l){row:Option Nat}(hg:L w w' row)(hrow:row=G∨∃g cur t fz,row=I g∧base<=g∧w.heap[g]?=I (S cur t fz)∧t≠5∧t≠118):Xr base w' v l:=by
 obtain⟨a,cap,rfl,hc,h⟩:=h;refine⟨a,cap,rfl,hc,?_⟩;rcases h with h|⟨b,o,rfl,hb,h⟩;·exact .inl h
 ·by_cases h0:l=[];(·exact .inl ⟨h0,fun e=>by cases e⟩);·have hl:0<l.length:=rS.2 h0;(have hlt:b<w.heap.size:=by obtain⟨vn,vk,vv,c1,_⟩:=h 0 hl;exact VB c1);(have hne:I b≠row:=by intro e;rcases hrow with rfl|⟨g,cur,t,fz,rfl,hbg,hgc,ht,ht2⟩;(·cases e);·cases e;rcases hb with hb|⟨cur2,fz2,hb⟩;(·omega);·rw[hb]at hgc;simp only[tA,tW]at hgc;exact ht2 hgc.2.1.symm);(have hrow':row=G∨∃g cur t fz,row=I g∧base<=g∧w.heap[g]?=I (S cur t fz)∧t≠5:=by rcases hrow with h|⟨g,cur,t,fz,h1,h2,h3,h4,_⟩;(·exact .inl h);·exact .inr ⟨g,cur,t,fz,h1,h2,h3,h4⟩);refine .inr ⟨b,o,rfl,?_,fun i hi=>?_⟩;(·rcases hb with hb|⟨cur,fz,hb⟩;(·exact .inl hb);·exact .inr ⟨cur,fz,by rw[hg.block b hlt hne];exact hb⟩);·obtain⟨vn,vk,vv,c1,c2,c3,c4,h1,h2,h3⟩:=h i hi;exact⟨vn,vk,vv,hg.cell c1 (by simpa using hne),hg.cell c2 (by simpa using hne),hg.cell c3 (by simpa using hne),hg.cell c4 (by simpa using hne),h1.keptT hg hrow',h2.keptT hg hrow',h3.keptT hg hrow'⟩
theorem Xr.grown{base:Nat}{w w':F}{v:H}{l:List Q9}(h:Xr base w v l)(hg:L w w' G):Xr base w' v l:=h.kept hg (.inl rfl)
def J0(w:F)(v:H)(c:XE):Prop:=∃vs,v=sR #[Y tC c.turn,vs]∧QN w vs c.writes
theorem J0.grown{w w':F}{v:H}{c:XE}(h:J0 w v c)(hg:L w w' G):J0 w' v c:=by
 obtain⟨vs,rfl,h⟩:=h;exact⟨vs,rfl,h.grown hg⟩
theorem J0.agg{w:F}{v:H}{c:XE}(h:J0 w v c):∃a cap,v=sR #[Y tC c.turn,J a c.writes.length cap]:=by
 obtain⟨vs,rfl,h⟩:=h;obtain⟨a,cap,rfl⟩:=h.shape;exact⟨a,cap,rfl⟩
theorem J0.writes{w:F}{c:XE}{x y:H}(h:J0 w (sR #[x,y]) c):x=Y tC c.turn∧QN w y c.writes:=by
 obtain⟨vs,e,h⟩:=h;injection e with e;injection e with e;injection e with e1 e;injection e with e2 e;exact⟨e1,e2▸h⟩
structure NW(c:XE):Prop where turn:-9223372036854775808<=c.turn∧c.turn<=9223372036854775807writes:uL c.writes
structure V9 where
  data : List UInt8
  synced : Int
def VQ:V9:=⟨[],0⟩
def KT(w:F)(v:H)(t:V9):Prop:=∃vd,v=sR #[vd,Y tC t.synced]∧Qe w vd t.data
theorem KT.grown{w w':F}{v:H}{t:V9}(h:KT w v t)(hg:L w w' G):KT w' v t:=by
 obtain⟨vd,rfl,h⟩:=h;exact⟨vd,rfl,h.grown hg⟩
theorem KT.agg{w:F}{v:H}{t:V9}(h:KT w v t):∃a cap,v=sR #[J a t.data.length cap,Y tC t.synced]:=by
 obtain⟨vd,rfl,h⟩:=h;obtain⟨a,cap,rfl⟩:=h.shape;exact⟨a,cap,rfl⟩
theorem KT.data{w:F}{t:V9}{x y:H}(h:KT w (sR #[x,y]) t):Qe w x t.data∧y=Y tC t.synced:=by
 obtain⟨vd,e,h⟩:=h;injection e with e;injection e with e;injection e with e1 e;injection e with e2 e;exact⟨e1▸h,e2⟩
structure yI(t:V9):Prop where data:t.data.length<=140737488355328synced:-9223372036854775808<=t.synced∧t.synced<=9223372036854775807
def Yw(w:F)(v:H)(t:V9):Prop:=∃vd,v=sR #[vd,Y tC t.synced]∧Qf 0 w vd t.data
theorem Yw.is{w:F}{v:H}{t:V9}(h:Yw w v t):KT w v t:=by
 obtain⟨vd,rfl,h⟩:=h;exact⟨vd,rfl,h.slice⟩
theorem VZ(w:F):Yw w (sR #[J G 0 0,Y tC 0]) VQ:=⟨_,rfl,QG w,.inl rfl⟩
def Gx(t:V9):Bool:=tP (t.data.length<=200000)&&tP (0<=t.synced∧t.synced<=(t.data.length:Int))
theorem Ky(t:V9):Gx t=M↔t.data.length<=200000∧0<=t.synced∧t.synced<=(t.data.length:Int):=by
 unfold Gx;rw[rI,decide_eq_true_iff,decide_eq_true_iff]
def TP(c:XE):List UInt8:=if QW c=0then Zi c else[]
def RI(t:V9):Int:=if Gx t=M then 0 else 6
def Kj(t:V9):V9:=if Gx t=M then⟨t.data,(t.data.length:Int)⟩else VQ
def Un(t:V9)(keep:Int):Int:=if Gx t=M then(if keep<0then 2 else 0)else 6
def Xv(t:V9)(keep:Int):Nat:=if keep<(t.data.length:Int)-t.synced then(t.synced+keep).toNat else t.data.length
def Xu(t:V9)(keep:Int):V9:=if Un t keep=0then⟨t.data.take (Xv t keep),(Xv t keep:Int)⟩else VQ
def Ve(D:List UInt8->List UInt8)(t:V9)(c:XE):Int:=if Gx t=M then(if QW c=0then(if 200000<t.data.length+(ZD D c).length then 11 else 0)else QW c)else 6
def zV(D:List UInt8->List UInt8)(t:V9)(c:XE):V9:=if Ve D t c=0then⟨t.data++ZD D c,t.synced⟩else VQ
def EF(t:V9):Int:=if Gx t=M then 0 else 6
def yS(D:List UInt8->List UInt8)(t:V9):List XE:=if Gx t=M then(Kz D 1 t.data).1 else[]
def xH(D:List UInt8->List UInt8)(t:V9):V9:=if Gx t=M then⟨t.data.take (DV D t.data),if t.synced>(DV D t.data:Int)then(DV D t.data:Int)else t.synced⟩else VQ
theorem TY:∀(ws:List Q9)(l:FL)(m:Nat),Zf l->(∀w∈ws,QC w=0)->vL m l->m+ws.length<=60->l.length+ws.length<=8->ZL l ws=0|[],l,m,_,_,_,_,_=>rfl|w::ws,l,m,h,hv,hs,hm,h8=>by have hw:=hv w (by simp);have hl:=Fi l w;simp only[sD]at hm h8;(have h2:XM l w=0:=by rw[xB h hw hs (by omega),if_neg (by omega)]);rw[ZL,if_pos hw,if_pos h2];exact TY ws _ (m+1) (Ut h hw h2) (fun x hx=>hv x (tY _ hx)) (jX h.rises hs w) (by omega) (by omega)
theorem yU{D:List UInt8->List UInt8}(hD:∀x,(D x).length=4){c:XE}(hc:QW c=0):6<=(ZD D c).length∧(ZD D c).length<=600:=by
 have h1:=PQ hD c;have h2:=U9 hc;omega
theorem Aa(D:List UInt8->List UInt8)(cs:List XE)(i:Nat)(h:i<cs.length):QT D (cs.take (i+1))=QT D (cs.take i)++ZD D (cs.getD i Zm):=by
 rw[sU h,VA,PC,show cs[i]=cs.getD i Zm by simp[h]]
theorem iD{D:List UInt8->List UInt8}{t:V9}(hm:Gx t=M){cs:List XE}{r:List UInt8}{n:Nat}(h:Kz D 1 t.data=(cs,r))(hn:DV D t.data=n):EF t=0∧yS D t=cs∧xH D t=⟨t.data.take n,if t.synced>(n:Int)then(n:Int)else t.synced⟩:=by
 refine⟨by rw[EF,if_pos hm],by rw[yS,if_pos hm,h],by rw[xH,if_pos hm,hn]⟩
theorem aD{D:List UInt8->List UInt8}(hD:∀x,(D x).length=4){cs:List XE}(h:zB 1 cs)(k:Nat)(s:Int)(hk:k<=(QT D cs).length)(hs:0<=s∧s<=(k:Int))(hl:(QT D cs).length<=200000):∃j,j<=cs.length∧(QT D (cs.take j)).length<=k∧(j<cs.length->k<(QT D (cs.take (j+1))).length)∧EF ⟨(QT D cs).take k,s⟩=0∧yS D ⟨(QT D cs).take k,s⟩=cs.take j∧xH D ⟨(QT D cs).take k,s⟩=⟨QT D (cs.take j),if s>((QT D (cs.take j)).length:Int)then((QT D (cs.take j)).length:Int)else s⟩:=by
 obtain⟨j,h1,h2,h3,h4,h5⟩:=Bn hD h k;have hkl:((QT D cs).take k).length=k:=by simp;omega
 have hm:Gx ⟨(QT D cs).take k,s⟩=M:=(Ky _).2 ⟨by show((QT D cs).take k).length<=_;omega,by show 0<=s∧s<=(((QT D cs).take k).length:Int);omega⟩;have hn:DV D ((QT D cs).take k)=(QT D (cs.take j)).length:=by rw[DV,h2,hkl];show k-(((QT D cs).take k).drop _).length=_;rw[pQ,hkl];omega
 obtain⟨a,b,c⟩:=iD hm h2 hn;refine⟨j,h1,h3,h5,a,b,?_⟩;rw[c];have e:((QT D cs).take k).take (QT D (cs.take j)).length=QT D (cs.take j):=by rw[pY,pZ h3];(conv=>lhs;rw[<-pI j cs,VA]);rw[show(cs.take j++cs.drop j).take j=cs.take j by rw[pI]];exact List.take_left' rfl
 show(⟨((QT D cs).take k).take _,_⟩:V9)=_;rw[e]
def OG:FL->Nat->List XE->Int|_,_,[]=>0|f,i,c::cs=>if QW c=0then(if c.turn=((i+1:Nat):Int)then(if QJ f c.writes=0then OG (ZW f c.writes) (i+1) cs else QJ f c.writes)else 3)else QW c
def Vp:FL->List XE->FL|f,[]=>f|f,c::cs=>Vp (ZW f c.writes) cs
theorem vX:∀(a b:List XE)(f:FL),Vp f (a++b)=Vp (Vp f a) b|[],_,_=>rfl|_::a,b,_=>vX a b _
theorem RH(cs:List XE)(f:FL)(c:XE):Vp f (cs++[c])=ZW (Vp f cs) c.writes:=by
 rw[vX];rfl
def vM:FL->Nat->List XE->Prop|_,_,[]=>True|f,i,c::cs=>QW c=0∧c.turn=((i+1:Nat):Int)∧QJ f c.writes=0∧vM (ZW f c.writes) (i+1) cs
theorem vM.take:∀{cs:List XE}{f:FL}{i:Nat}(_:vM f i cs)(j:Nat),vM f i (cs.take j)|[],_,_,_,j=>by rw[List.take_nil];trivial|_::_,_,_,_,0=>trivial|_::_,_,_,h,j+1=>⟨h.1,h.2.1,h.2.2.1,vM.take h.2.2.2 j⟩
theorem vM.at:∀{cs:List XE}{f:FL}{i:Nat}(_:vM f i cs)(j:Nat)(_:j<cs.length),QW (cs.getD j Zm)=0∧(cs.getD j Zm).turn=((i+j+1:Nat):Int)∧QJ (Vp f (cs.take j)) (cs.getD j Zm).writes=0|[],_,_,_,j,hj=>by simp at hj|c::cs,f,i,h,0,_=>⟨h.1,h.2.1,h.2.2.1⟩|c::cs,f,i,h,j+1,hj=>by have:=vM.at h.2.2.2 j (by simpa using hj);rw[show i+(j+1)+1=i+1+j+1by omega];simpa[Vp]using this
theorem FS{l:FL}(h:Zf l)(ws:List Q9):Zf (ZW l ws):=by
 unfold ZW;by_cases h0:QJ l ws=0;·rw[if_pos h0];unfold QJ at h0;rw[if_pos ((Xm l).2 h)]at h0;by_cases h10:10<ws.length;(·rw[if_pos h10]at h0;omega);·rw[if_neg h10]at h0;exact vP ws l h h0
 ·rw[if_neg h0];exact VN
theorem vG:∀(cs:List XE)(f:FL),Zf f->Zf (Vp f cs)|[],_,h=>h|c::cs,_,h=>vG cs _ (FS h c.writes)
def Ya(n t:Int):Bool:=tP (0<=t∧t<=n∧n-t<6)
def Rl(a b:Q9):Prop:=a.name=b.name∧a.key=b.key
def Rx(l:List Q9):Prop:=l.Pairwise fun a b=>¬Rl a b
def XH(a b:Rd):Bool:=a.wide==b.wide&&(tP (a.name=b.name)&&(tP (a.key=b.key)&&tP (a.last=b.last)))
theorem qP(a b:Rd):XH a b=M↔a=b:=by
 obtain⟨n,k,w,l⟩:=a;obtain⟨n2,k2,w2,l2⟩:=b;simp only[XH,rI,decide_eq_true_iff,beq_iff_eq,Rd.mk.injEq];exact⟨fun⟨h1,h2,h3,h4⟩=>⟨h2,h3,h1,h4⟩,fun⟨h1,h2,h3,h4⟩=>⟨h3,h1,h2,h4⟩⟩
def ZQ(a b:Q9):Bool:=tP (a.name=b.name)&&tP (a.key=b.key)
theorem zA(a b:Q9):ZQ a b=M↔Rl a b:=by
 simp only[ZQ,rI,decide_eq_true_iff];exact Iff.rfl
def GZ:List Rd->List Rd->Int|_,[]=>0|p,r::rs=>if XF r=0then(if p.any (fun q=>XH q r)=M then 3 else GZ (p++[r]) rs)else XF r
def xZ:List Q9->List Q9->Int|_,[]=>0|p,w::ws=>if QC w=0then(if p.any (fun q=>ZQ q w)=M then 3 else xZ (p++[w]) ws)else QC w
theorem Tw:∀(rs p:List Rd),GZ p rs=0↔(∀r∈rs,XF r=0)∧(∀r∈rs,r∉p)∧rs.Nodup|[],p=>by simp[GZ]|r::rs,p=>by have ih:=Tw rs (p++[r]);rw[GZ];by_cases h1:XF r=0;(·rw[if_pos h1];by_cases h2:p.any (fun q=>XH q r)=M;(·rw[if_pos h2];refine⟨fun h=>by omega,fun h=>?_⟩;obtain⟨q,hq,he⟩:=rA.1 h2;rw[(qP q r).1 he]at hq;exact absurd hq (h.2.1 r (sO ..)));·rw[if_neg h2,ih];have hr:r∉p:=fun hm=>h2 (rA.2 ⟨r,hm,(qP r r).2 rfl⟩);constructor;(·rintro⟨a,b,c⟩;refine⟨fun x hx=>?_,fun x hx=>?_,pV.2 ⟨fun hm=>b r hm (by simp),c⟩⟩;(·rcases tK.1 hx with rfl|hx;(·exact h1);·exact a x hx);·rcases tK.1 hx with rfl|hx;(·exact hr);·exact fun hm=>b x hx (sA.2 (.inl hm)));·rintro⟨a,b,c⟩;have c':=pV.1 c;refine⟨fun x hx=>a x (tY _ hx),fun x hx hm=>?_,c'.2⟩;rcases sA.1 hm with hm|hm;(·exact b x (tY _ hx) hm);·simp only[tK,tQ,or_false]at hm;subst hm;exact c'.1 hx);·rw[if_neg h1];exact⟨fun h=>absurd h h1,fun h=>absurd (h.1 r (sO ..)) h1⟩
theorem Dx:∀(ws p:List Q9),xZ p ws=0↔(∀w∈ws,QC w=0)∧(∀w∈ws,∀q∈p,¬Rl q w)∧Rx ws|[],p=>by simp[xZ,Rx]|w::ws,p=>by have ih:=Dx ws (p++[w]);rw[xZ];by_cases h1:QC w=0;(·rw[if_pos h1];by_cases h2:p.any (fun q=>ZQ q w)=M;(·rw[if_pos h2];refine⟨fun h=>by omega,fun h=>?_⟩;obtain⟨q,hq,he⟩:=rA.1 h2;exact absurd ((zA q w).1 he) (h.2.1 w (sO ..) q hq));·rw[if_neg h2,ih];have hr:∀q∈p,¬Rl q w:=fun q hm e=>h2 (rA.2 ⟨q,hm,(zA q w).2 e⟩);constructor;(·rintro⟨a,b,c⟩;refine⟨fun x hx=>?_,fun x hx q hq=>?_,rD.2 ⟨fun x hx=>b x hx w (by simp),c⟩⟩;(·rcases tK.1 hx with rfl|hx;(·exact h1);·exact a x hx);·rcases tK.1 hx with rfl|hx;(·exact hr q hq);·exact b x hx q (sA.2 (.inl hq)));·rintro⟨a,b,c⟩;have c':=rD.1 c;refine⟨fun x hx=>a x (tY _ hx),fun x hx q hm=>?_,c'.2⟩;rcases sA.1 hm with hm|hm;(·exact b x (tY _ hx) q hm);·simp only[tK,tQ,or_false]at hm;subst hm;exact c'.1 x hx);·rw[if_neg h1];exact⟨fun h=>absurd h h1,fun h=>absurd (h.1 w (sO ..)) h1⟩
structure Tx where
  start : Int
  reads : List Rd
  writes : List Q9
def FQ:Tx:=⟨0,[],[]⟩
def Gi(t:Tx):Int:=if 0<=t.start∧t.start<=1048576then(if 20<t.reads.length∨10<t.writes.length then 1 else(if GZ [] t.reads=0then xZ [] t.writes else GZ [] t.reads))else 2
structure GO (t : Tx) : Prop where
  start : 0 <= t.start ∧ t.start <= 1048576
  reads : t.reads.length <= 20
  writes : t.writes.length <= 10
  each : ∀ r ∈ t.reads, XF r = 0
  once : t.reads.Nodup
  wrs : ∀ w ∈ t.writes, QC w = 0
  apart : Rx t.writes
theorem yW(t:Tx):Gi t=0↔GO t:=by
 unfold Gi;by_cases h1:0<=t.start∧t.start<=1048576;·rw[if_pos h1];by_cases h2:20<t.reads.length∨10<t.writes.length;(·rw[if_pos h2];exact⟨fun h=>by omega,fun h=>by have:=h.reads;have:=h.writes;omega⟩);·rw[if_neg h2];by_cases h3:GZ [] t.reads=0;(·rw[if_pos h3,Dx];have h3':=(Tw _ _).1 h3;exact⟨fun h=>⟨h1,by omega,by omega,h3'.1,h3'.2.2,h.1,h.2.2⟩,fun h=>⟨h.wrs,fun _ _ _ hq=>by simp at hq,h.apart⟩⟩);·rw[if_neg h3];exact⟨fun h=>absurd h h3,fun h=>absurd ((Tw _ _).2 ⟨h.each,fun _ _ hq=>by simp at hq,h.once⟩) h3⟩
 ·rw[if_neg h1];exact⟨fun h=>by omega,fun h=>absurd h.start h1⟩
def ED(t:Tx)(r:Rd):Bool:=t.reads.any (fun q=>XH q r)
theorem OM(t:Tx)(r:Rd):ED t r=M↔r∈t.reads:=by
 unfold ED;rw[rA];exact⟨fun⟨q,hq,e⟩=>(qP q r).1 e▸hq,fun h=>⟨r,h,(qP r r).2 rfl⟩⟩
def Xh(t:Tx)(r:Rd):Int:=if Gi t=0then(if XF r=0then(if ED t r=M then 0 else(if t.reads.length=20then 11 else 0))else XF r)else Gi t
def X9(t:Tx)(r:Rd):Tx:=if Xh t r=0then(if ED t r=M then t else⟨t.start,t.reads++[r],t.writes⟩)else FQ
theorem gC{t:Tx}(h:GO t){r:Rd}(hr:XF r=0):Xh t r=if ED t r=M then 0 else(if t.reads.length=20then 11 else 0):=by
 rw[Xh,if_pos ((yW t).2 h),if_pos hr]
theorem e9{t:Tx}(h:GO t){r:Rd}(hr:XF r=0)(he:Xh t r=0):GO (X9 t r):=by
 rw[X9,if_pos he];by_cases hh:ED t r=M;·rw[if_pos hh];exact h
 ·rw[if_neg hh];rw[gC h hr,if_neg hh]at he;have hm:r∉t.reads:=fun e=>hh ((OM t r).2 e);(have h20:t.reads.length≠20:=fun e=>by rw[if_pos e]at he;omega);refine⟨h.start,?_,h.writes,fun x hx=>?_,?_,h.wrs,h.apart⟩;(·have:=h.reads;simp;omega);(·rcases sA.1 hx with hx|hx;(·exact h.each x hx);·simp only[tK,tQ,or_false]at hx;rw[hx];exact hr);·rw[pN];refine⟨h.once,by simp,fun a ha b hb e=>?_⟩;simp only[tK,tQ,or_false]at hb;subst hb;subst e;exact hm ha
def FO(l:List Q9)(w:Q9):Bool:=l.any (fun q=>ZQ q w)
def xE:List Q9->Q9->List Q9|[],w=>[w]|a::l,w=>if ZQ a w=M then w::l else a::xE l w
def ZU(t:Tx)(w:Q9):Int:=if Gi t=0then(if QC w=0then(if FO t.writes w=M then 0 else(if t.writes.length=10then 11 else 0))else QC w)else Gi t
def Yf(t:Tx)(w:Q9):Tx:=if ZU t w=0then⟨t.start,t.reads,xE t.writes w⟩else FQ
theorem Ca:∀(l:List Q9)(w:Q9),(xE l w).length=if FO l w=M then l.length else l.length+1|[],w=>rfl|a::l,w=>by rw[xE,FO,pC];by_cases h:ZQ a w=M;(·rw[if_pos h,h];rfl);·rw[if_neg h,sD,Ca l w];(have hf:ZQ a w=N:=by simpa using h);rw[hf,Bool.false_or];show _=if FO l w=M then _ else _;by_cases h2:FO l w=M;(·rw[if_pos h2,if_pos h2];rfl);·rw[if_neg h2,if_neg h2];rfl
theorem TV:∀(l:List Q9)(w x:Q9),x∈xE l w->x=w∨x∈l|[],w,x,h=>by simpa[xE]using h|a::l,w,x,h=>by rw[xE]at h;by_cases h1:ZQ a w=M;(·rw[if_pos h1]at h;rcases tK.1 h with h|h;(·exact .inl h);·exact .inr (tY _ h));·rw[if_neg h1]at h;rcases tK.1 h with h|h;(·exact .inr (by rw[h];exact sO ..));·exact(TV l w x h).elim .inl fun h=>.inr (tY _ h)
theorem Cc{a b c:Q9}(h:Rl a b)(k:Rl b c):Rl a c:=⟨h.1.trans k.1,h.2.trans k.2⟩
theorem Tt:∀(l:List Q9)(w:Q9),Rx l->Rx (xE l w)|[],w,_=>List.pairwise_singleton ..|a::l,w,h=>by have h':=rD.1 h;rw[xE];by_cases h1:ZQ a w=M;(·rw[if_pos h1];exact rD.2 ⟨fun x hx e=>h'.1 x hx (Cc ((zA a w).1 h1) e),h'.2⟩);·rw[if_neg h1];refine rD.2 ⟨fun x hx e=>?_,Tt l w h'.2⟩;rcases TV l w x hx with rfl|hx;(·exact h1 ((zA _ _).2 e));·exact h'.1 x hx e
theorem O8{t:Tx}(h:GO t){w:Q9}(hw:QC w=0):ZU t w=if FO t.writes w=M then 0 else(if t.writes.length=10then 11 else 0):=by
 rw[ZU,if_pos ((yW t).2 h),if_pos hw]
theorem cS{t:Tx}(h:GO t){w:Q9}(hw:QC w=0)(he:ZU t w=0):GO (Yf t w):=by
 rw[Yf,if_pos he];rw[O8 h hw]at he;refine⟨h.start,h.reads,?_,h.each,h.once,fun x hx=>?_,Tt _ _ h.apart⟩;·show(xE t.writes w).length<=10;rw[Ca];have:=h.writes;by_cases hh:FO t.writes w=M;(·rw[if_pos hh];exact this);·rw[if_neg hh]at he⊢;(have h10:t.writes.length≠10:=fun e=>by rw[if_pos e]at he;omega);omega
 ·rcases TV _ _ _ hx with rfl|hx;(·exact hw);·exact h.wrs x hx
def lK(l:List Q9)(n k:List UInt8):Option Q9:=l.find? fun q=>tP (q.name=n)&&tP (q.key=k)
theorem OJ{l:List Q9}{n k:List UInt8}{w:Q9}(h:lK l n k=I w):w∈l∧w.name=n∧w.key=k:=by
 refine⟨List.mem_of_find?_eq_some h,?_⟩;have:=List.find?_some h;simpa using this
def lZ(a b k:List UInt8):Bool:=!Ym k a&&!Ym b k
def KV(n a b:List UInt8)(l:PL)(w:Q9):PL:=if w.name=n∧lZ a b w.key=M then(if w.gone=M then zW l w.key else JE l (w.key,w.value))else l
def SO(n a b:List UInt8):PL->List Q9->PL|l,[]=>l|l,w::ws=>SO n a b (KV n a b l w) ws
def uB(n a b:List UInt8):PL->List Q9->Int|_,[]=>0|l,w::ws=>if 60<(KV n a b l w).length then 11 else uB n a b (KV n a b l w) ws
def XU(r:Rd)(w:Q9):Bool:=tP (r.name=w.name)&&(if r.wide=M then lZ r.key r.last w.key else tP (r.key=w.key))
def gU(t:Tx)(ws:List Q9):Bool:=ws.any fun w=>t.reads.any fun r=>XU r w
def A7(t:Tx)(l:List XE):Bool:=l.any fun c=>tP (t.start<c.turn)&&gU t c.writes
def TH(t:Tx):Int:=Gi t
def Jo(t:Tx)(l:List XE):Bool:=if Gi t=0then A7 t l else N
def z8(l:FL)(t:Tx):Int:=if Q6 l=0then Gi t else Q6 l
def Ks(l:FL)(t:Tx)(n k:List UInt8):Int:=if z8 l t=0then(if Qt n.length=0then Qn k.length else Qt n.length)else z8 l t
def U8(l:FL)(t:Tx)(n k:List UInt8):Bool:=if Ks l t n k=0then(lK t.writes n k).isSome else N
def Vg(l:FL)(t:Tx)(n k:List UInt8):Bool:=if Ks l t n k=0then(match lK t.writes n k with|I w=>!w.gone|none=>K3 l n k)else N
def U2(l:FL)(t:Tx)(n k:List UInt8):List UInt8:=if Ks l t n k=0then(match lK t.writes n k with|I w=>w.value|none=>K7 l n k)else[]
theorem Ll{l:FL}{t:Tx}(hl:Zf l)(ht:GO t){n k:List UInt8}(hn:1<=n.length∧n.length<=8)(hk:1<=k.length∧k.length<=16):Ks l t n k=0:=by
 rw[Ks,z8,if_pos ((Xm l).2 hl),if_pos ((yW t).2 ht),if_pos ((Zn _).2 hn),(Zl _).2 hk]
def JR(l:FL)(t:Tx)(n a b:List UInt8):Int:=if z8 l t=0then(if Qt n.length=0then(if Qn a.length=0then(if Qn b.length=0then uB n a b (Vi (XY l n) a b) t.writes else Qn b.length)else Qn a.length)else Qt n.length)else z8 l t
def V1(l:FL)(t:Tx)(n a b:List UInt8):PL:=if JR l t n a b=0then SO n a b (Vi (XY l n) a b) t.writes else[]
structure Rp where
  sess : Int
  code : Int
  turn : Int
  found : Bool
  value : List UInt8
  pairs : PL
  pf : Option (FL × List UInt8 × List UInt8)
def V5(s:Nat)(e:Int):Rp:=⟨(s:Int),e,0,N,[],[],G⟩
def Do(s:Nat)(t:Int):Rp:=⟨(s:Int),0,t,N,[],[],G⟩
structure Sv where
  up : Bool
  tape : V9
  commits : List XE
  synced : Nat
  begun : Nat -> Bool
  waits : Nat -> Bool
  txns : Nat -> Tx
  queue : List Nat
  out : List Rp
def Kr{α:Type}(f:Nat->α)(i:Nat)(x:α):Nat->α:=fun j=>if j=i then x else f j
theorem ZG{α:Type}(f:Nat->α)(i:Nat)(x:α):Kr f i x i=x:=by
 simp[Kr]
theorem Zk{α:Type}(f:Nat->α){i j:Nat}(x:α)(h:j≠i):Kr f i x j=f j:=by
 simp[Kr,h]
def Gb(up:Bool)(t:V9)(cs:List XE)(o:List Rp):Sv:=⟨up,t,cs,cs.length,fun _=>N,fun _=>N,fun _=>FQ,[],o⟩
def Dn:Sv:=Gb M VQ [] []
def ZM(v:Sv)(r:Rp):Sv:={v with out:=v.out++[r]}
def Qz(v:Sv)(n:Nat):FL:=Vp [] (v.commits.take n)
def Ud(v:Sv)(s:Nat)(x:Rd)(o:Rp):Sv:=if Xh (v.txns s) x=0then ZM {v with txns:=Kr v.txns s (X9 (v.txns s) x)} o else ZM v (V5 s (Xh (v.txns s) x))
def GH(v:Sv)(s:Nat)(w:Q9):Sv:=ZM (if ZU (v.txns s) w=0then{v with txns:=Kr v.txns s (Yf (v.txns s) w)}else v) (V5 s (ZU (v.txns s) w))
def Mw(v:Sv)(s:Nat)(r:Rq):Sv:=if U8 (Qz v (v.txns s).start.toNat) (v.txns s) r.name r.key=M then ZM v ⟨(s:Int),0,(v.txns s).start,Vg (Qz v (v.txns s).start.toNat) (v.txns s) r.name r.key,U2 (Qz v (v.txns s).start.toNat) (v.txns s) r.name r.key,[],G⟩else Ud v s (Zu r) ⟨(s:Int),0,(v.txns s).start,Vg (Qz v (v.txns s).start.toNat) (v.txns s) r.name r.key,U2 (Qz v (v.txns s).start.toNat) (v.txns s) r.name r.key,[],G⟩
def vS(v:Sv)(s:Nat)(r:Rq):Sv:=if JR (Qz v (v.txns s).start.toNat) (v.txns s) r.name r.key r.last=0then Ud v s (Zu r) ⟨(s:Int),0,(v.txns s).start,N,[],V1 (Qz v (v.txns s).start.toNat) (v.txns s) r.name r.key r.last,G⟩else ZM v (V5 s (JR (Qz v (v.txns s).start.toNat) (v.txns s) r.name r.key r.last))
def qD(v:Sv)(s:Nat)(r:Rq):Sv:=if r.kind=4∨r.kind=5then GH v s (Zs r)else if r.kind=2then Mw v s r else vS v s r
def Yl(v:Sv)(s:Nat):XE:=⟨((v.commits.length+1:Nat):Int),(v.txns s).writes⟩
def Xl(v:Sv)(s:Nat):Sv:={v with begun:=Kr v.begun s N}
def Jn(D:List UInt8->List UInt8)(v:Sv)(s:Nat):Sv:=if(v.txns s).writes.length=0then ZM (Xl v s) (Do s (v.txns s).start)else if v.queue.length=6∨v.commits.length=300then ZM v (V5 s 11)else if Jo (v.txns s) v.commits=M then ZM (Xl v s) (V5 s 9)else if QJ (Qz v v.commits.length) (v.txns s).writes≠0then ZM (Xl v s) (V5 s (QJ (Qz v v.commits.length) (v.txns s).writes))else if Ve D v.tape (Yl v s)≠0then ZM (Xl v s) (V5 s (Ve D v.tape (Yl v s)))else{Xl v s with tape:=zV D v.tape (Yl v s),commits:=v.commits++[Yl v s],queue:=v.queue++[s],waits:=Kr v.waits s M}
def Ro(v:Sv)(s:Nat)(r:Rq):Sv:=ZM v ⟨(s:Int),0,(v.synced:Int),K3 (Qz v v.synced) r.name r.key,K7 (Qz v v.synced) r.name r.key,[],I (Qz v v.synced,r.name,r.key)⟩
def Q8(v:Sv)(s:Nat)(r:Rq):Bool:=v.waits s||(if r.kind=1then v.begun s else !v.begun s)
def qS(D:List UInt8->List UInt8)(v:Sv)(s:Nat)(r:Rq):Sv:=if r.kind=8then Ro v s r else if Q8 v s r=M then ZM v (V5 s 6)else if r.kind=1then ZM {v with begun:=Kr v.begun s M,txns:=Kr v.txns s ⟨(v.synced:Int),[],[]⟩} (Do s (v.synced:Int))else if r.kind=7then ZM (Xl v s) (V5 s 0)else if Ya (v.synced:Int) (v.txns s).start=N then ZM (Xl v s) (V5 s 10)else if r.kind=6then Jn D v s else qD v s r
def V6(D:List UInt8->List UInt8)(v:Sv)(s:Nat)(data:List UInt8):Sv:=if v.up=N then ZM v (V5 s 13)else if XG data=0then qS D v s (JY data)else ZM v (V5 s (XG data))
def Uw:Nat->List Nat->List Rp|_,[]=>[]|n,s::q=>Do s ((n+1:Nat):Int)::Uw (n+1) q
def KN(f:Nat->Bool)(q:List Nat):Nat->Bool:=fun j=>if j∈q then N else f j
def VH(v:Sv):Sv:={v with tape:=Kj v.tape,synced:=v.synced+v.queue.length,waits:=KN v.waits v.queue,queue:=[],out:=v.out++Uw v.synced v.queue}
def UO(D:List UInt8->List UInt8)(v:Sv)(k:Int):Sv:=Gb N (xH D (Xu v.tape k)) (yS D (Xu v.tape k)) v.out
def Vw(D:List UInt8->List UInt8)(v:Sv)(a:Ac):Sv:=if a.kind=1then V6 D v a.sess.toNat a.data else if a.kind=2then(if v.up=M then VH v else v)else if a.kind=3then(if v.up=M then UO D v a.keep else v)else{v with up:=M}
def Uu(D:List UInt8->List UInt8)(l:List Ac):Sv:=l.foldl (Vw D) Dn
theorem Wi(D:List UInt8->List UInt8)(l:List Ac)(a:Ac):Uu D (l++[a])=Vw D (Uu D l) a:=by
 simp[Uu]
def qE(l:List Ac):Int:=Gg l
structure Oc where
  up : Bool
  turn : Int
  pending : Int
  forest : FL
  replies : List Rp
def yL(v:Sv):Oc:=⟨v.up,(v.synced:Int),(v.queue.length:Int),Qz v v.synced,v.out⟩
def Il:Oc:=⟨N,0,0,[],[]⟩
def xX(D:List UInt8->List UInt8)(l:List Ac):Oc:=if qE l=0then yL (Uu D l)else Il
section
theorem Nc:∀{cs:List XE}{f:FL}{i:Nat},vM f i cs->zB (i+1) cs|[],_,_,_=>trivial|_::_,_,_,h=>⟨by rw[h.2.1],h.1,Nc h.2.2.2⟩
theorem NK:∀{cs:List XE}{f:FL}{i:Nat}{c:XE},vM f i cs->QW c=0->c.turn=((i+cs.length+1:Nat):Int)->QJ (Vp f cs) c.writes=0->vM f i (cs++[c])|[],_,_,_,_,h1,h2,h3=>⟨h1,by rw[h2];rfl,h3,trivial⟩|d::cs,f,i,c,h,h1,h2,h3=>⟨h.1,h.2.1,h.2.2.1,NK h.2.2.2 h1 (by rw[h2,sD];congr 1;omega) h3⟩
structure ZK (D : List UInt8 -> List UInt8) (v : Sv) : Prop where
  goes : vM [] 0 v.commits
  many : v.commits.length <= 300
  data : v.tape.data = QT D v.commits
  mark : v.tape.synced = ((QT D (v.commits.take v.synced)).length : Int)
  room : v.tape.data.length <= 200000
  turn : v.synced + v.queue.length = v.commits.length
  few : v.queue.length <= 6
  wait : ∀ s, v.waits s = M ↔ s ∈ v.queue
  once : v.queue.Nodup
  tx : ∀ s, v.begun s = M -> GO (v.txns s) ∧ (v.txns s).start <= (v.synced : Int)
  idle : ∀ s, v.waits s = M -> v.begun s = N
  down : v.up = N -> v.queue = [] ∧ ∀ s, v.begun s = N
variable{D:List UInt8->List UInt8}{v:Sv}
theorem ZK.tell(h:ZK D v)(r:Rp):ZK D (ZM v r):=⟨h.goes,h.many,h.data,h.mark,h.room,h.turn,h.few,h.wait,h.once,h.tx,h.idle,h.down⟩
theorem E9{f:Nat->Bool}{s j:Nat}(h:Kr f s N j=M):j≠s∧f j=M:=by
 by_cases e:j=s;·rw[e,ZG]at h;cases h
 ·exact⟨e,by rwa[Zk f _ e]at h⟩
theorem ZK.end(h:ZK D v)(s:Nat):ZK D (Xl v s):=by
 refine⟨h.goes,h.many,h.data,h.mark,h.room,h.turn,h.few,h.wait,h.once,fun j hj=>h.tx j (E9 hj).2,fun j hj=>?_,fun hu=>⟨(h.down hu).1,fun j=>?_⟩⟩;·show Kr v.begun s N j=N;by_cases e:j=s;(·rw[e,ZG]);·rw[Zk _ _ e];exact h.idle j hj
 ·show Kr v.begun s N j=N;by_cases e:j=s;(·rw[e,ZG]);·rw[Zk _ _ e];exact(h.down hu).2 j
theorem ZK.txn(h:ZK D v){s:Nat}{t:Tx}(ht:GO t)(hs:t.start<=(v.synced:Int)):ZK D {v with txns:=Kr v.txns s t}:=by
 refine⟨h.goes,h.many,h.data,h.mark,h.room,h.turn,h.few,h.wait,h.once,fun j hj=>?_,h.idle,h.down⟩;show GO (Kr v.txns s t j)∧(Kr v.txns s t j).start<=_;by_cases e:j=s;·rw[e,ZG];exact⟨ht,hs⟩
 ·rw[Zk _ _ e];exact h.tx j hj
theorem ZK.may(h:ZK D v):Gx v.tape=M:=by
 refine(Ky _).2 ⟨h.room,?_⟩;rw[h.mark,h.data];have:=UY D v.commits v.synced v.commits.length (by have:=h.turn;omega);rw[sE]at this;omega
theorem uA{t:Tx}{r:Rd}(h:Xh t r=0):(X9 t r).start=t.start:=by
 rw[X9,if_pos h];split<;>rfl
theorem CE{t:Tx}{w:Q9}(h:ZU t w=0):(Yf t w).start=t.start:=by
 rw[Yf,if_pos h]
theorem ZK.note(h:ZK D v){s:Nat}(hb:v.begun s=M){x:Rd}(hx:XF x=0)(o:Rp):ZK D (Ud v s x o):=by
 obtain⟨h1,h2⟩:=h.tx s hb;unfold Ud;by_cases e:Xh (v.txns s) x=0;·rw[if_pos e];exact(h.txn (e9 h1 hx e) (by rw[uA e];exact h2)).tell _
 ·rw[if_neg e];exact h.tell _
theorem ZK.write(h:ZK D v){s:Nat}(hb:v.begun s=M){w:Q9}(hw:QC w=0):ZK D (GH v s w):=by
 obtain⟨h1,h2⟩:=h.tx s hb;unfold GH;by_cases e:ZU (v.txns s) w=0;·rw[if_pos e];exact(h.txn (cS h1 hw e) (by rw[CE e];exact h2)).tell _
 ·rw[if_neg e];exact h.tell _
theorem uF{r:Rq}(h:Kc r)(hk:r.kind=2∨r.kind=3):XF (Zu r)=0:=bF (by
 rw[(D0 h).1,if_pos hk])
theorem Pt{r:Rq}(h:Kc r)(hk:r.kind=4∨r.kind=5):QC (Zs r)=0:=E5 (by
 rw[(D0 h).2,if_pos hk])
theorem ZK.work(h:ZK D v){s:Nat}(hb:v.begun s=M){r:Rq}(hr:Kc r)(hk:2<=r.kind∧r.kind<=5):ZK D (qD v s r):=by
 unfold qD;by_cases h1:r.kind=4∨r.kind=5;·rw[if_pos h1];exact h.write hb (Pt hr h1)
 ·rw[if_neg h1];by_cases h2:r.kind=2;(·rw[if_pos h2];unfold Mw;split;(·exact h.tell _);·exact h.note hb (uF hr (.inl h2)) _);·rw[if_neg h2];unfold vS;split;(·exact h.note hb (uF hr (.inr (by omega))) _);·exact h.tell _
theorem Fv{t:Tx}(ht:GO t)(hw:¬t.writes.length=0)(n:Nat)(hn:n<=300):QW ⟨((n+1:Nat):Int),t.writes⟩=0:=(KQ _).2 ⟨by
 show(1:Int)<=((n+1:Nat):Int)∧((n+1:Nat):Int)<=1048576;omega,⟨by
 show 1<=t.writes.length;omega,ht.writes⟩,ht.wrs⟩
theorem Bl(h:ZK D v){s:Nat}(hb:v.begun s=M)(h1:¬(v.txns s).writes.length=0)(h2:¬(v.queue.length=6∨v.commits.length=300))(h4:QJ (Qz v v.commits.length) (v.txns s).writes=0)(h5:Ve D v.tape (Yl v s)=0):ZK D {Xl v s with tape:=zV D v.tape (Yl v s),commits:=v.commits++[Yl v s],queue:=v.queue++[s],waits:=Kr v.waits s M}:=by
 obtain⟨ht,hst⟩:=h.tx s hb;have hm:=h.many;have hc:QW (Yl v s)=0:=Fv ht h1 _ hm;have hmay:=h.may;have hroom:v.tape.data.length+(ZD D (Yl v s)).length<=200000:=by rw[Ve,if_pos hmay,if_pos hc]at h5;by_cases e:200000<v.tape.data.length+(ZD D (Yl v s)).length;(·rw[if_pos e]at h5;exact absurd h5 (by decide));·omega
 have hT:zV D v.tape (Yl v s)=⟨v.tape.data++ZD D (Yl v s),v.tape.synced⟩:=by rw[zV,if_pos h5]
 have hnw:v.waits s≠M:=fun e=>by have:=h.idle s e;rw[hb]at this;cases this
 have hnq:s∉v.queue:=fun e=>hnw ((h.wait s).2 e);have hup:v.up=M:=by cases hu:v.up with|true=>rfl|false=>have:=(h.down hu).2 s;rw[hb]at this;cases this
 have htn:=h.turn;rw[hT];refine⟨?_,?_,?_,?_,?_,?_,?_,?_,?_,?_,?_,?_⟩;·refine NK h.goes hc (by show((v.commits.length+1:Nat):Int)=_;congr 1;omega) ?_;rw[Qz,sE]at h4;exact h4
 ·show(v.commits++[Yl v s]).length<=300;rw[tB,sB];omega
 ·show v.tape.data++ZD D (Yl v s)=QT D (v.commits++[Yl v s]);rw[VA,PC,h.data]
 ·show v.tape.synced=((QT D ((v.commits++[Yl v s]).take v.synced)).length:Int);rw[List.take_append_of_le_length (by omega)];exact h.mark
 ·show(v.tape.data++ZD D (Yl v s)).length<=200000;rw[tB];exact hroom
 ·show v.synced+(v.queue++[s]).length=(v.commits++[Yl v s]).length;rw[tB,tB,sB,sB];omega
 ·show(v.queue++[s]).length<=6;have:=h.few;rw[tB,sB];omega
 ·intro j;show Kr v.waits s M j=M↔j∈v.queue++[s];by_cases e:j=s;(·rw[e,ZG];simp);·rw[Zk _ _ e,h.wait j];simp[e]
 ·show(v.queue++[s]).Nodup;rw[pN];exact⟨h.once,by simp,fun a ha b hb e=>hnq (by simp at hb;rw[<-hb,<-e];exact ha)⟩
 ·intro j hj;exact h.tx j (E9 hj).2
 ·intro j hj;show Kr v.begun s N j=N;by_cases e:j=s;(·rw[e,ZG]);·rw[Zk _ _ e];exact h.idle j (by have:Kr v.waits s M j=M:=hj;rwa[Zk _ _ e]at this)
 ·intro hu;have:v.up=N:=hu;rw[hup]at this;cases this
theorem ZK.commit(h:ZK D v){s:Nat}(hb:v.begun s=M):ZK D (Jn D v s):=by
 unfold Jn;by_cases h1:(v.txns s).writes.length=0;·rw[if_pos h1];exact(h.end s).tell _
 ·rw[if_neg h1];by_cases h2:v.queue.length=6∨v.commits.length=300;(·rw[if_pos h2];exact h.tell _);·rw[if_neg h2];by_cases h3:Jo (v.txns s) v.commits=M;(·rw[if_pos h3];exact(h.end s).tell _);·rw[if_neg h3];by_cases h4:QJ (Qz v v.commits.length) (v.txns s).writes≠0;(·rw[if_pos h4];exact(h.end s).tell _);·rw[if_neg h4];by_cases h5:Ve D v.tape (Yl v s)≠0;(·rw[if_pos h5];exact(h.end s).tell _);·rw[if_neg h5];exact Bl h hb h1 h2 (sQ h4) (sQ h5)
theorem ZK.req(h:ZK D v)(hup:v.up=M)(s:Nat){r:Rq}(hr:Kc r):ZK D (qS D v s r):=by
 unfold qS;by_cases h1:r.kind=8;·rw[if_pos h1];exact h.tell _
 ·rw[if_neg h1];by_cases h2:Q8 v s r=M;(·rw[if_pos h2];exact h.tell _);·rw[if_neg h2];(have h2':v.waits s=N∧(if r.kind=1then v.begun s else !v.begun s)=N:=by unfold Q8 at h2;cases hw:v.waits s;(·rw[hw]at h2;exact⟨rfl,by simpa using h2⟩);·rw[hw]at h2;exact absurd rfl h2);by_cases h3:r.kind=1;(·rw[if_pos h3];refine ZK.tell ?_ _;have hm:=h.many;have htn:=h.turn;refine⟨h.goes,h.many,h.data,h.mark,h.room,h.turn,h.few,h.wait,h.once,fun j hj=>?_,fun j hj=>?_,fun hu=>?_⟩;(·show GO (Kr v.txns s _ j)∧(Kr v.txns s _ j).start<=_;by_cases e:j=s;(·rw[e,ZG];exact⟨⟨by show(0:Int)<=(v.synced:Int)∧(v.synced:Int)<=1048576;omega,by simp,by simp,by simp,by simp,by simp,by simp[Rx]⟩,Int.le_refl _⟩);·rw[Zk _ _ e];exact h.tx j (by have:Kr v.begun s M j=M:=hj;rwa[Zk _ _ e]at this));(·show Kr v.begun s M j=N;have hj':v.waits j=M:=hj;by_cases e:j=s;(·rw[e,h2'.1]at hj';cases hj');·rw[Zk _ _ e];exact h.idle j hj');·have:v.up=N:=hu;rw[hup]at this;cases this);·rw[if_neg h3];(have hb:v.begun s=M:=by have:=h2'.2;rw[if_neg h3]at this;simpa using this);by_cases h4:r.kind=7;(·rw[if_pos h4];exact(h.end s).tell _);·rw[if_neg h4];by_cases h5:Ya (v.synced:Int) (v.txns s).start=N;(·rw[if_pos h5];exact(h.end s).tell _);·rw[if_neg h5];by_cases h6:r.kind=6;(·rw[if_pos h6];exact h.commit hb);·rw[if_neg h6];have hk:=hr.kind;exact h.work hb hr (by omega)
theorem ZK.ask(h:ZK D v)(s:Nat)(d:List UInt8):ZK D (V6 D v s d):=by
 unfold V6;by_cases h1:v.up=N;·rw[if_pos h1];exact h.tell _
 ·rw[if_neg h1];by_cases h2:XG d=0;(·rw[if_pos h2];exact h.req (by simpa using h1) s ((Vv _).1 (Nq h2).1));·rw[if_neg h2];exact h.tell _
theorem ZK.sync(h:ZK D v):ZK D (VH v):=by
 have hm:=h.may;have htn:=h.turn;refine⟨h.goes,h.many,?_,?_,?_,?_,by simp[VH],?_,by simp[VH],?_,?_,?_⟩;·show(Kj v.tape).data=_;rw[Kj,if_pos hm];exact h.data
 ·show(Kj v.tape).synced=((QT D (v.commits.take (v.synced+v.queue.length))).length:Int);rw[Kj,if_pos hm,htn,sE,<-h.data]
 ·show(Kj v.tape).data.length<=_;rw[Kj,if_pos hm];exact h.room
 ·show v.synced+v.queue.length+([]:List Nat).length=v.commits.length;simpa using htn
 ·intro j;show KN v.waits v.queue j=M↔j∈([]:List Nat);rw[KN];constructor;(·intro e;split at e;(·cases e);·rename_i hq;exact absurd ((h.wait j).1 e) hq);·intro e;simp at e
 ·intro j hj;obtain⟨h1,h2⟩:=h.tx j hj;exact⟨h1,by show _<=((v.synced+v.queue.length:Nat):Int);have:(v.txns j).start<=(v.synced:Int):=h2;show(v.txns j).start<=_;omega⟩
 ·intro j hj;have:KN v.waits v.queue j=M:=hj;rw[KN]at this;split at this;(·cases this);·exact h.idle j this
 ·intro hu;exact⟨rfl,(h.down hu).2⟩
theorem L6{up:Bool}{t:V9}{cs:List XE}{o:List Rp}(hg:vM [] 0 cs)(hm:cs.length<=300)(hd:t=⟨QT D cs,((QT D cs).length:Int)⟩)(hr:(QT D cs).length<=200000):ZK D (Gb up t cs o):=by
 subst hd;refine⟨hg,hm,rfl,?_,hr,rfl,by simp[Gb],fun s=>by simp[Gb],by simp[Gb],fun s hs=>by simp[Gb]at hs,fun s hs=>by simp[Gb]at hs,fun _=>⟨rfl,fun _=>rfl⟩⟩;show((QT D cs).length:Int)=((QT D (cs.take cs.length)).length:Int);rw[sE]
theorem TO(D:List UInt8->List UInt8):ZK D Dn:=L6 trivial (by
 simp) rfl (by
 simp[QT])
theorem qN(hD:∀x,(D x).length=4)(h:ZK D v){k:Int}(hk:0<=k):∃j,v.synced<=j∧j<=v.commits.length∧UO D v k=Gb N ⟨QT D (v.commits.take j),((QT D (v.commits.take j)).length:Int)⟩ (v.commits.take j) v.out∧(k=0->j=v.synced):=by
 have hm:=h.may;obtain⟨m1,m2,m3⟩:=(Ky _).1 hm;have hit:zB 1 v.commits:=Nc h.goes;have htn:=h.turn;have hce:Un v.tape k=0:=by rw[Un,if_pos hm,if_neg (by omega)]
 have hcn:Xv v.tape k<=v.tape.data.length∧v.tape.synced<=(Xv v.tape k:Int):=by rw[Xv];split<;>omega
 have hcT:Xu v.tape k=⟨(QT D v.commits).take (Xv v.tape k),(Xv v.tape k:Int)⟩:=by rw[Xu,if_pos hce,h.data]
 have hrl:(QT D v.commits).length<=200000:=by rw[<-h.data];exact h.room
 obtain⟨j,h1,h2,h3,_,h5,h6⟩:=aD hD hit (Xv v.tape k) (Xv v.tape k:Int) (by rw[<-h.data];exact hcn.1) (by omega) hrl;have hsj:v.synced<=j:=by refine RY (D:=D) (cs:=v.commits) (k:=Xv v.tape k) (by omega) h3 ?_;have:=h.mark;omega
 have e:(if(Xv v.tape k:Int)>((QT D (v.commits.take j)).length:Int)then((QT D (v.commits.take j)).length:Int)else(Xv v.tape k:Int))=((QT D (v.commits.take j)).length:Int):=by split<;>omega
 refine⟨j,hsj,h1,?_,?_⟩;·rw[UO,hcT,h5,h6,e]
 ·intro hk0;by_cases hj:j=v.synced;(·exact hj);·exfalso;(have hn:(Xv v.tape k:Int)=v.tape.synced:=by rw[Xv,hk0];split<;>omega);have g1:=UY D v.commits (v.synced+1) j (by omega);have g2:=Aa D v.commits v.synced (by omega);have hc:=(h.goes.at v.synced (by omega)).1;have g3:=(yU hD hc).1;have hmk:=h.mark;rw[g2,tB]at g1;omega
theorem ZK.crash(hD:∀x,(D x).length=4)(h:ZK D v){k:Int}(hk:0<=k):ZK D (UO D v k):=by
 obtain⟨j,h1,h2,h3,_⟩:=qN hD h hk;have hm:=h.many;have hle:=UY D v.commits j v.commits.length h2;rw[sE,<-h.data]at hle;have hr:=h.room;rw[h3];exact L6 (h.goes.take j) (by rw[rW];omega) rfl (by omega)
theorem ZK.start(h:ZK D v):ZK D {v with up:=M}:=⟨h.goes,h.many,h.data,h.mark,h.room,h.turn,h.few,h.wait,h.once,h.tx,h.idle,fun hu=>by
 cases hu⟩
theorem ZK.act(hD:∀x,(D x).length=4)(h:ZK D v){a:Ac}(ha:JM a):ZK D (Vw D v a):=by
 unfold Vw;by_cases h1:a.kind=1;·rw[if_pos h1];exact h.ask _ _
 ·rw[if_neg h1];by_cases h2:a.kind=2;(·rw[if_pos h2];split;(·exact h.sync);·exact h);·rw[if_neg h2];by_cases h3:a.kind=3;(·rw[if_pos h3];split;(·exact h.crash hD (ha.keep h3).1);·exact h);·rw[if_neg h3];exact h.start
theorem E6(hD:∀x,(D x).length=4):∀(l:List Ac)(v:Sv),ZK D v->(∀a∈l,JM a)->ZK D (l.foldl (Vw D) v)|[],_,h,_=>h|a::l,v,h,ha=>E6 hD l _ (h.act hD (ha a (by simp))) (fun x hx=>ha x (by simp[hx]))
theorem DW(hD:∀x,(D x).length=4)(l:List Ac)(h:∀a∈l,JM a):ZK D (Uu D l):=E6 hD l Dn (TO D) h
end
structure Same (v u : Sv) : Prop where
  up : u.up = v.up
  tape : u.tape = v.tape
  commits : u.commits = v.commits
  synced : u.synced = v.synced
  waits : u.waits = v.waits
  queue : u.queue = v.queue
structure fP (s : Nat) (v u : Sv) : Prop extends Same v u where
  out : ∃ r, u.out = v.out ++ [r] ∧ r.sess = (s : Int)
  begun : ∀ j, j ≠ s -> u.begun j = v.begun j
  txns : ∀ j, j ≠ s -> u.txns j = v.txns j
theorem Uc(v:Sv)(s:Nat)(r:Rp)(h:r.sess=(s:Int)):fP s v (ZM v r):=⟨⟨rfl,rfl,rfl,rfl,rfl,rfl⟩,⟨r,rfl,h⟩,fun _ _=>rfl,fun _ _=>rfl⟩
theorem jC(v:Sv)(s:Nat)(r:Rp)(h:r.sess=(s:Int)):fP s v (ZM (Xl v s) r):=⟨⟨rfl,rfl,rfl,rfl,rfl,rfl⟩,⟨r,rfl,h⟩,fun _ hj=>Zk _ _ hj,fun _ _=>rfl⟩
theorem LS(v:Sv)(s:Nat)(t:Tx)(r:Rp)(h:r.sess=(s:Int)):fP s v (ZM {v with txns:=Kr v.txns s t} r):=⟨⟨rfl,rfl,rfl,rfl,rfl,rfl⟩,⟨r,rfl,h⟩,fun _ _=>rfl,fun _ hj=>Zk _ _ hj⟩
theorem DX(v:Sv)(s:Nat)(x:Rd)(o:Rp)(h:o.sess=(s:Int)):fP s v (Ud v s x o):=by
 unfold Ud;split;·exact LS v s _ _ h
 ·exact Uc v s _ rfl
theorem Ib(v:Sv)(s:Nat)(w:Q9):fP s v (GH v s w):=by
 unfold GH;split;·exact LS v s _ _ rfl
 ·exact Uc v s _ rfl
theorem Ot(v:Sv)(s:Nat)(r:Rq):fP s v (qD v s r):=by
 unfold qD;split;·exact Ib v s _
 ·split;(·unfold Mw;split;(·exact Uc v s _ rfl);·exact DX v s _ _ rfl);·unfold vS;split;(·exact DX v s _ _ rfl);·exact Uc v s _ rfl
structure OZ (D : List UInt8 -> List UInt8) (s : Nat) (v u : Sv) : Prop where
  up : u.up = v.up
  tape : u.tape = zV D v.tape (Yl v s)
  commits : u.commits = v.commits ++ [Yl v s]
  synced : u.synced = v.synced
  waits : u.waits = Kr v.waits s M
  queue : u.queue = v.queue ++ [s]
  out : u.out = v.out
  begun : u.begun = Kr v.begun s N
  txns : u.txns = v.txns
  full : (v.txns s).writes.length ≠ 0
  room : v.queue.length ≠ 6 ∧ v.commits.length ≠ 300
  clash : Jo (v.txns s) v.commits = N
  fits : QJ (Qz v v.commits.length) (v.txns s).writes = 0
  app : Ve D v.tape (Yl v s) = 0
theorem IV(D:List UInt8->List UInt8)(v:Sv)(s:Nat):fP s v (Jn D v s)∨OZ D s v (Jn D v s):=by
 unfold Jn;by_cases h1:(v.txns s).writes.length=0;·rw[if_pos h1];exact .inl (jC v s _ rfl)
 ·rw[if_neg h1];by_cases h2:v.queue.length=6∨v.commits.length=300;(·rw[if_pos h2];exact .inl (Uc v s _ rfl));·rw[if_neg h2];by_cases h3:Jo (v.txns s) v.commits=M;(·rw[if_pos h3];exact .inl (jC v s _ rfl));·rw[if_neg h3];by_cases h4:QJ (Qz v v.commits.length) (v.txns s).writes≠0;(·rw[if_pos h4];exact .inl (jC v s _ rfl));·rw[if_neg h4];by_cases h5:Ve D v.tape (Yl v s)≠0;(·rw[if_pos h5];exact .inl (jC v s _ rfl));·rw[if_neg h5];exact .inr ⟨rfl,rfl,rfl,rfl,rfl,rfl,rfl,rfl,rfl,h1,⟨fun e=>h2 (.inl e),fun e=>h2 (.inr e)⟩,by simpa using h3,sQ h4,sQ h5⟩
theorem iG(D:List UInt8->List UInt8)(v:Sv)(s:Nat)(r:Rq):fP s v (qS D v s r)∨(r.kind=6∧Q8 v s r=N∧OZ D s v (qS D v s r)):=by
 unfold qS;by_cases h1:r.kind=8;·rw[if_pos h1];exact .inl (Uc v s _ rfl)
 ·rw[if_neg h1];by_cases h2:Q8 v s r=M;(·rw[if_pos h2];exact .inl (Uc v s _ rfl));·rw[if_neg h2];by_cases h3:r.kind=1;(·rw[if_pos h3];exact .inl ⟨⟨rfl,rfl,rfl,rfl,rfl,rfl⟩,⟨_,rfl,rfl⟩,fun _ hj=>Zk _ _ hj,fun _ hj=>Zk _ _ hj⟩);·rw[if_neg h3];by_cases h4:r.kind=7;(·rw[if_pos h4];exact .inl (jC v s _ rfl));·rw[if_neg h4];by_cases h5:Ya (v.synced:Int) (v.txns s).start=N;(·rw[if_pos h5];exact .inl (jC v s _ rfl));·rw[if_neg h5];by_cases h6:r.kind=6;(·rw[if_pos h6];rcases IV D v s with h|h;(·exact .inl h);·exact .inr ⟨h6,by simpa using h2,h⟩);·rw[if_neg h6];exact .inl (Ot v s r)
theorem iE(D:List UInt8->List UInt8)(v:Sv)(s:Nat)(d:List UInt8):fP s v (V6 D v s d)∨(v.up=M∧XG d=0∧(JY d).kind=6∧v.waits s=N∧v.begun s=M∧OZ D s v (V6 D v s d)):=by
 unfold V6;by_cases h1:v.up=N;·rw[if_pos h1];exact .inl (Uc v s _ rfl)
 ·rw[if_neg h1];by_cases h2:XG d=0;(·rw[if_pos h2];rcases iG D v s (JY d)with h|⟨h3,h4,h5⟩;(·exact .inl h);·right;unfold Q8 at h4;rw[if_neg (by omega)]at h4;simp only[rN,Bool.not_eq_false']at h4;exact⟨by simpa using h1,h2,h3,h4.1,h4.2,h5⟩);·rw[if_neg h2];exact .inl (Uc v s _ rfl)
theorem Fb:∀(q:List Nat)(n:Nat),(Uw n q).length=q.length|[],_=>rfl|_::q,n=>by rw[Uw,sD,sD,Fb q]
structure Gr where
  kind : Int
  sess : Int
  name : Int
  key : Int
  value : Int
def CU:Gr:=⟨0,0,0,0,0⟩
def Ju(n:Int)(many:Nat):Nat:=if n<0then((-(n+1))%(many:Int)).toNat else(n%(many:Int)).toNat
theorem VT(n:Int){many:Nat}(h:0<many):Ju n many<many:=by
 unfold Ju;split;·have b0:=oC (-(n+1)) (show(many:Int)≠0 by omega);have b1:=pO (-(n+1)) (show(0:Int)<many by omega);omega
 ·have b0:=oC n (show(many:Int)≠0 by omega);have b1:=pO n (show(0:Int)<many by omega);omega
def NY(n:Int):List UInt8:=[sY (97+Ju n 3)]
def WY(n:Int):List UInt8:=[sY (107+Ju n 5)]
def iM(n:Int):List UInt8:=[sY (Ju n 50)]
def Es(k:Nat)(a b c d:List UInt8):Rq:=if k<4then⟨1,[],[],[],[]⟩else if k<7then⟨2,a,b,[],[]⟩else if k=7then⟨3,a,b,c,[]⟩else if k<12then⟨4,a,b,[],d⟩else if k=12then⟨5,a,b,[],[]⟩else if k<17then⟨6,[],[],[],[]⟩else if k=17then⟨7,[],[],[],[]⟩else⟨8,a,b,[],[]⟩
def i9(g:Gr):Rq:=Es (Ju g.kind 20) (NY g.name) (WY g.key) (WY g.value) (iM g.value)
theorem gD{r:Rq}(h:Kc r):yF r=Je r:=by
 rw[yF,if_pos ((Vv r).2 h)]
structure Gj (l : FL) : Prop where
  many : l.length * 48 <= 140737488355328
  each : ∀ i, i < l.length -> (l.getD i ([], [])).1.length <= 140737488355328 ∧ uI (l.getD i ([], [])).2
theorem Gj.len{l:FL}(h:Gj l):l.length<=140737488355328:=by
 have:=h.many;omega
theorem Zf.fits{l:FL}(h:Zf l):Gj l:=by
 refine⟨by have:=h.room;omega,fun i hi=>?_⟩;have:=h.tens l[i] (sN hi);rw[show l[i]=l.getD i ([],[])by simp[hi]]at this;exact⟨by omega,this.2.2.fits⟩
def D5(w:F)(b o:Nat)(t:Tn):Prop:=∃vn vp,w.cell? ⟨b,o,G⟩=I vn∧w.cell? ⟨b,o+1,G⟩=I vp∧Qe w vn t.1∧Qp w vp t.2
theorem D5.grown{w w':F}{b o:Nat}{t:Tn}(h:D5 w b o t)(hg:L w w' G):D5 w' b o t:=by
 obtain⟨vn,vp,c1,c2,h1,h2⟩:=h;exact⟨vn,vp,hg.cell c1 (by simp),hg.cell c2 (by simp),h1.grown hg,h2.grown hg⟩
def ZS(w:F)(v:H)(l:FL):Prop:=∃a cap,v=J a l.length cap∧l.length<=cap∧((l=[]∧(a=G->cap=0))∨∃b o,a=I ⟨b,o,G⟩∧∀i,i<l.length->D5 w b (o+i*2) (l.getD i ([],[])))
theorem qT(w:F):ZS w (J G 0 0) []:=⟨G,0,rfl,tZ _,.inl ⟨rfl,fun _=>rfl⟩⟩
theorem ZS.grown{w w':F}{v:H}{l:FL}(h:ZS w v l)(hg:L w w' G):ZS w' v l:=by
 obtain⟨a,cap,rfl,hc,h⟩:=h;refine⟨a,cap,rfl,hc,?_⟩;rcases h with h|⟨b,o,rfl,h⟩;·exact .inl h
 ·exact .inr ⟨b,o,rfl,fun i hi=>(h i hi).grown hg⟩
theorem ZS.shape{w:F}{v:H}{l:FL}(h:ZS w v l):∃a cap,v=J a l.length cap:=by
 obtain⟨a,cap,rfl,_⟩:=h;exact⟨a,cap,rfl⟩
theorem ZS.at{w:F}{a:Option sX}{n cap:Nat}{l:FL}(h:ZS w (J a n cap) l)(i:Nat)(hi:i<l.length):∃b o,a=I ⟨b,o,G⟩∧D5 w b (o+i*2) (l.getD i ([],[])):=by
 obtain⟨a',cap',e,hc,h⟩:=h;simp only[tG]at e;obtain⟨rfl,rfl,rfl⟩:=e;rcases h with⟨rfl,_⟩|⟨b,o,rfl,h⟩;·simp at hi
 ·exact⟨b,o,rfl,h i hi⟩
theorem gL:(55:Nat)≠5:=by
 decide
theorem gH:(55:Nat)≠35:=by
 decide
def ZA(base:Nat)(w:F)(v:H)(l:FL):Prop:=∃vs:List (H×H),vs.length=l.length∧w.ownsRow base 55 2 v l.length (flat vs)∧∀i,i<l.length->Qf 0 w (vs.getD i (sJ,sJ)).1 (l.getD i ([],[])).1∧QK 0 w (vs.getD i (sJ,sJ)).2 (l.getD i ([],[])).2
theorem yQ(base:Nat)(w:F):ZA base w (J G 0 0) []:=⟨[],rfl,sL _ _ _ _,fun i hi=>by
 simp at hi⟩
theorem ZA.row{base:Nat}{w:F}{v:H}{l:FL}(h:ZA base w v l):v.ownBlock=G∨∃g cur t fz,v.ownBlock=I g∧base<=g∧w.heap[g]?=I (S cur t fz)∧t≠5∧t≠35:=by
 obtain⟨vs,_,h,_⟩:=h;rcases h.2with⟨rfl,_⟩|⟨g,cap,cur,rfl,hb,hg,_⟩;·exact .inl rfl
 ·exact .inr ⟨g,cur,_,_,rfl,hb,hg,gL,gH⟩
theorem ZA.row0{base:Nat}{w:F}{v:H}{l:FL}(h:ZA base w v l):v.ownBlock=G∨∃g cur t fz,v.ownBlock=I g∧0<=g∧w.heap[g]?=I (S cur t fz)∧t≠5∧t≠35:=by
 rcases h.row with h|⟨g,cur,t,fz,h1,_,h3⟩;·exact .inl h
 ·exact .inr ⟨g,cur,t,fz,h1,tR _,h3⟩
theorem lB{base:Nat}{w:F}{r:Option Nat}(h:r=G∨∃g cur t fz,r=I g∧base<=g∧w.heap[g]?=I (S cur t fz)∧t≠5∧t≠35):r=G∨∃g cur t fz,r=I g∧base<=g∧w.heap[g]?=I (S cur t fz)∧t≠5:=by
 rcases h with h|⟨g,cur,t,fz,h1,h2,h3,h4,_⟩;·exact .inl h
 ·exact .inr ⟨g,cur,t,fz,h1,h2,h3,h4⟩
theorem ZA.lt{base:Nat}{w:F}{v:H}{l:FL}(h:ZA base w v l):∀k,v.ownBlock=I k->base<=k∧k<w.heap.size:=by
 obtain⟨vs,_,h,_⟩:=h;exact sG h
theorem ZA.grownNone{base:Nat}{w w':F}{v:H}{l:FL}(h:ZA base w v l)(hg:L w w' G):ZA base w' v l:=by
 obtain⟨vs,h1,h2,h3⟩:=h;refine⟨vs,h1,tU h2 hg ?_,fun i hi=>⟨((h3 i hi).1).keptT hg (.inl rfl),((h3 i hi).2).kept hg (.inl rfl)⟩⟩;cases hv:v.ownBlock with|none=>exact .inl rfl|some k=>exact .inr (by simp)
theorem ZA.alloc{base:Nat}{w:F}{v:H}{l:FL}(h:ZA base w v l)(o:Obj):ZA base (w.alloc o) v l:=h.grownNone (sV _ _ _)
theorem ZA.shape{base:Nat}{w:F}{v:H}{l:FL}(h:ZA base w v l):∃a cap,v=J a l.length cap:=by
 obtain⟨vs,_,h,_⟩:=h;rcases h.2with⟨rfl,h0⟩|⟨g,cap,cur,rfl,_⟩;·exact⟨G,0,by rw[h0]⟩
 ·exact⟨_,cap,rfl⟩
theorem ZA.cells{base:Nat}{w:F}{g n cap:Nat}{vs:List (H×H)}{l:FL}(hr:w.ownsRow base 55 2 (J (I ⟨g,0,G⟩) n cap) l.length (flat vs)):∀j u,(flat vs)[j]?=I u->w.cell? ⟨g,j,G⟩=I u:=by
 intro j u hj;rcases hr.2with⟨e,_⟩|⟨g',cap',cur,e,hb,hg,hn,hm,hs,ht⟩;·cases e
 ·simp only[tG,tA,rG]at e;obtain⟨⟨rfl,_⟩,_,_⟩:=e;(have hlt:j<l.length*2:=by have:=(sI.1 hj).1;rw[hr.1]at this;exact this);(have e2:(cur.toList.take (l.length*2))[j]?=(flat vs)[j]?:=by rw[ht]);rw[sC,if_pos hlt,hj]at e2;simp[tS,hg];simpa using e2
theorem ZA.list{base:Nat}{w:F}{v:H}{l:FL}(h:ZA base w v l):ZS w v l:=by
 obtain⟨vs,hl,hr,h3⟩:=h;have hr':=hr;rcases hr.2with⟨rfl,h0⟩|⟨g,cap,cur,rfl,hb,hg,hn,hm,hs,ht⟩;·have:l=[]:=tJ h0;subst this;exact qT w
 ·refine⟨_,cap,rfl,hn,.inr ⟨g,0,rfl,fun i hi=>?_⟩⟩;have hf:=xU vs i (by omega);refine⟨(vs.getD i (sJ,sJ)).1,(vs.getD i (sJ,sJ)).2,?_,?_,(h3 i hi).1.1,(h3 i hi).2.list⟩;(·have:=ZA.cells hr' _ _ hf.1;rw[sM];exact this);·have:=ZA.cells hr' _ _ hf.2;rw[sM];exact this
theorem T5{base:Nat}{w W w1:F}{v:H}{l:FL}(h:L w W G)(ho:ZA base W v l)(hb:w.heap.size<=base)(hg:L W w1 v.ownBlock):L w w1 G:=⟨hg.os.trans h.os,hg.tape.trans h.tape,hg.output.trans h.output,tN h.size hg.size,fun i hi hn=>(hg.block i (tH hi h.size) (fun e=>by
 have:=(ho.lt i e.symm).1;omega)).trans (h.block i hi hn)⟩
theorem Tc:(O.info? 55).map (fun i=>(i.zero,i.size,i.bytes))=I (I (sR #[J G 0 0,J G 0 0]),2,48):=by
 kernel_rfl
theorem kG{w:F}{o:rM}{a:Act}{K:Act->F->Prop}{Q:Exit->Act->F->Prop}(s x:rH)(ho:o.op=.call {callee:=.builtin .append,args:=#[s,x],argTypes:=#[44,44]})(base:Nat)(v:H)(l:FL)(hs:a.eval s=v)(hown:ZA base w v l)(vn vp:H)(t:Tn)(hk:Qf 0 w vn t.1)(hv:QK 0 w vp t.2)(nb:Nat)(hb:w.heap[nb]?=I (S #[vn,vp] 55))(hx:a.eval x=J (I ⟨nb,0,G⟩) 1 1)(hl:(l.length+1)*48<=140737488355328)(hbase:base<=w.heap.size)(h:∀v' w',ZA base w' v' (l++[t])->L w w' v.ownBlock->K (a.put o.dst v') w'):o.wp O a w K Q:=by
 obtain⟨i0,hi,hz0,hz1,hz2⟩:=r7 Tc;have hrow:=hown.row0;obtain⟨vs,hvl,hr,hp⟩:=hown;refine wp_append_lies w s x 44 ho base 55 i0 (sR #[J G 0 0,J G 0 0]) 2 48 Tryz.underlying44 hi hz0 hz1 hz2 rfl (by decide) v l.length (flat vs) hs hr ⟨nb,0,G⟩ 1 1 (flat [(vn,vp)]) hx rfl (rB (cs:=#[vn,vp]) hb) ?_ (by omega) (by unfold r8;omega) hl hbase _ rfl ?_;·intro u hu;simp only[flat,tM,rJ,rO,tK,tQ,or_false]at hu;rcases hu with rfl|rfl;(·exact Zc hk);·exact yM hv
 ·intro g cap w' h1 h2 _ _;refine h _ w' ⟨vs++[(vn,vp)],by simp[hvl],?_,?_⟩ h2;(·rw[JU,tB];exact h1);·intro i hi;rw[Jh,Jh,hvl];by_cases hil:i<l.length;(·rw[if_pos hil,if_pos hil];exact⟨(hp i hil).1.keptT h2 (lB hrow),(hp i hil).2.kept h2 hrow⟩);·rw[if_neg hil,if_neg hil];(obtain rfl:i=l.length:=by simp at hi;omega);rw[oE];exact⟨hk.keptT h2 (lB hrow),hv.kept h2 hrow⟩
theorem F2{w:F}{ops:Array rM}{o:rM}{a:Act}{K:Act->F->Prop}{Q:Exit->Act->F->Prop}{E:Prop}(hgd:o.guard=G)(s x:rH)(ho:o.op=.call {callee:=.builtin .append,args:=#[s,x],argTypes:=#[44,44]})(base:Nat)(v:H)(l:FL)(hs:a.eval s=v)(hown:ZA base w v l)(vn vp:H)(t:Tn)(hk:Qf 0 w vn t.1)(hv:QK 0 w vp t.2)(nb:Nat)(hb:w.heap[nb]?=I (S #[vn,vp] 55))(hx:a.eval x=J (I ⟨nb,0,G⟩) 1 1)(hl:(l.length+1)*48<=140737488355328)(hbase:base<=w.heap.size)(h:∀v' w',ZA base w' v' (l++[t])->L w w' v.ownBlock->K (a.put o.dst v') w'):if sF o (pA ops a.tmps)=M then Oper.wp O o a w K Q else E:=by
 have hw:sF o (pA ops a.tmps)=M:=by simp[sF,hgd]
 rw[if_pos hw];exact kG s x ho base v l hs hown vn vp t hk hv nb hb hx hl hbase h
theorem uU{w:F}{ops:Array rM}{rest:List rM}{o:rM}{a:Act}{Q:Exit->Act->F->Prop}(hgd:o.guard=G)(s x:rH)(ho:o.op=.call {callee:=.builtin .append,args:=#[s,x],argTypes:=#[44,44]})(base:Nat)(v:H)(l:FL)(hs:a.eval s=v)(hown:ZA base w v l)(vn vp:H)(t:Tn)(hk:Qf 0 w vn t.1)(hv:QK 0 w vp t.2)(nb:Nat)(hb:w.heap[nb]?=I (S #[vn,vp] 55))(hx:a.eval x=J (I ⟨nb,0,G⟩) 1 1)(hl:(l.length+1)*48<=140737488355328)(hbase:base<=w.heap.size)(h:∀v' w',ZA base w' v' (l++[t])->L w w' v.ownBlock->wpList O ops Q rest (a.put o.dst v') w'):wpList O ops Q (o::rest) a w:=wpList_plain hgd fun _ hK=>kG s x ho base v l hs hown vn vp t hk hv nb hb hx hl hbase fun v' w' h1 h2=>hK _ _ (h v' w' h1 h2)
theorem Qh{w:F}{b i:Nat}{cs:Array H}{t:tX}{fz:Nat×Nat}{u:H}(h:w.heap[b]?=I (S cs t fz)):(tD w ⟨b,i,G⟩ u).heap[b]?=I (S (cs.setIfInBounds i u) t fz):=by
 simp only[tD,tV,if_true,h,rK];rfl
theorem Qv{w:F}{b c i:Nat}{o:Obj}{u:H}(h:w.heap[b]?=I o)(hne:b≠c):(tD w ⟨c,i,G⟩ u).heap[b]?=I o:=by
 simp only[tD,tV];rw[if_neg (fun e=>hne e.symm)];exact h
theorem YH(w:F)(b i:Nat)(u:H):L w (tD w ⟨b,i,G⟩ u) (I b):=Qg (Qb w _) i u
theorem Qf.setOther{base:Nat}{w:F}{v:H}{bs:List UInt8}(h:Qf base w v bs){b i:Nat}{cs:Array H}{t:tX}{fz:Nat×Nat}(hb:w.heap[b]?=I (S cs t fz))(ht:t≠5)(hbb:base<=b)(u:H):Qf base (tD w ⟨b,i,G⟩ u) v bs:=h.keptT (YH w b i u) (.inr ⟨b,cs,t,fz,rfl,hbb,hb,ht⟩)
def Q4(rb pb:Nat)(w:F)(v:H)(l:List Q9):Prop:=∃us:List WV,us.map (·.1)=l∧w.ownsRow rb 118 4 v l.length (Y0 us)∧∀x∈us,Qf pb w x.2.1 x.1.name∧Qf pb w x.2.2.1 x.1.key∧Qf pb w x.2.2.2 x.1.value
theorem Xw(rb pb:Nat)(w:F):Q4 rb pb w (J G 0 0) []:=⟨[],rfl,sL _ _ _ _,fun x hx=>by
 simp at hx⟩
theorem Q4.row{rb pb:Nat}{w:F}{v:H}{l:List Q9}(h:Q4 rb pb w v l):v.ownBlock=G∨∃g cur fz,v.ownBlock=I g∧rb<=g∧w.heap[g]?=I (S cur 118 fz):=by
 obtain⟨us,_,h,_⟩:=h;rcases h.2with⟨rfl,_⟩|⟨g,cap,cur,rfl,hb,hg,_⟩;·exact .inl rfl
 ·exact .inr ⟨g,cur,_,rfl,hb,hg⟩
theorem Q4.lt{rb pb:Nat}{w:F}{v:H}{l:List Q9}(h:Q4 rb pb w v l):∀k,v.ownBlock=I k->rb<=k∧k<w.heap.size:=by
 obtain⟨us,_,h,_⟩:=h;exact sG h
theorem Q4.ne{rb pb:Nat}{w:F}{v:H}{l:List Q9}(h:Q4 rb pb w v l){b:Nat}{cs:Array H}{t:tX}{fz:Nat×Nat}(hb:w.heap[b]?=I (S cs t fz))(ht:t≠118):v.ownBlock≠I b:=by
 intro e;rcases h.row with h0|⟨g,cur,fz2,h1,_,h2⟩;·rw[h0]at e;cases e
 ·rw[h1]at e;cases e;rw[hb]at h2;simp only[tA,tW]at h2;exact ht h2.2.1
theorem Q4.kept{rb pb:Nat}{w w':F}{v:H}{l:List Q9}(h:Q4 rb pb w v l){row:Option Nat}(hg:L w w' row)(hne:v.ownBlock=G∨v.ownBlock≠row)(hrow:row=G∨∃g cur t fz,row=I g∧pb<=g∧w.heap[g]?=I (S cur t fz)∧t≠5):Q4 rb pb w' v l:=by
 obtain⟨us,h1,h2,h3⟩:=h;exact⟨us,h1,tU h2 hg hne,fun x hx=>⟨(h3 x hx).1.keptT hg hrow,(h3 x hx).2.1.keptT hg hrow,(h3 x hx).2.2.keptT hg hrow⟩⟩
theorem Q4.grownNone{rb pb:Nat}{w w':F}{v:H}{l:List Q9}(h:Q4 rb pb w v l)(hg:L w w' G):Q4 rb pb w' v l:=h.kept hg (by
 cases hv:v.ownBlock with|none=>exact .inl rfl|some k=>exact .inr (by simp)) (.inl rfl)
theorem Q4.setOther{rb pb:Nat}{w:F}{v:H}{l:List Q9}(h:Q4 rb pb w v l){b i:Nat}{cs:Array H}{t:tX}{fz:Nat×Nat}(hb:w.heap[b]?=I (S cs t fz))(ht:t≠5)(ht2:t≠118)(hbb:pb<=b)(u:H):Q4 rb pb (tD w ⟨b,i,G⟩ u) v l:=h.kept (YH w b i u) (.inr (h.ne hb ht2)) (.inr ⟨b,cs,t,fz,rfl,hbb,hb,ht⟩)
theorem Q4.shape{rb pb:Nat}{w:F}{v:H}{l:List Q9}(h:Q4 rb pb w v l):∃a cap,v=J a l.length cap:=by
 obtain⟨us,_,h,_⟩:=h;rcases h.2with⟨rfl,h0⟩|⟨g,cap,cur,rfl,_⟩;·exact⟨G,0,by rw[h0]⟩
 ·exact⟨_,cap,rfl⟩
theorem Q4.any{rb pb:Nat}{w:F}{v:H}{l:List Q9}(h:Q4 rb pb w v l):∃a n cap,v=J a n cap:=by
 obtain⟨a,cap,e⟩:=h.shape;exact⟨a,_,cap,e⟩
theorem Q4.down{rb pb:Nat}{w:F}{v:H}{l:List Q9}(h:Q4 rb pb w v l)(rb':Nat)(hb:rb'<=rb):Q4 rb' pb w v l:=by
 obtain⟨us,h1,h2,h3⟩:=h;refine⟨us,h1,⟨h2.1,?_⟩,h3⟩;rcases h2.2with h|⟨g,cap,cur,e,hb2,rest⟩;·exact .inl h
 ·exact .inr ⟨g,cap,cur,e,tN hb hb2,rest⟩
theorem Q4.writesB{rb pb:Nat}{w:F}{v:H}{l:List Q9}(h:Q4 rb pb w v l):Xr pb w v l:=by
 obtain⟨us,hl,hr,h3⟩:=h;rcases hr.2with⟨rfl,h0⟩|⟨g,cap,cur,rfl,hb,hg,hn,hm,hs,ht⟩;·have:l=[]:=tJ h0;rw[this];exact Cg pb w
 ·(have hcell:∀j u,(Y0 us)[j]?=I u->w.cell? ⟨g,j,G⟩=I u:=by intro j u hj;(have hlt:j<l.length*4:=by have:=(sI.1 hj).1;rw[hr.1]at this;exact this);(have e2:(cur.toList.take (l.length*4))[j]?=(Y0 us)[j]?:=by rw[ht]);rw[sC,if_pos hlt,hj]at e2;simp[tS,hg];simpa using e2);refine⟨_,cap,rfl,hn,.inr ⟨g,0,rfl,.inr ⟨_,_,hg⟩,fun i hi=>?_⟩⟩;obtain⟨e1,e2⟩:=Wq hl i hi;(have hlen:us.length=l.length:=by rw[<-hl];simp);obtain⟨c1,c2,c3,c4⟩:=Mg us i (by omega);have hp:=h3 _ e2;rw[e1]at c3 hp;rw[sM];exact⟨_,_,_,hcell _ _ c1,hcell _ _ c2,hcell _ _ c3,hcell _ _ c4,hp.1,hp.2.1,hp.2.2⟩
theorem Q4.list{rb pb:Nat}{w:F}{v:H}{l:List Q9}(h:Q4 rb pb w v l):QN w v l:=h.writesB.list
theorem V4{rb pb:Nat}{w W w1:F}{v:H}{l:List Q9}(h:L w W G)(ho:Q4 rb pb W v l)(hb:w.heap.size<=rb)(hg:L W w1 v.ownBlock):L w w1 G:=⟨hg.os.trans h.os,hg.tape.trans h.tape,hg.output.trans h.output,tN h.size hg.size,fun i hi hn=>(hg.block i (tH hi h.size) (fun e=>by
 have:=(ho.lt i e.symm).1;omega)).trans (h.block i hi hn)⟩
def RG(w:F)(b o:Nat)(r:Rd):Prop:=∃vn vk vl,w.cell? ⟨b,o,G⟩=I vn∧w.cell? ⟨b,o+1,G⟩=I vk∧w.cell? ⟨b,o+2,G⟩=I (tL r.wide)∧w.cell? ⟨b,o+3,G⟩=I vl∧Qe w vn r.name∧Qe w vk r.key∧Qe w vl r.last
theorem RG.grown{w w':F}{b o:Nat}{r:Rd}(h:RG w b o r)(hg:L w w' G):RG w' b o r:=by
 obtain⟨vn,vk,vl,c1,c2,c3,c4,h1,h2,h3⟩:=h;exact⟨vn,vk,vl,hg.cell c1 (by simp),hg.cell c2 (by simp),hg.cell c3 (by simp),hg.cell c4 (by simp),h1.grown hg,h2.grown hg,h3.grown hg⟩
def Xa(w:F)(v:H)(l:List Rd):Prop:=∃a cap,v=J a l.length cap∧l.length<=cap∧((l=[]∧(a=G->cap=0))∨∃b o,a=I ⟨b,o,G⟩∧∀i,i<l.length->RG w b (o+i*4) (l.getD i Ze))
theorem Bj(w:F):Xa w (J G 0 0) []:=⟨G,0,rfl,tZ _,.inl ⟨rfl,fun _=>rfl⟩⟩
theorem Xa.shape{w:F}{v:H}{l:List Rd}(h:Xa w v l):∃a cap,v=J a l.length cap:=by
 obtain⟨a,cap,rfl,_⟩:=h;exact⟨a,cap,rfl⟩
theorem Xa.grown{w w':F}{v:H}{l:List Rd}(h:Xa w v l)(hg:L w w' G):Xa w' v l:=by
 obtain⟨a,cap,rfl,hc,h⟩:=h;refine⟨a,cap,rfl,hc,?_⟩;rcases h with h|⟨b,o,rfl,h⟩;·exact .inl h
 ·exact .inr ⟨b,o,rfl,fun i hi=>(h i hi).grown hg⟩
theorem Xa.at{w:F}{a:Option sX}{n cap:Nat}{l:List Rd}(h:Xa w (J a n cap) l)(i:Nat)(hi:i<l.length):∃b o,a=I ⟨b,o,G⟩∧RG w b (o+i*4) (l.getD i Ze):=by
 obtain⟨a',cap',e,hc,h⟩:=h;simp only[tG]at e;obtain⟨rfl,rfl,rfl⟩:=e;rcases h with⟨rfl,_⟩|⟨b,o,rfl,h⟩;·simp at hi
 ·exact⟨b,o,rfl,h i hi⟩
structure mC (l : List Rd) : Prop where
  many : l.length * 80 <= 140737488355328
  each : ∀ i, i < l.length -> P8 (l.getD i Ze)
structure xO (t : Tx) : Prop where
  start : -9223372036854775808 <= t.start ∧ t.start <= 9223372036854775807
  reads : mC t.reads
  writes : uL t.writes
def G0(w:F)(v:H)(t:Tx):Prop:=∃vr vw,v=sR #[Y tC t.start,vr,vw]∧Xa w vr t.reads∧QN w vw t.writes
theorem G0.grown{w w':F}{v:H}{t:Tx}(h:G0 w v t)(hg:L w w' G):G0 w' v t:=by
 obtain⟨vr,vw,rfl,h1,h2⟩:=h;exact⟨vr,vw,rfl,h1.grown hg,h2.grown hg⟩
theorem G0.agg{w:F}{v:H}{t:Tx}(h:G0 w v t):∃ra rc wa wc,v=sR #[Y tC t.start,J ra t.reads.length rc,J wa t.writes.length wc]:=by
 obtain⟨vr,vw,rfl,h1,h2⟩:=h;obtain⟨ra,rc,rfl⟩:=h1.shape;obtain⟨wa,wc,rfl⟩:=h2.shape;exact⟨ra,rc,wa,wc,rfl⟩
theorem G0.parts{w:F}{t:Tx}{x y z:H}(h:G0 w (sR #[x,y,z]) t):x=Y tC t.start∧Xa w y t.reads∧QN w z t.writes:=by
 obtain⟨vr,vw,e,h1,h2⟩:=h;simp only[Value.agg.injEq,Array.mk.injEq,List.cons.injEq,and_true]at e;obtain⟨rfl,rfl,rfl⟩:=e;exact⟨rfl,h1,h2⟩
theorem PJ{r:Rd}(h:XF r=0):P8 r:=by
 obtain⟨h1,h2,h3⟩:=(EP r).1 h;refine⟨by omega,by omega,?_⟩;split at h3;·omega
 ·rw[h3];simp
abbrev RV:=Rd×H×H×H
def BZ:RV:=(Ze,sJ,sJ,sJ)
def Gs(us:List RV):List H:=us.flatMap fun x=>[x.2.1,x.2.2.1,tL x.1.wide,x.2.2.2]
theorem Mv(a b:List RV):Gs (a++b)=Gs a++Gs b:=by
 simp[Gs]
theorem Nt:∀(us:List RV)(i:Nat),i<us.length->(Gs us)[i*4]?=I (us.getD i BZ).2.1∧(Gs us)[i*4+1]?=I (us.getD i BZ).2.2.1∧(Gs us)[i*4+2]?=I (tL (us.getD i BZ).1.wide)∧(Gs us)[i*4+3]?=I (us.getD i BZ).2.2.2|[],i,h=>by simp at h|x::us,0,_=>⟨rfl,rfl,rfl,rfl⟩|x::us,i+1,h=>by have:=Nt us i (by simpa using h);rw[show(i+1)*4=i*4+4by omega];exact this
theorem lI:(137:Nat)≠5:=by
 decide
theorem lX:(137:Nat)≠118:=by
 decide
def ZN(rb pb:Nat)(w:F)(v:H)(l:List Rd):Prop:=∃us:List RV,us.map (·.1)=l∧w.ownsRow rb 137 4 v l.length (Gs us)∧∀x∈us,Qf pb w x.2.1 x.1.name∧Qf pb w x.2.2.1 x.1.key∧Qf pb w x.2.2.2 x.1.last
theorem Um(rb pb:Nat)(w:F):ZN rb pb w (J G 0 0) []:=⟨[],rfl,sL _ _ _ _,fun x hx=>by
 simp at hx⟩
theorem ZN.row{rb pb:Nat}{w:F}{v:H}{l:List Rd}(h:ZN rb pb w v l):v.ownBlock=G∨∃g cur fz,v.ownBlock=I g∧rb<=g∧w.heap[g]?=I (S cur 137 fz):=by
 obtain⟨us,_,h,_⟩:=h;rcases h.2with⟨rfl,_⟩|⟨g,cap,cur,rfl,hb,hg,_⟩;·exact .inl rfl
 ·exact .inr ⟨g,cur,_,rfl,hb,hg⟩
theorem ZN.lt{rb pb:Nat}{w:F}{v:H}{l:List Rd}(h:ZN rb pb w v l):∀k,v.ownBlock=I k->rb<=k∧k<w.heap.size:=by
 obtain⟨us,_,h,_⟩:=h;exact sG h
theorem ZN.ne{rb pb:Nat}{w:F}{v:H}{l:List Rd}(h:ZN rb pb w v l){b:Nat}{cs:Array H}{t:tX}{fz:Nat×Nat}(hb:w.heap[b]?=I (S cs t fz))(ht:t≠137):v.ownBlock≠I b:=by
 intro e;rcases h.row with h0|⟨g,cur,fz2,h1,_,h2⟩;·rw[h0]at e;cases e
 ·rw[h1]at e;cases e;rw[hb]at h2;simp only[tA,tW]at h2;exact ht h2.2.1
theorem ZN.kept{rb pb:Nat}{w w':F}{v:H}{l:List Rd}(h:ZN rb pb w v l){row:Option Nat}(hg:L w w' row)(hne:v.ownBlock=G∨v.ownBlock≠row)(hrow:row=G∨∃g cur t fz,row=I g∧pb<=g∧w.heap[g]?=I (S cur t fz)∧t≠5):ZN rb pb w' v l:=by
 obtain⟨us,h1,h2,h3⟩:=h;exact⟨us,h1,tU h2 hg hne,fun x hx=>⟨(h3 x hx).1.keptT hg hrow,(h3 x hx).2.1.keptT hg hrow,(h3 x hx).2.2.keptT hg hrow⟩⟩
theorem ZN.grownNone{rb pb:Nat}{w w':F}{v:H}{l:List Rd}(h:ZN rb pb w v l)(hg:L w w' G):ZN rb pb w' v l:=h.kept hg (by
 cases hv:v.ownBlock with|none=>exact .inl rfl|some k=>exact .inr (by simp)) (.inl rfl)
theorem ZN.setOther{rb pb:Nat}{w:F}{v:H}{l:List Rd}(h:ZN rb pb w v l){b i:Nat}{cs:Array H}{t:tX}{fz:Nat×Nat}(hb:w.heap[b]?=I (S cs t fz))(ht:t≠5)(ht2:t≠137)(hbb:pb<=b)(u:H):ZN rb pb (tD w ⟨b,i,G⟩ u) v l:=h.kept (YH w b i u) (.inr (h.ne hb ht2)) (.inr ⟨b,cs,t,fz,rfl,hbb,hb,ht⟩)
theorem ZN.down{rb pb:Nat}{w:F}{v:H}{l:List Rd}(h:ZN rb pb w v l)(rb':Nat)(hb:rb'<=rb):ZN rb' pb w v l:=by
 obtain⟨us,h1,h2,h3⟩:=h;refine⟨us,h1,⟨h2.1,?_⟩,h3⟩;rcases h2.2with h|⟨g,cap,cur,e,hb2,rest⟩;·exact .inl h
 ·exact .inr ⟨g,cap,cur,e,tN hb hb2,rest⟩
theorem ZN.shape{rb pb:Nat}{w:F}{v:H}{l:List Rd}(h:ZN rb pb w v l):∃a cap,v=J a l.length cap:=by
 obtain⟨us,_,h,_⟩:=h;rcases h.2with⟨rfl,h0⟩|⟨g,cap,cur,rfl,_⟩;·exact⟨G,0,by rw[h0]⟩
 ·exact⟨_,cap,rfl⟩
theorem Iw{us:List RV}{l:List Rd}(h:us.map (·.1)=l)(i:Nat)(hi:i<l.length):(us.getD i BZ).1=l.getD i Ze∧us.getD i BZ∈us:=by
 subst h;have hi':i<us.length:=by simpa using hi
 refine⟨by simp[hi'],?_⟩;rw[show us.getD i BZ=us[i]by simp[hi']];exact sN hi'
theorem ZN.list{rb pb:Nat}{w:F}{v:H}{l:List Rd}(h:ZN rb pb w v l):Xa w v l:=by
 obtain⟨us,hl,hr,h3⟩:=h;rcases hr.2with⟨rfl,h0⟩|⟨g,cap,cur,rfl,hb,hg,hn,hm,hs,ht⟩;·have:l=[]:=tJ h0;rw[this];exact Bj w
 ·(have hcell:∀j u,(Gs us)[j]?=I u->w.cell? ⟨g,j,G⟩=I u:=by intro j u hj;(have hlt:j<l.length*4:=by have:=(sI.1 hj).1;rw[hr.1]at this;exact this);(have e2:(cur.toList.take (l.length*4))[j]?=(Gs us)[j]?:=by rw[ht]);rw[sC,if_pos hlt,hj]at e2;simp[tS,hg];simpa using e2);refine⟨_,cap,rfl,hn,.inr ⟨g,0,rfl,fun i hi=>?_⟩⟩;obtain⟨e1,e2⟩:=Iw hl i hi;(have hlen:us.length=l.length:=by rw[<-hl];simp);obtain⟨c1,c2,c3,c4⟩:=Nt us i (by omega);have hp:=h3 _ e2;rw[e1]at c3 hp;rw[sM];exact⟨_,_,_,hcell _ _ c1,hcell _ _ c2,hcell _ _ c3,hcell _ _ c4,hp.1.1,hp.2.1.1,hp.2.2.1⟩
theorem TU{rb pb:Nat}{w W w1:F}{v:H}{l:List Rd}(h:L w W G)(ho:ZN rb pb W v l)(hb:w.heap.size<=rb)(hg:L W w1 v.ownBlock):L w w1 G:=⟨hg.os.trans h.os,hg.tape.trans h.tape,hg.output.trans h.output,tN h.size hg.size,fun i hi hn=>(hg.block i (tH hi h.size) (fun e=>by
 have:=(ho.lt i e.symm).1;omega)).trans (h.block i hi hn)⟩
theorem lG:(O.info? 137).map (fun i=>(i.zero,i.size,i.bytes))=I (I (sR #[J G 0 0,J G 0 0,tL N,J G 0 0]),4,80):=by
 kernel_rfl
def GU(w:F)(v:H)(t:Tx):Prop:=∃vr vw,v=sR #[Y tC t.start,vr,vw]∧ZN 0 0 w vr t.reads∧Q4 0 0 w vw t.writes
theorem GU.is{w:F}{v:H}{t:Tx}(h:GU w v t):G0 w v t:=by
 obtain⟨vr,vw,rfl,h1,h2⟩:=h;exact⟨vr,vw,rfl,h1.list,h2.list⟩
theorem xM(w:F):GU w (sR #[Y tC 0,J G 0 0,J G 0 0]) FQ:=⟨_,_,rfl,Um 0 0 w,Xw 0 0 w⟩
def Da(w:F)(b o:Nat)(s:uD):Prop:=∃vo,w.cell? ⟨b,o,G⟩=I (Y tC s.bit)∧w.cell? ⟨b,o+1,G⟩=I (tL s.right)∧w.cell? ⟨b,o+2,G⟩=I vo∧Qe w vo s.other
theorem Da.grown{w w':F}{b o:Nat}{s:uD}(h:Da w b o s)(hg:L w w' G):Da w' b o s:=by
 obtain⟨vo,c1,c2,c3,h1⟩:=h;exact⟨vo,hg.cell c1 (by simp),hg.cell c2 (by simp),hg.cell c3 (by simp),h1.grown hg⟩
def Gm(w:F)(v:H)(l:List uD):Prop:=∃a cap,v=J a l.length cap∧l.length<=cap∧((l=[]∧(a=G->cap=0))∨∃b o,a=I ⟨b,o,G⟩∧∀i,i<l.length->Da w b (o+i*3) (l.getD i LA))
theorem Bc(w:F):Gm w (J G 0 0) []:=⟨G,0,rfl,tZ _,.inl ⟨rfl,fun _=>rfl⟩⟩
theorem Gm.grown{w w':F}{v:H}{l:List uD}(h:Gm w v l)(hg:L w w' G):Gm w' v l:=by
 obtain⟨a,cap,rfl,hc,h⟩:=h;refine⟨a,cap,rfl,hc,?_⟩;rcases h with h|⟨b,o,rfl,h⟩;·exact .inl h
 ·exact .inr ⟨b,o,rfl,fun i hi=>(h i hi).grown hg⟩
theorem Gm.shape{w:F}{v:H}{l:List uD}(h:Gm w v l):∃a cap,v=J a l.length cap:=by
 obtain⟨a,cap,rfl,_⟩:=h;exact⟨a,cap,rfl⟩
def KG(w:F)(v:H)(p:Cj):Prop:=∃vs vk vv,v=sR #[tL p.empty,vs,vk,vv]∧Gm w vs p.steps∧Qe w vk p.pair.1∧Qe w vv p.pair.2
theorem KG.grown{w w':F}{v:H}{p:Cj}(h:KG w v p)(hg:L w w' G):KG w' v p:=by
 obtain⟨vs,vk,vv,rfl,h0,h1,h2⟩:=h;exact⟨vs,vk,vv,rfl,h0.grown hg,h1.grown hg,h2.grown hg⟩
theorem UA{w:F}{b:Nat}{x y:H}{t:tX}(h:w.heap[b]?=I (S #[x,y] t)):w.cell? ⟨b,0,G⟩=I x∧w.cell? ⟨b,1,G⟩=I y∧w.frozen? ⟨b,0,G⟩=N∧w.frozen? ⟨b,1,G⟩=N:=by
 refine⟨?_,?_,?_,?_⟩<;>simp[tS,rV,h]
theorem dO{w:F}{b:Nat}{x y:H}{t:tX}(h:w.heap[b]?=I (S #[x,y] t))(u v:H):((tD w ⟨b,0,G⟩ u).setCell ⟨b,1,G⟩ v).heap[b]?=I (S #[u,v] t):=by
 have h0:(tD w ⟨b,0,G⟩ u).heap[b]?=I (S #[u,y] t):=by simp only[tD,tV,if_true,h,rK];first|rfl|simp
 rw[tD,tV,if_pos rfl,h0];first|rfl|simp
theorem Gh{w:F}{b:Nat}{x y z:H}{t:tX}(h:w.heap[b]?=I (S #[x,y,z] t)):(w.cell? ⟨b,0,G⟩=I x∧w.cell? ⟨b,1,G⟩=I y∧w.cell? ⟨b,2,G⟩=I z)∧w.frozen? ⟨b,0,G⟩=N∧w.frozen? ⟨b,1,G⟩=N∧w.frozen? ⟨b,2,G⟩=N:=by
 refine⟨⟨?_,?_,?_⟩,?_,?_,?_⟩<;>simp[tS,rV,h]
theorem Nh{w:F}{b:Nat}{x y z:H}{t:tX}(h:w.heap[b]?=I (S #[x,y,z] t))(x' y' z':H):(((tD w ⟨b,0,G⟩ x').setCell ⟨b,1,G⟩ y').setCell ⟨b,2,G⟩ z').heap[b]?=I (S #[x',y',z'] t):=by
 have h0:(tD w ⟨b,0,G⟩ x').heap[b]?=I (S #[x',y,z] t):=by simp only[tD,tV,if_true,h,rK];first|rfl|simp
 have h1:((tD w ⟨b,0,G⟩ x').setCell ⟨b,1,G⟩ y').heap[b]?=I (S #[x',y',z] t):=by rw[tD,tV,if_pos rfl,h0];first|rfl|simp
 rw[tD,tV,if_pos rfl,h1];first|rfl|simp
theorem Fo{w w1:F}(h:L w w1 G)(b:Nat)(hb:w.heap.size<=b)(x y z:H):L w (((tD w1 ⟨b,0,G⟩ x).setCell ⟨b,1,G⟩ y).setCell ⟨b,2,G⟩ z) G:=Qc (Qc (Qc h _ hb _ _) _ hb _ _) _ hb _ _
def iZ(w:F)(b:Nat):Prop:=∃cur t fz,w.heap[b]?=I (S cur t fz)∧(t=5∨∃q,cur[0]?=I (Y pJ q))
def jR(w:F)(b:Nat):Prop:=∃cur t fz,w.heap[b]?=I (S cur t fz)∧t≠5∧∀q,cur[0]?≠I (Y pJ q)
theorem iZ.ne{w:F}{a b:Nat}(h:iZ w a)(h':jR w b):a≠b:=by
 rintro rfl;obtain⟨cur,t,fz,h1,h2⟩:=h;obtain⟨cur',t',fz',h3,h4,h5⟩:=h';rw[h1]at h3;simp only[tA,tW]at h3;obtain⟨rfl,rfl,_⟩:=h3;rcases h2 with h2|⟨q,h2⟩;·exact h4 h2
 ·exact h5 q h2
theorem jR.grown{w w':F}{b:Nat}(h:jR w b)(hg:L w w' G):jR w' b:=by
 obtain⟨cur,t,fz,h1,h2⟩:=h;exact⟨cur,t,fz,by rw[hg.block b (tI.1 h1).1 (by simp)];exact h1,h2⟩
theorem jR.set{w:F}{c:Nat}(h:jR w c)(i:Nat)(u:H)(hu:∀q,u≠Y pJ q):jR (tD w ⟨c,i,G⟩ u) c:=by
 obtain⟨cur,t,fz,h1,h2,h3⟩:=h;refine⟨cur.setIfInBounds i u,t,fz,?_,h2,fun q hq=>?_⟩;·simp only[tD,tV,if_true,h1,rK];first|rfl|simp
 ·rw[Array.getElem?_setIfInBounds]at hq;split at hq;(·split at hq;(·simp at hq;exact hu q hq);·cases hq);·exact h3 q hq
theorem Dc{w:F}{c:Nat}{x:H}{xs:List H}{t:tX}{fz:Nat×Nat}(h:w.heap[c]?=I (S ⟨x::xs⟩ t fz))(ht:t≠5)(hx:∀q,x≠Y pJ q):jR w c:=⟨_,t,fz,h,ht,fun q hq=>by
 simp at hq;exact hx q hq⟩
def XX(w:F)(v:H)(bs:List UInt8):Prop:=Qe w v bs∧(bs=[]∨∃b,v.ownBlock=I b∧b<w.heap.size∧iZ w b)
theorem lP:(190:Nat)≠5:=by
 decide
theorem Ux(w:F):XX w (J G 0 0) []:=⟨QG _,.inl rfl⟩
theorem Q7.partS{base':Nat}{w:F}{v:H}{bs:List UInt8}(h:Q7 base' w v bs):XX w v bs:=by
 refine⟨h.slice,?_⟩;rcases h.2with⟨rfl,h0⟩|⟨g,cap,cur,rfl,hb,hg,_⟩;·exact .inl (tJ h0)
 ·exact .inr ⟨g,rfl,(tI.1 hg).1,cur,_,_,hg,.inl rfl⟩
theorem ZJ.partS{w:F}{nb:Nat}{bs:List UInt8}(h:ZJ w nb bs)(hl:bs.length=32):XX w (J (I ⟨nb,0,G⟩) 32 32) bs:=by
 refine⟨h.slice32 hl,.inr ⟨nb,rfl,VB (h.cell 0 (by omega)),?_⟩⟩;have hc:=h.cell 0 (by omega);obtain⟨t,hb⟩:=h;refine⟨_,t,_,hb,.inr ⟨((bs.getD 0 0).toNat:Int),?_⟩⟩;·simpa[tS,hb]using hc
theorem EH{w:F}{v:H}{bs:List UInt8}(h:XX w v bs):v.oneCell'=M:=by
 obtain⟨⟨a,cap,rfl,_⟩,_⟩:=h;rfl
def l5(w:F)(row:Option Nat):Prop:=row=G∨∃g,row=I g∧jR w g
theorem XX.kept{w w':F}{v:H}{bs:List UInt8}(h:XX w v bs){row:Option Nat}(hg:L w w' row)(hrow:l5 w row):XX w' v bs:=by
 obtain⟨hs,ho⟩:=h;rcases ho with rfl|⟨b,hb,hlt,hc⟩;·obtain⟨a,cap,rfl,hc,h⟩:=hs;refine⟨⟨a,cap,rfl,hc,?_⟩,.inl rfl⟩;rcases h with h|⟨b,o,rfl,h⟩;(·exact .inl h);·exact .inr ⟨b,o,rfl,fun i hi=>by simp at hi⟩
 ·(have hne:I b≠row:=by intro e;rcases hrow with rfl|⟨g,rfl,hg'⟩;(·cases e);·cases e;exact hc.ne hg' rfl);have hblk:=hg.block b hlt hne;refine⟨?_,.inr ⟨b,hb,tH hlt hg.size,?_⟩⟩;(·obtain⟨a,cap,rfl,hcp,h⟩:=hs;refine⟨a,cap,rfl,hcp,?_⟩;rcases h with h|⟨b',o,rfl,h⟩;(·exact .inl h);·refine .inr ⟨b',o,rfl,fun i hi=>?_⟩;simp[pF]at hb;subst hb;exact hg.cell (h i hi) (by simpa using hne));·obtain⟨cur,t,fz,hc,hc2⟩:=hc;exact⟨cur,t,fz,by rw[hblk];exact hc,hc2⟩
theorem XX.grown{w w':F}{v:H}{bs:List UInt8}(h:XX w v bs)(hg:L w w' G):XX w' v bs:=h.kept hg (.inl rfl)
theorem XX.set{w:F}{v:H}{bs:List UInt8}(h:XX w v bs){c:Nat}(hc:jR w c)(i:Nat)(u:H):XX (tD w ⟨c,i,G⟩ u) v bs:=h.kept (Qg (Qb _ (I c)) i u) (.inr ⟨c,rfl,hc⟩)
abbrev SV:=uD×H
def Wo:SV:=(LA,sJ)
def Ui(us:List SV):List H:=us.flatMap fun x=>[Y tC x.1.bit,tL x.1.right,x.2]
theorem Df(a b:List SV):Ui (a++b)=Ui a++Ui b:=by
 simp[Ui]
theorem Mn:∀(us:List SV)(i:Nat),i<us.length->(Ui us)[i*3]?=I (Y tC (us.getD i Wo).1.bit)∧(Ui us)[i*3+1]?=I (tL (us.getD i Wo).1.right)∧(Ui us)[i*3+2]?=I (us.getD i Wo).2|[],i,h=>by simp at h|x::r,0,_=>by simp[Ui]|x::r,i+1,h=>by have:=Mn r i (by simpa using h);rw[show(i+1)*3=i*3+3by omega,show i*3+3+1=(i*3+1)+3by omega,show i*3+3+2=(i*3+2)+3by omega];simpa[Ui]using this
theorem Wx(us:List SV):∀u∈Ui us,(∀x∈us,x.2.oneCell'=M)->u.oneCell'=M:=by
 intro u hu h;obtain⟨x,hx,hu⟩:=List.mem_flatMap.1 hu;simp only[tK,tQ,or_false]at hu;rcases hu with rfl|rfl|rfl;·rfl
 ·rfl
 ·exact h x hx
def JL(base:Nat)(w:F)(v:H)(l:List uD):Prop:=∃us:List SV,us.map (·.1)=l∧w.ownsRow base 190 3 v l.length (Ui us)∧(∀x∈us,XX w x.2 x.1.other)∧(l=[]->v=J G 0 0)
theorem uY(base:Nat)(w:F):JL base w (J G 0 0) []:=⟨[],rfl,sL _ _ _ _,fun x hx=>by
 simp at hx,fun _=>rfl⟩
theorem JL.row{base:Nat}{w:F}{v:H}{l:List uD}(h:JL base w v l):l5 w v.ownBlock:=by
 obtain⟨us,hm,h,_,h0⟩:=h;cases l with|nil=>rw[h0 rfl];exact .inl rfl|cons x r=>rcases h.2with⟨rfl,_⟩|⟨g,cap,cur,rfl,hb,hg,hn,_,_,ht⟩;(·exact .inl rfl);·refine .inr ⟨g,rfl,cur,_,_,hg,lP,fun q=>?_⟩;cases us with|nil=>simp at hm|cons u us=>simp only[List.map_cons,List.cons.injEq]at hm;(have e:(cur.toList.take ((x::r).length*3))[0]?=(Ui (u::us))[0]?:=by rw[ht]);rw[sC,if_pos (by simp)]at e;rw[<-rY,e];simp[Ui]
theorem JL.lt{base:Nat}{w:F}{v:H}{l:List uD}(h:JL base w v l):∀k,v.ownBlock=I k->base<=k∧k<w.heap.size:=by
 obtain⟨us,_,h,_⟩:=h;exact sG h
theorem JL.grownNone{base:Nat}{w w':F}{v:H}{l:List uD}(h:JL base w v l)(hg:L w w' G):JL base w' v l:=by
 obtain⟨us,h1,h2,h3,h4⟩:=h;refine⟨us,h1,tU h2 hg ?_,fun x hx=>(h3 x hx).grown hg,h4⟩;cases hv:v.ownBlock with|none=>exact .inl rfl|some k=>exact .inr (by simp)
theorem JL.alloc{base:Nat}{w:F}{v:H}{l:List uD}(h:JL base w v l)(o:Obj):JL base (w.alloc o) v l:=h.grownNone (sV _ _ _)
theorem JL.shape{base:Nat}{w:F}{v:H}{l:List uD}(h:JL base w v l):∃a cap,v=J a l.length cap:=by
 obtain⟨us,_,h,_⟩:=h;rcases h.2with⟨rfl,h0⟩|⟨g,cap,cur,rfl,_⟩;·exact⟨G,0,by rw[h0]⟩
 ·exact⟨_,cap,rfl⟩
theorem JL.cells{base:Nat}{w:F}{g n cap:Nat}{us:List SV}{k:Nat}(hr:w.ownsRow base 190 3 (J (I ⟨g,0,G⟩) n cap) k (Ui us)):∀j u,(Ui us)[j]?=I u->w.cell? ⟨g,j,G⟩=I u:=by
 intro j u hj;rcases hr.2with⟨e,_⟩|⟨g',cap',cur,e,hb,hg,hn,hm,hs,ht⟩;·cases e
 ·simp only[tG,tA,rG]at e;obtain⟨⟨rfl,_⟩,_,_⟩:=e;(have hlt:j<k*3:=by have:=(sI.1 hj).1;rw[hr.1]at this;exact this);(have e2:(cur.toList.take (k*3))[j]?=(Ui us)[j]?:=by rw[ht]);rw[sC,if_pos hlt,hj]at e2;simp[tS,hg];simpa using e2
theorem bE{us:List SV}{l:List uD}(h:us.map (·.1)=l)(i:Nat)(hi:i<l.length):(us.getD i Wo).1=l.getD i LA∧us.getD i Wo∈us:=by
 subst h;have hi':i<us.length:=by simpa using hi
 constructor;·simp[hi']
 ·rw[show us.getD i Wo=us[i]by simp[hi']];exact sN _
theorem JL.list{base:Nat}{w:F}{v:H}{l:List uD}(h:JL base w v l):Gm w v l:=by
 obtain⟨us,hl,hr,h3,_⟩:=h;have hul:us.length=l.length:=by rw[<-hl];simp
 rcases hr.2with⟨rfl,h0⟩|⟨g,cap,cur,rfl,hb,hg,hn,hm,hs,ht⟩;·have:l=[]:=tJ h0;subst this;exact Bc w
 ·refine⟨_,cap,rfl,hn,.inr ⟨g,0,rfl,fun i hi=>?_⟩⟩;obtain⟨e1,e2⟩:=bE hl i hi;obtain⟨c1,c2,c3⟩:=Mn us i (by omega);have hp:=h3 _ e2;rw[e1]at c1 c2 hp;rw[sM];exact⟨_,JL.cells hr _ _ c1,JL.cells hr _ _ c2,JL.cells hr _ _ c3,hp.1⟩
theorem JL.set{base:Nat}{w:F}{v:H}{l:List uD}(h:JL base w v l){c:Nat}(hc:jR w c)(hne:c<base)(i:Nat)(u:H):JL base (tD w ⟨c,i,G⟩ u) v l:=by
 have hlt:=h.lt;obtain⟨us,h1,h2,h3,h4⟩:=h;refine⟨us,h1,tU h2 (Qg (Qb _ (I c)) i u) ?_,fun x hx=>(h3 x hx).set hc i u,h4⟩;cases hv:v.ownBlock with|none=>exact .inl rfl|some k=>exact .inr (by have:=(hlt k hv).1;simp;omega)
theorem iJ:(37:Nat)≠5:=by
 decide
theorem mB:(35:Nat)≠5:=by
 decide
theorem Vx{W:F}{pb:Nat}{x y:H}(h:W.heap[pb]?=I (S #[x,y] 35))(hx:∀q,x≠Y pJ q)(ua va:Option sX)(un uc vn vc:Nat){z:H}{bs:List UInt8}(hz:XX W z bs):XX ((tD W ⟨pb,0,G⟩ (J ua un uc)).setCell ⟨pb,1,G⟩ (J va vn vc)) z bs:=have h0:jR W pb:=Dc (xs:=[y]) h mB hx;have h1:=h0.set 0 (J ua un uc) (fun q=>by
 simp);(hz.set h0 0 _).set h1 1 _
theorem XX.quad{w:F}{v:H}{bs:List UInt8}(h:XX w v bs){c:Nat}(hc:jR w c){e:Bool}{sa:Option sX}{sn sc:Nat}{ka va:Option sX}{kn kc vn vc:Nat}:XX ((((tD w ⟨c,0,G⟩ (tL e)).setCell ⟨c,1,G⟩ (J sa sn sc)).setCell ⟨c,2,G⟩ (J ka kn kc)).setCell ⟨c,3,G⟩ (J va vn vc)) v bs:=have h1:=hc.set 0 (tL e) (fun q=>by
 simp);have h2:=h1.set 1 (J sa sn sc) (fun q=>by
 simp);have h3:=h2.set 2 (J ka kn kc) (fun q=>by
 simp);(((h.set hc 0 _).set h1 1 _).set h2 2 _).set h3 3 _
theorem JL.quad{base:Nat}{w:F}{v:H}{l:List uD}(h:JL base w v l){c:Nat}(hc:jR w c)(hne:c<base){e:Bool}{sa:Option sX}{sn sc:Nat}{ka va:Option sX}{kn kc vn vc:Nat}:JL base ((((tD w ⟨c,0,G⟩ (tL e)).setCell ⟨c,1,G⟩ (J sa sn sc)).setCell ⟨c,2,G⟩ (J ka kn kc)).setCell ⟨c,3,G⟩ (J va vn vc)) v l:=have h1:=hc.set 0 (tL e) (fun q=>by
 simp);have h2:=h1.set 1 (J sa sn sc) (fun q=>by
 simp);have h3:=h2.set 2 (J ka kn kc) (fun q=>by
 simp);(((h.set hc hne 0 _).set h1 hne 1 _).set h2 hne 2 _).set h3 hne 3 _
def Zz(n:Nat)(w:F)(v:H)(p:Cj):Prop:=∃base vs vk vv,v=sR #[tL p.empty,vs,vk,vv]∧n<=base∧base<=w.heap.size∧JL base w vs p.steps∧XX w vk p.pair.1∧XX w vv p.pair.2
theorem Zz.is{n:Nat}{w:F}{v:H}{p:Cj}(h:Zz n w v p):KG w v p:=by
 obtain⟨base,vs,vk,vv,rfl,_,_,h1,h2,h3⟩:=h;exact⟨vs,vk,vv,rfl,h1.list,h2.1,h3.1⟩
theorem Sr{base:Nat}{w W w1:F}{v:H}{l:List uD}(h:L w W G)(ho:JL base W v l)(hb:w.heap.size<=base)(hg:L W w1 v.ownBlock):L w w1 G:=⟨hg.os.trans h.os,hg.tape.trans h.tape,hg.output.trans h.output,tN h.size hg.size,fun i hi hn=>(hg.block i (tH hi h.size) (fun e=>by
 have:=(ho.lt i e.symm).1;omega)).trans (h.block i hi hn)⟩
theorem OW:(O.info? 190).map (fun i=>(i.zero,i.size,i.bytes))=I (I (sR #[Y tC 0,tL N,J G 0 0]),3,40):=by
 kernel_rfl
theorem Rz{w:F}{o:rM}{a:Act}{K:Act->F->Prop}{Q:Exit->Act->F->Prop}(s x:rH)(ho:o.op=.call {callee:=.builtin .append,args:=#[s,x],argTypes:=#[33,33]})(base:Nat)(v:H)(l:List uD)(hs:a.eval s=v)(hown:JL base w v l)(vo:H)(p:uD)(hk:XX w vo p.other)(nb:Nat)(hb:∀j u,[Y tC p.bit,tL p.right,vo][j]?=I u->w.cell? ⟨nb,j,G⟩=I u)(hx:a.eval x=J (I ⟨nb,0,G⟩) 1 1)(hl:(l.length+1)*40<=140737488355328)(hbase:base<=w.heap.size)(h:∀v' w',JL base w' v' (l++[p])->L w w' v.ownBlock->K (a.put o.dst v') w'):o.wp O a w K Q:=by
 obtain⟨i0,hi,hz0,hz1,hz2⟩:=r7 OW;have hrow:=hown.row;obtain⟨us,hul,hr,hp,_⟩:=hown;refine wp_append_own w s x 33 ho base 190 i0 (sR #[Y tC 0,tL N,J G 0 0]) 3 40 Tryz.underlying33 hi hz0 hz1 hz2 rfl (by decide) v l.length (Ui us) hs hr ⟨nb,0,G⟩ 1 1 (Ui [(p,vo)]) hx rfl ?_ ?_ (by unfold r8;omega) hl hbase ?_;·intro j u hj;rw[ZX,sM];exact hb j u (by simpa[Ui]using hj)
 ·intro u hu;exact Wx _ u hu fun y hy=>by simp at hy;subst hy;exact EH hk
 ·intro v' w' h1 h2 _;refine h _ w' ⟨us++[(p,vo)],by simp[hul],?_,?_,fun e=>by simp at e⟩ h2;(·rw[Df,tB];exact h1);·intro y hy;rcases sA.1 hy with hy|hy;(·exact(hp y hy).kept h2 hrow);·simp at hy;subst hy;exact hk.kept h2 hrow
theorem kW{w:F}{ops:Array rM}{rest:List rM}{o:rM}{a:Act}{Q:Exit->Act->F->Prop}(hgd:o.guard=G)(s x:rH)(ho:o.op=.call {callee:=.builtin .append,args:=#[s,x],argTypes:=#[33,33]})(base:Nat)(v:H)(l:List uD)(hs:a.eval s=v)(hown:JL base w v l)(vo:H)(p:uD)(hk:XX w vo p.other)(nb:Nat)(hb:∀j u,[Y tC p.bit,tL p.right,vo][j]?=I u->w.cell? ⟨nb,j,G⟩=I u)(hx:a.eval x=J (I ⟨nb,0,G⟩) 1 1)(hl:(l.length+1)*40<=140737488355328)(hbase:base<=w.heap.size)(h:∀v' w',JL base w' v' (l++[p])->L w w' v.ownBlock->wpList O ops Q rest (a.put o.dst v') w'):wpList O ops Q (o::rest) a w:=wpList_plain hgd fun _ hK=>Rz s x ho base v l hs hown vo p hk nb hb hx hl hbase fun v' w' h1 h2=>hK _ _ (h v' w' h1 h2)
theorem WD{w:F}{nb:Nat}{p:uD}{vo:H}{t:tX}(h:w.heap[nb]?=I (S #[Y tC p.bit,tL p.right,vo] t)):∀j u,[Y tC p.bit,tL p.right,vo][j]?=I u->w.cell? ⟨nb,j,G⟩=I u:=by
 intro j u hj;simp[tS,h];simpa using hj
def gR:H->Nat|J _ n _=>n|_=>0
def Ps(t:tX):Prop:=t=79∨t=39∨t=131∨t=44∨t=3
def LD(B:Nat)(w:F)(i:Nat):Prop:=i<B∨∀cs t fz,w.heap[i]?=I (S cs t fz)->(¬Ps t∨∃q,cs[0]?=I (Y pJ q))
structure Kp (B : Nat) (w w' : F) : Prop where
  os : w'.os = w.os
  tape : w'.tape = w.tape
  output : w'.output = w.output
  size : w.heap.size <= w'.heap.size
  keep : ∀ i, i < w.heap.size -> LD B w i -> w'.heap[i]? = w.heap[i]?
theorem Kp.refl(B:Nat)(w:F):Kp B w w:=⟨rfl,rfl,rfl,tZ _,fun _ _ _=>rfl⟩
theorem LD.same{B:Nat}{w w':F}{i:Nat}(h:LD B w i)(e:w'.heap[i]?=w.heap[i]?):LD B w' i:=by
 rcases h with h|h;·exact .inl h
 ·exact .inr fun cs t fz hc=>h cs t fz (by rw[<-e];exact hc)
theorem Kp.trans{B:Nat}{w w1 w2:F}(h:Kp B w w1)(k:Kp B w1 w2):Kp B w w2:=⟨k.os.trans h.os,k.tape.trans h.tape,k.output.trans h.output,tN h.size k.size,fun i hi hs=>by
 have e:=h.keep i hi hs;exact(k.keep i (tH hi h.size) (hs.same e)).trans e⟩
theorem Kp.grown{B:Nat}{w w':F}(h:L w w' G):Kp B w w':=⟨h.os,h.tape,h.output,h.size,fun i hi _=>h.block i hi (by
 simp)⟩
theorem Kp.turn{B:Nat}{w w':F}{g:Nat}{cs:Array H}{t:tX}{fz:Nat×Nat}(h:L w w' (I g))(hB:B<=g)(hb:w.heap[g]?=I (S cs t fz))(ht:Ps t)(h0:∀q,cs[0]?≠I (Y pJ q)):Kp B w w':=⟨h.os,h.tape,h.output,h.size,fun i hi hs=>by
 refine h.block i hi fun e=>?_;cases e;rcases hs with hs|hs;·omega
 ·rcases hs cs t fz hb with h1|⟨q,h1⟩;(·exact h1 ht);·exact h0 q h1⟩
theorem Kp.low{B:Nat}{w w':F}(h:Kp B w w')(w0:F)(hg:L w0 w G)(hB:w0.heap.size<=B):L w0 w' G:=⟨h.os.trans hg.os,h.tape.trans hg.tape,h.output.trans hg.output,tN hg.size h.size,fun i hi hn=>(h.keep i (tH hi hg.size) (.inl (by
 omega))).trans (hg.block i hi hn)⟩
def Vo(t:tX):Prop:=t=5∨t=35∨t=55∨t=118∨t=137∨t=190
def VW(t:tX):Prop:=¬Vo t
theorem Ps.two{t:tX}(h:Ps t):VW t:=by
 rcases h with rfl|rfl|rfl|rfl|rfl<;>simp[VW,Vo]
def M6(B:Nat)(w:F)(i:Nat):Prop:=i<B∨∀cs t fz,w.heap[i]?=I (S cs t fz)->(¬VW t∨∃q,cs[0]?=I (Y pJ q))
structure Tp (B : Nat) (w w' : F) : Prop where
  os : w'.os = w.os
  tape : w'.tape = w.tape
  output : w'.output = w.output
  size : w.heap.size <= w'.heap.size
  keep : ∀ i, i < w.heap.size -> M6 B w i -> w'.heap[i]? = w.heap[i]?
theorem Kp.two{B C:Nat}{w w':F}(h:Kp B w w')(hC:C<=B):Tp C w w':=⟨h.os,h.tape,h.output,h.size,fun i hi hs=>h.keep i hi (by
 rcases hs with hs|hs;·exact .inl (tH hs hC)
 ·exact .inr fun cs t fz hc=>(hs cs t fz hc).imp (fun h1 h2=>h1 h2.two) id)⟩
theorem Tp.refl(B:Nat)(w:F):Tp B w w:=⟨rfl,rfl,rfl,tZ _,fun _ _ _=>rfl⟩
theorem M6.same{B:Nat}{w w':F}{i:Nat}(h:M6 B w i)(e:w'.heap[i]?=w.heap[i]?):M6 B w' i:=by
 rcases h with h|h;·exact .inl h
 ·exact .inr fun cs t fz hc=>h cs t fz (by rw[<-e];exact hc)
theorem Tp.trans{B:Nat}{w w1 w2:F}(h:Tp B w w1)(k:Tp B w1 w2):Tp B w w2:=⟨k.os.trans h.os,k.tape.trans h.tape,k.output.trans h.output,tN h.size k.size,fun i hi hs=>by
 have e:=h.keep i hi hs;exact(k.keep i (tH hi h.size) (hs.same e)).trans e⟩
theorem Tp.grown{B:Nat}{w w':F}(h:L w w' G):Tp B w w':=⟨h.os,h.tape,h.output,h.size,fun i hi _=>h.block i hi (by
 simp)⟩
def L0(w:F)(i:Nat):Prop:=∀cs t fz,w.heap[i]?=I (S cs t fz)->(Vo t∨t=39∨∃q,cs[0]?=I (Y pJ q))
structure KL (w w' : F) : Prop where
  os : w'.os = w.os
  tape : w'.tape = w.tape
  output : w'.output = w.output
  size : w.heap.size <= w'.heap.size
  keep : ∀ i, i < w.heap.size -> L0 w i -> w'.heap[i]? = w.heap[i]?
theorem KL.two{w w':F}(h:KL w w'):Tp 0 w w':=⟨h.os,h.tape,h.output,h.size,fun i hi hs=>h.keep i hi fun cs t fz hc=>by
 rcases hs with hs|hs;·omega
 ·rcases hs cs t fz hc with h1|h1;(·exact .inl (sQ h1));·exact .inr (.inr h1)⟩
theorem KL.refl(w:F):KL w w:=⟨rfl,rfl,rfl,tZ _,fun _ _ _=>rfl⟩
theorem L0.same{w w':F}{i:Nat}(h:L0 w i)(e:w'.heap[i]?=w.heap[i]?):L0 w' i:=fun cs t fz hc=>h cs t fz (by
 rw[<-e];exact hc)
theorem KL.trans{w w1 w2:F}(h:KL w w1)(k:KL w1 w2):KL w w2:=⟨k.os.trans h.os,k.tape.trans h.tape,k.output.trans h.output,tN h.size k.size,fun i hi hs=>by
 have e:=h.keep i hi hs;exact(k.keep i (tH hi h.size) (hs.same e)).trans e⟩
theorem KL.grown{w w':F}(h:L w w' G):KL w w':=⟨h.os,h.tape,h.output,h.size,fun i hi _=>h.block i hi (by
 simp)⟩
theorem KL.turn{w w':F}{row:Option Nat}(h:L w w' row)(hr:∀g,row=I g->∃cs t fz,w.heap[g]?=I (S cs t fz)∧¬Vo t∧t≠39∧∀q,cs[0]?≠I (Y pJ q)):KL w w':=⟨h.os,h.tape,h.output,h.size,fun i hi hs=>by
 refine h.block i hi fun e=>?_;obtain⟨cs,t,fz,hb,h1,h2,h3⟩:=hr i e.symm;rcases hs cs t fz hb with h4|h4|⟨q,h4⟩;·exact h1 h4
 ·exact h2 h4
 ·exact h3 q h4⟩
def J4(w:F)(P:F->Prop):Prop:=∀w',KL w w'->P w'
theorem J4.now{w:F}{P:F->Prop}(h:J4 w P):P w:=h w (KL.refl w)
theorem J4.later{w w':F}{P:F->Prop}(h:J4 w P)(k:KL w w'):J4 w' P:=fun w2 k2=>h w2 (k.trans k2)
theorem J4.grown{w w':F}{P:F->Prop}(h:J4 w P)(k:L w w' G):J4 w' P:=h.later (KL.grown k)
def qO(w:F)(P:F->Prop):Prop:=∀w',L w w' G->P w'
theorem qO.now{w:F}{P:F->Prop}(h:qO w P):P w:=h w (Qb w G)
theorem qO.grown{w w':F}{P:F->Prop}(h:qO w P)(k:L w w' G):qO w' P:=fun w2 k2=>h w2 (Qa k k2)
def Za(B:Nat)(w:F)(P:F->Prop):Prop:=∀w',Tp B w w'->P w'
theorem Za.now{B:Nat}{w:F}{P:F->Prop}(h:Za B w P):P w:=h w (Tp.refl B w)
theorem Za.later{B C:Nat}{w w':F}{P:F->Prop}(h:Za C w P)(k:Kp B w w')(hC:C<=B:=by
 first|exact Nat.zero_le _|exact Nat.le_refl _):Za C w' P:=fun w2 k2=>h w2 ((k.two hC).trans k2)
theorem Za.later2{C:Nat}{w w':F}{P:F->Prop}(h:Za C w P)(k:Tp C w w'):Za C w' P:=fun w2 k2=>h w2 (k.trans k2)
theorem Za.grown{C:Nat}{w w':F}{P:F->Prop}(h:Za C w P)(k:L w w' G):Za C w' P:=h.later2 (Tp.grown k)
theorem Za.mono{B:Nat}{w:F}{P Q:F->Prop}(h:Za B w P)(k:∀w',P w'->Q w'):Za B w Q:=fun w' h'=>k w' (h w' h')
theorem J7{w w':F}{v:H}{bs:List UInt8}(h:Qe w v bs)(hb:bs=[]∨∃b,v.ownBlock=I b∧w'.heap[b]?=w.heap[b]?):Qe w' v bs:=by
 obtain⟨a,cap,rfl,hc,h⟩:=h;refine⟨a,cap,rfl,hc,?_⟩;rcases h with h|⟨b,o,rfl,h⟩;·exact .inl h
 ·refine .inr ⟨b,o,rfl,fun i hi=>?_⟩;rcases hb with rfl|⟨b',e,hb⟩;(·simp at hi);·simp[pF]at e;subst e;rw[sK hb];exact h i hi
theorem l6:¬VW 5:=by
 simp[VW,Vo]
theorem Zg{B:Nat}{w:F}{v:H}{bs:List UInt8}(h:Qf 0 w v bs):Za B w (fun w=>Qf 0 w v bs):=fun w' k=>by
 obtain⟨h1,h2⟩:=h;rcases h2 with h2|⟨b,e,hl,h2⟩;·exact⟨J7 h1 (.inl h2),.inl h2⟩
 ·(obtain⟨cur,fz,h2⟩:∃cur fz,w.heap[b]?=I (S cur 5 fz):=by rcases h2 with h2|h2;(·omega);·exact h2);have hs:w'.heap[b]?=w.heap[b]?:=k.keep b hl (.inr fun cs t f hc=>.inl (by rw[h2]at hc;simp only[tA,tW]at hc;rw[<-hc.2.1];exact l6));exact⟨J7 h1 (.inr ⟨b,e,hs⟩),.inr ⟨b,e,tH hl k.size,.inr ⟨cur,fz,by rw[hs];exact h2⟩⟩⟩
theorem Gt{B:Nat}{w:F}{v:H}{bs:List UInt8}(h:XX w v bs):Za B w (fun w=>XX w v bs):=fun w' k=>by
 obtain⟨h1,h2⟩:=h;rcases h2 with h2|⟨b,e,hl,cur,t,fz,h2,h3⟩;·exact⟨J7 h1 (.inl h2),.inl h2⟩
 ·have hs:w'.heap[b]?=w.heap[b]?:=k.keep b hl (.inr fun cs t' f hc=>by rw[h2]at hc;simp only[tA,tW]at hc;obtain⟨rfl,rfl,_⟩:=hc;rcases h3 with rfl|h3;(·exact .inl l6);·exact .inr h3);exact⟨J7 h1 (.inr ⟨b,e,hs⟩),.inr ⟨b,e,tH hl k.size,cur,t,fz,by rw[hs];exact h2,h3⟩⟩
theorem UT{B base:Nat}{w:F}{t:tX}{n m:Nat}{v:H}{xs:List H}(h:w.ownsRow base t n v m xs)(ht:¬VW t):Za B w (fun w=>w.ownsRow base t n v m xs):=fun w' k=>by
 refine⟨h.1,?_⟩;rcases h.2with h|⟨g,cap,cur,e,hb,hg,rest⟩;·exact .inl h
 ·refine .inr ⟨g,cap,cur,e,hb,?_,rest⟩;rw[k.keep g (tI.1 hg).1 (.inr fun cs t' f hc=>.inl (by rw[hg]at hc;simp only[tA,tW]at hc;rw[<-hc.2.1];exact ht))];exact hg
theorem Sf{B rb:Nat}{w:F}{v:H}{l:List Rd}(h:ZN rb 0 w v l):Za B w (fun w=>ZN rb 0 w v l):=fun w' k=>by
 obtain⟨us,h1,h2,h3⟩:=h;exact⟨us,h1,UT h2 (by simp[VW,Vo]) w' k,fun x hx=>⟨Zg (h3 x hx).1 w' k,Zg (h3 x hx).2.1 w' k,Zg (h3 x hx).2.2 w' k⟩⟩
theorem As{B rb:Nat}{w:F}{v:H}{l:List Q9}(h:Q4 rb 0 w v l):Za B w (fun w=>Q4 rb 0 w v l):=fun w' k=>by
 obtain⟨us,h1,h2,h3⟩:=h;exact⟨us,h1,UT h2 (by simp[VW,Vo]) w' k,fun x hx=>⟨Zg (h3 x hx).1 w' k,Zg (h3 x hx).2.1 w' k,Zg (h3 x hx).2.2 w' k⟩⟩
theorem Vy{B:Nat}{w:F}{v:H}{l:PL}(h:QK 0 w v l):Za B w (fun w=>QK 0 w v l):=fun w' k=>by
 obtain⟨a,cap,rfl,hc,h⟩:=h;refine⟨a,cap,rfl,hc,?_⟩;rcases h with h|⟨b,o,rfl,hb,h⟩;·exact .inl h
 ·(obtain⟨cur,fz,hb⟩:∃cur fz,w.heap[b]?=I (S cur 35 fz):=by rcases hb with hb|hb;(·omega);·exact hb);have hs:w'.heap[b]?=w.heap[b]?:=k.keep b (tI.1 hb).1 (.inr fun cs t f hc=>.inl (by rw[hb]at hc;simp only[tA,tW]at hc;rw[<-hc.2.1];simp[VW,Vo]));refine .inr ⟨b,o,rfl,.inr ⟨cur,fz,by rw[hs];exact hb⟩,fun i hi=>?_⟩;obtain⟨vk,vv,c1,c2,h1,h2⟩:=h i hi;exact⟨vk,vv,by rw[sK hs];exact c1,by rw[sK hs];exact c2,Zg h1 w' k,Zg h2 w' k⟩
theorem AA{B rb:Nat}{w:F}{v:H}{l:FL}(h:ZA rb w v l):Za B w (fun w=>ZA rb w v l):=fun w' k=>by
 obtain⟨vs,h1,h2,h3⟩:=h;exact⟨vs,h1,UT h2 (by simp[VW,Vo]) w' k,fun i hi=>⟨Zg (h3 i hi).1 w' k,Vy (h3 i hi).2 w' k⟩⟩
theorem Et{B:Nat}{w:F}{v:H}{l:List Q9}(h:Xr 0 w v l):Za B w (fun w=>Xr 0 w v l):=fun w' k=>by
 obtain⟨a,cap,rfl,hc,h⟩:=h;refine⟨a,cap,rfl,hc,?_⟩;rcases h with h|⟨b,o,rfl,hb,h⟩;·exact .inl h
 ·(obtain⟨cur,fz,hb⟩:∃cur fz,w.heap[b]?=I (S cur 118 fz):=by rcases hb with hb|hb;(·omega);·exact hb);have hs:w'.heap[b]?=w.heap[b]?:=k.keep b (tI.1 hb).1 (.inr fun cs t f hc=>.inl (by rw[hb]at hc;simp only[tA,tW]at hc;rw[<-hc.2.1];simp[VW,Vo]));refine .inr ⟨b,o,rfl,.inr ⟨cur,fz,by rw[hs];exact hb⟩,fun i hi=>?_⟩;obtain⟨vn,vk,vv,c1,c2,c3,c4,h1,h2,h3⟩:=h i hi;exact⟨vn,vk,vv,by rw[sK hs];exact c1,by rw[sK hs];exact c2,by rw[sK hs];exact c3,by rw[sK hs];exact c4,Zg h1 w' k,Zg h2 w' k,Zg h3 w' k⟩
theorem Pv{B:Nat}{w:F}{v:H}{t:Tx}(h:GU w v t):Za B w (fun w=>GU w v t):=fun w' k=>by
 obtain⟨vr,vw,rfl,h1,h2⟩:=h;exact⟨vr,vw,rfl,Sf h1 w' k,As h2 w' k⟩
theorem SQ{B base:Nat}{w:F}{v:H}{l:List uD}(h:JL base w v l):Za B w (fun w=>JL base w v l):=fun w' k=>by
 obtain⟨us,h1,h2,h3,h4⟩:=h;exact⟨us,h1,UT h2 (by simp[VW,Vo]) w' k,fun x hx=>Gt (h3 x hx) w' k,h4⟩
theorem yO{B n:Nat}{w:F}{v:H}{p:Cj}(h:Zz n w v p):Za B w (fun w=>KG w v p):=fun w' k=>by
 obtain⟨base,vs,vk,vv,rfl,_,_,h1,h2,h3⟩:=h;exact⟨vs,vk,vv,rfl,(SQ h1 w' k).list,(Gt h2 w' k).1,(Gt h3 w' k).1⟩
section
section
variable{α:Type}{T:tX}{k:Nat}{P:F->List H->α->Prop}{B:Nat}{w w':F}{v:H}{l:List α}
def X6(T:tX)(k:Nat)(P:F->List H->α->Prop)(B:Nat)(w:F)(v:H)(l:List α):Prop:=∃us:List (List H×α),us.map (·.2)=l∧w.ownsRow B T k v l.length (us.flatMap (·.1))∧(l=[]->v=J G 0 0)∧∀x∈us,x.1.length=k∧(∀u∈x.1,u.oneCell'=M)∧(∀q,x.1[0]?≠I (Y pJ q))∧Za 0 w (fun w=>P w x.1 x.2)
theorem yB(T:tX)(k:Nat)(P:F->List H->α->Prop)(B:Nat)(w:F):X6 T k P B w (J G 0 0) []:=⟨[],rfl,sL _ _ _ _,fun _=>rfl,fun x hx=>by
 simp at hx⟩
theorem X6.kept(h:X6 T k P B w v l)(hk:Kp B w w')(hs:∀g,v.ownBlock=I g->w'.heap[g]?=w.heap[g]?):X6 T k P B w' v l:=by
 obtain⟨us,h1,h2,h3,h4⟩:=h;refine⟨us,h1,⟨h2.1,?_⟩,h3,fun x hx=>⟨(h4 x hx).1,(h4 x hx).2.1,(h4 x hx).2.2.1,(h4 x hx).2.2.2.later hk⟩⟩;rcases h2.2with h|⟨g,cap,cur,rfl,hb,hg,rest⟩;·exact .inl h
 ·exact .inr ⟨g,cap,cur,rfl,hb,by rw[hs g rfl];exact hg,rest⟩
theorem X6.kept2(h:X6 T k P B w v l)(hk:Tp 0 w w')(hs:∀g,v.ownBlock=I g->w'.heap[g]?=w.heap[g]?):X6 T k P B w' v l:=by
 obtain⟨us,h1,h2,h3,h4⟩:=h;refine⟨us,h1,⟨h2.1,?_⟩,h3,fun x hx=>⟨(h4 x hx).1,(h4 x hx).2.1,(h4 x hx).2.2.1,(h4 x hx).2.2.2.later2 hk⟩⟩;rcases h2.2with h|⟨g,cap,cur,rfl,hb,hg,rest⟩;·exact .inl h
 ·exact .inr ⟨g,cap,cur,rfl,hb,by rw[hs g rfl];exact hg,rest⟩
theorem X6.lt(h:X6 T k P B w v l):∀g,v.ownBlock=I g->B<=g∧g<w.heap.size:=by
 obtain⟨us,h1,h2,h3,h4⟩:=h;exact sG h2
theorem X6.grown(h:X6 T k P B w v l)(hg:L w w' G):X6 T k P B w' v l:=h.kept (Kp.grown hg) fun g e=>hg.block g (h.lt g e).2 (by
 simp)
theorem X6.shape(h:X6 T k P B w v l):∃a cap,v=J a l.length cap:=by
 obtain⟨us,_,h,_⟩:=h;rcases h.2with⟨rfl,h0⟩|⟨g,cap,cur,rfl,_⟩;·exact⟨G,0,by rw[h0]⟩
 ·exact⟨_,cap,rfl⟩
theorem LX{k:Nat}:∀(us:List (List H×α))(_:∀x∈us,x.1.length=k)(i:Nat)(hi:i<us.length)(j:Nat),j<k->(us.flatMap (·.1))[i*k+j]?=us[i].1[j]?|[],_,i,hi,_,_=>by simp at hi|x::us,hk,0,_,j,hj=>by have:=hk x (by simp);simp[pH (show j<x.1.length by omega)]|x::us,hk,i+1,hi,j,hj=>by have hx:=hk x (by simp);have:=LX us (fun y hy=>hk y (by simp[hy])) i (by simpa using hi) j hj;rw[tM,List.getElem?_append_right (by rw[hx,rX];omega),hx,show(i+1)*k+j-k=i*k+j by rw[rX];omega,this];simp
theorem X6.blk(hk0:0<k)(h:X6 T k P B w v l):v.ownBlock=G∨∃g cs,v.ownBlock=I g∧B<=g∧w.heap[g]?=I (S cs T (0,0))∧∀q,cs[0]?≠I (Y pJ q):=by
 obtain⟨us,h1,h2,h3,h4⟩:=h;rcases h2.2with⟨rfl,_⟩|⟨g,cap,cur,rfl,hb,hg,hn,_,hcs,ht⟩;·exact .inl rfl
 ·refine .inr ⟨g,cur,rfl,hb,hg,fun q hq=>?_⟩;cases us with|nil=>subst h1;have:=h3 rfl;cases this|cons x us=>(have hl:l.length=us.length+1:=by rw[<-h1];simp);(have e:(cur.toList.take (l.length*k))[0]?=((x::us).flatMap (·.1))[0]?:=by rw[ht]);have hx:=(h4 x (by simp)).1;rw[sC,if_pos (by rw[hl,rX];omega),tM,pH (by omega),rY,hq]at e;exact(h4 x (by simp)).2.2.1 q e.symm
theorem X6.turn(hk0:0<k)(hT:Ps T)(h:X6 T k P B w v l)(hg:L w w' v.ownBlock):Kp B w w':=by
 rcases h.blk hk0 with e|⟨g,cs,e,hb,hc,h0⟩;·rw[e]at hg;exact Kp.grown hg
 ·rw[e]at hg;exact Kp.turn hg hb hc hT h0
theorem X6.other(hk0:0<k)(h:X6 T k P B w v l){row:Option Nat}(hk:Kp B w w')(hg:L w w' row)(hr:row=G∨∃g cs t fz,row=I g∧w.heap[g]?=I (S cs t fz)∧t≠T):X6 T k P B w' v l:=by
 refine h.kept hk fun g e=>?_;refine hg.block g (h.lt g e).2 fun e2=>?_;rcases hr with rfl|⟨g',cs,t,fz,rfl,hc,ht⟩;·cases e2
 ·cases e2;rcases h.blk hk0 with e3|⟨g2,cs2,e3,_,hc2,_⟩;(·rw[e3]at e;cases e);·rw[e3]at e;cases e;rw[hc]at hc2;simp only[tA,tW]at hc2;exact ht hc2.2.1
theorem X6.at(h:X6 T k P B w v l)(d:α)(i:Nat)(hi:i<l.length):∃g cap cs,v=J (I ⟨g,0,G⟩) l.length cap∧cs.length=k∧l.length<=cap∧(∀j,j<k->w.cell? ⟨g,i*k+j,G⟩=cs[j]?)∧Za 0 w (fun w=>P w cs (l.getD i d)):=by
 obtain⟨us,h1,h2,h3,h4⟩:=h;have hul:us.length=l.length:=by rw[<-h1];simp
 rcases h2.2with⟨rfl,h0⟩|⟨g,cap,cur,rfl,hb,hg,hn,_,hcs,ht⟩;·omega
 ·have hx:=h4 us[i] (sN (by omega));refine⟨g,cap,us[i].1,rfl,hx.1,hn,fun j hj=>?_,?_⟩;(·(have e:(cur.toList.take (l.length*k))[i*k+j]?=(us.flatMap (·.1))[i*k+j]?:=by rw[ht]);(have hlt:i*k+j<l.length*k:=by have:(i+1)*k<=l.length*k:=pB k hi;rw[rX]at this;omega);rw[LX us (fun x hx=>(h4 x hx).1) i (by omega) j hj,sC,if_pos hlt,rY]at e;simp[tS,hg,e]);·(have e:l.getD i d=us[i].2:=by subst h1;simp[List.getD,show i<us.length by omega]);rw[e];exact hx.2.2.2
theorem yN{o:rM}{a:Act}{K:Act->F->Prop}{Q:Exit->Act->F->Prop}(s x:rH)(t:tX)(ho:o.op=.call {callee:=.builtin .append,args:=#[s,x],argTypes:=#[t,t]})(i:TypeInfo)(z:H)(bytes:Nat)(ht:O.underlying t=I (.slice T))(hi:O.info? T=I i)(hz:i.zero=I z)(hsize:i.size=k)(hby:i.bytes=bytes)(hzs:z.cells.size=k)(hsz:0<k)(hT:Ps T)(hs:a.eval s=v)(hown:X6 T k P B w v l)(nb:Nat)(cs:List H)(y:α)(hx:a.eval x=J (I ⟨nb,0,G⟩) 1 1)(hcl:cs.length=k)(hc:∀j u,cs[j]?=I u->w.cell? ⟨nb,j,G⟩=I u)(h1:∀u∈cs,u.oneCell'=M)(h0:∀q,cs[0]?≠I (Y pJ q))(hP:Za 0 w (fun w=>P w cs y))(h63:l.length+1<=r8)(hbytes:(l.length+1)*bytes<=140737488355328)(hbase:B<=w.heap.size)(h:∀v' w',X6 T k P B w' v' (l++[y])->Kp B w w'->L w w' v.ownBlock->K (a.put o.dst v') w'):o.wp O a w K Q:=by
 have hown0:=hown;obtain⟨us,e1,h2,h3,h4⟩:=hown;refine wp_append_lies w s x t ho B T i z k bytes ht hi hz hsize hby hzs hsz v l.length (us.flatMap (·.1)) hs h2 ⟨nb,0,G⟩ 1 1 cs hx (by omega) (fun j u hj=>by rw[ZX,sM];exact hc j u hj) h1 (by omega) h63 hbytes hbase _ rfl ?_;intro g cap w' hr hg hgg hlt;have hk:=hown0.turn hsz hT hg;refine h _ w' ⟨us++[(cs,y)],by simp[e1],?_,fun e=>by simp at e,fun x hx=>?_⟩ hk hg;·simpa[List.flatMap_append]using hr
 ·rcases sA.1 hx with hx|hx;(·exact⟨(h4 x hx).1,(h4 x hx).2.1,(h4 x hx).2.2.1,(h4 x hx).2.2.2.later hk⟩);·(obtain rfl:x=(cs,y):=by simpa using hx);exact⟨hcl,h1,h0,hP.later hk⟩
theorem X6.take(h:X6 T k P B w v l){a:Option sX}{n cap:Nat}(hv:v=J a n cap)(m:Nat)(hm:m<=l.length)(h0:0<m):X6 T k P B w (J a m cap) (l.take m):=by
 subst hv;obtain⟨us,h1,h2,h3,h4⟩:=h;have hul:us.length=l.length:=by rw[<-h1];simp
 have hlm:(l.take m).length=m:=by simp;omega
 rcases h2.2with⟨e,h0'⟩|⟨g,cp,cur,e,hb,hg,hn,hmx,hcs,ht⟩;·omega
 ·simp only[tG]at e;obtain⟨rfl,rfl,rfl⟩:=e;(have hfl:(us.take m).flatMap (·.1)=(us.flatMap (·.1)).take (m*k):=by(have hk:∀(vs:List (List H×α)),(∀x∈vs,x.1.length=k)->∀m,(vs.take m).flatMap (·.1)=(vs.flatMap (·.1)).take (m*k):=by intro vs;induction vs with|nil=>intro _ m;simp|cons x vs ih=>intro hx m;cases m with|zero=>simp|succ m=>have:=hx x (by simp);rw[rC,tM,tM,ih (fun y hy=>hx y (by simp[hy])) m,List.take_append,this,rX,show m*k+k-k=m*k by omega,List.take_of_length_le (l:=x.1) (by omega)]);exact hk us (fun x hx=>(h4 x hx).1) m);refine⟨us.take m,by rw[<-h1,List.map_take],⟨?_,.inr ⟨g,cap,cur,by rw[hlm],hb,hg,by omega,hmx,hcs,?_⟩⟩,fun e=>?_,fun x hx=>h4 x (List.mem_of_mem_take hx)⟩;(·rw[hfl,rW,h2.1,hlm];have:m*k<=l.length*k:=pB k hm;omega);(·rw[hlm,hfl,<-ht,pY];have:m*k<=l.length*k:=pB k hm;rw[pZ this]);·rw[e]at hlm;simp at hlm;omega
end
end
theorem Ft:(131:Nat)≠5:=by
 decide
theorem jV:(131:Nat)≠118:=by
 decide
def Cm(w:F)(b o:Nat)(c:XE):Prop:=∃vs,w.cell? ⟨b,o,G⟩=I (Y tC c.turn)∧w.cell? ⟨b,o+1,G⟩=I vs∧QN w vs c.writes
theorem Cm.grown{w w':F}{b o:Nat}{c:XE}(h:Cm w b o c)(hg:L w w' G):Cm w' b o c:=by
 obtain⟨vs,c1,c2,h⟩:=h;exact⟨vs,hg.cell c1 (by simp),hg.cell c2 (by simp),h.grown hg⟩
def Y9(w:F)(v:H)(l:List XE):Prop:=∃a cap,v=J a l.length cap∧l.length<=cap∧((l=[]∧(a=G->cap=0))∨∃b o,a=I ⟨b,o,G⟩∧∀i,i<l.length->Cm w b (o+i*2) (l.getD i Zm))
theorem EA(w:F):Y9 w (J G 0 0) []:=⟨G,0,rfl,tZ _,.inl ⟨rfl,fun _=>rfl⟩⟩
theorem Y9.shape{w:F}{v:H}{l:List XE}(h:Y9 w v l):∃a cap,v=J a l.length cap:=by
 obtain⟨a,cap,rfl,_⟩:=h;exact⟨a,cap,rfl⟩
theorem Y9.grown{w w':F}{v:H}{l:List XE}(h:Y9 w v l)(hg:L w w' G):Y9 w' v l:=by
 obtain⟨a,cap,rfl,hc,h⟩:=h;refine⟨a,cap,rfl,hc,?_⟩;rcases h with h|⟨b,o,rfl,h⟩;·exact .inl h
 ·exact .inr ⟨b,o,rfl,fun i hi=>(h i hi).grown hg⟩
theorem Y9.at{w:F}{a:Option sX}{n cap:Nat}{l:List XE}(h:Y9 w (J a n cap) l)(i:Nat)(hi:i<l.length):∃b o,a=I ⟨b,o,G⟩∧Cm w b (o+i*2) (l.getD i Zm):=by
 obtain⟨a',cap',e,hc,h⟩:=h;simp only[tG]at e;obtain⟨rfl,rfl,rfl⟩:=e;rcases h with⟨rfl,_⟩|⟨b,o,rfl,h⟩;·simp at hi
 ·exact⟨b,o,rfl,h i hi⟩
structure At (l : List XE) : Prop where
  many : l.length * 32 <= 140737488355328
  each : ∀ i, i < l.length -> NW (l.getD i Zm)
abbrev CV:=XE×H
def kE(us:List CV):List H:=us.flatMap fun x=>[Y tC x.1.turn,x.2]
theorem Mz(a b:List CV):kE (a++b)=kE a++kE b:=by
 simp[kE]
theorem fR:(O.info? 131).map (fun i=>(i.zero,i.size,i.bytes))=I (I (sR #[Y tC 0,J G 0 0]),2,32):=by
 kernel_rfl
def Y1(base:Nat)(w:F)(v:H)(l:List XE):Prop:=∃us:List CV,us.map (·.1)=l∧w.ownsRow base 131 2 v l.length (kE us)∧(l=[]->v=J G 0 0)∧∀x∈us,Xr 0 w x.2 x.1.writes
theorem Cq(base:Nat)(w:F):Y1 base w (J G 0 0) []:=⟨[],rfl,sL _ _ _ _,fun _=>rfl,fun x hx=>by
 simp at hx⟩
theorem Y1.row{base:Nat}{w:F}{v:H}{l:List XE}(h:Y1 base w v l):v.ownBlock=G∨∃g cur t fz,v.ownBlock=I g∧base<=g∧w.heap[g]?=I (S cur t fz)∧t≠5∧t≠118:=by
 obtain⟨us,_,h,_⟩:=h;rcases h.2with⟨rfl,_⟩|⟨g,cap,cur,rfl,hb,hg,_⟩;·exact .inl rfl
 ·exact .inr ⟨g,cur,_,_,rfl,hb,hg,Ft,jV⟩
theorem Y1.row0{base:Nat}{w:F}{v:H}{l:List XE}(h:Y1 base w v l):v.ownBlock=G∨∃g cur t fz,v.ownBlock=I g∧0<=g∧w.heap[g]?=I (S cur t fz)∧t≠5∧t≠118:=by
 rcases h.row with h|⟨g,cur,t,fz,h1,_,h2⟩;·exact .inl h
 ·exact .inr ⟨g,cur,t,fz,h1,tR _,h2⟩
theorem Y1.lt{base:Nat}{w:F}{v:H}{l:List XE}(h:Y1 base w v l):∀k,v.ownBlock=I k->base<=k∧k<w.heap.size:=by
 obtain⟨us,_,h,_⟩:=h;exact sG h
theorem Y1.grownNone{base:Nat}{w w':F}{v:H}{l:List XE}(h:Y1 base w v l)(hg:L w w' G):Y1 base w' v l:=by
 obtain⟨us,h1,h2,h0,h3⟩:=h;refine⟨us,h1,tU h2 hg ?_,h0,fun x hx=>(h3 x hx).kept hg (.inl rfl)⟩;cases hv:v.ownBlock with|none=>exact .inl rfl|some k=>exact .inr (by simp)
theorem Y1.shape{base:Nat}{w:F}{v:H}{l:List XE}(h:Y1 base w v l):∃a cap,v=J a l.length cap:=by
 obtain⟨us,_,h,_⟩:=h;rcases h.2with⟨rfl,h0⟩|⟨g,cap,cur,rfl,_⟩;·exact⟨G,0,by rw[h0]⟩
 ·exact⟨_,cap,rfl⟩
theorem AU{base:Nat}{w W w1:F}{v:H}{l:List XE}(h:L w W G)(ho:Y1 base W v l)(hb:w.heap.size<=base)(hg:L W w1 v.ownBlock):L w w1 G:=⟨hg.os.trans h.os,hg.tape.trans h.tape,hg.output.trans h.output,tN h.size hg.size,fun i hi hn=>(hg.block i (tH hi h.size) (fun e=>by
 have:=(ho.lt i e.symm).1;omega)).trans (h.block i hi hn)⟩
theorem Ef{w:F}{o:rM}{a:Act}{K:Act->F->Prop}{Q:Exit->Act->F->Prop}(s x:rH)(ho:o.op=.call {callee:=.builtin .append,args:=#[s,x],argTypes:=#[70,70]})(base:Nat)(v:H)(l:List XE)(hs:a.eval s=v)(hown:Y1 base w v l)(vw:H)(c:XE)(hw:Xr 0 w vw c.writes)(nb:Nat)(hb:w.heap[nb]?=I (S #[Y tC c.turn,vw] 131))(hx:a.eval x=J (I ⟨nb,0,G⟩) 1 1)(hl:(l.length+1)*32<=140737488355328)(hbase:base<=w.heap.size)(h:∀v' w',Y1 base w' v' (l++[c])->L w w' v.ownBlock->K (a.put o.dst v') w'):o.wp O a w K Q:=by
 obtain⟨i0,hi,hz0,hz1,hz2⟩:=r7 fR;have hrow:=hown.row0;obtain⟨us,hul,hr,_,hp⟩:=hown;refine wp_append_lies w s x 70 ho base 131 i0 (sR #[Y tC 0,J G 0 0]) 2 32 Tryz.underlying70 hi hz0 hz1 hz2 rfl (by decide) v l.length (kE us) hs hr ⟨nb,0,G⟩ 1 1 (kE [(c,vw)]) hx rfl (rB (cs:=#[Y tC c.turn,vw]) hb) ?_ (by omega) (by unfold r8;omega) hl hbase _ rfl ?_;·intro u hu;simp only[kE,tM,rJ,rO,tK,tQ,or_false]at hu;rcases hu with rfl|rfl;(·rfl);·exact hw.oneCell
 ·intro g cap w' q1 q2 _ _;refine h _ w' ⟨us++[(c,vw)],by simp[hul],?_,fun e=>by simp at e,?_⟩ q2;(·rw[Mz,tB];exact q1);·intro y hy;rcases sA.1 hy with hy|hy;(·exact(hp y hy).kept q2 hrow);·simp only[tK,tQ,or_false]at hy;subst hy;exact hw.kept q2 hrow
theorem kR{w:F}{ops:Array rM}{rest:List rM}{o:rM}{a:Act}{Q:Exit->Act->F->Prop}(hgd:o.guard=G)(s x:rH)(ho:o.op=.call {callee:=.builtin .append,args:=#[s,x],argTypes:=#[70,70]})(base:Nat)(v:H)(l:List XE)(hs:a.eval s=v)(hown:Y1 base w v l)(vw:H)(c:XE)(hw:Xr 0 w vw c.writes)(nb:Nat)(hb:w.heap[nb]?=I (S #[Y tC c.turn,vw] 131))(hx:a.eval x=J (I ⟨nb,0,G⟩) 1 1)(hl:(l.length+1)*32<=140737488355328)(hbase:base<=w.heap.size)(h:∀v' w',Y1 base w' v' (l++[c])->L w w' v.ownBlock->wpList O ops Q rest (a.put o.dst v') w'):wpList O ops Q (o::rest) a w:=wpList_plain hgd fun _ hK=>Ef s x ho base v l hs hown vw c hw nb hb hx hl hbase fun v' w' h1 h2=>hK _ _ (h v' w' h1 h2)
theorem Y1.ne{base:Nat}{w:F}{v:H}{l:List XE}(h:Y1 base w v l){b:Nat}{cs:Array H}{t:tX}{fz:Nat×Nat}(hb:w.heap[b]?=I (S cs t fz))(ht:t≠131):v.ownBlock≠I b:=by
 intro e;obtain⟨us,_,h,_⟩:=h;rcases h.2with⟨rfl,_⟩|⟨g,cap,cur,rfl,_,hg,_⟩;·cases e
 ·cases e;rw[hb]at hg;simp only[tA,tW]at hg;exact ht hg.2.1
theorem Y1.setOther{base:Nat}{w:F}{v:H}{l:List XE}(h:Y1 base w v l){b i:Nat}{cs:Array H}{t:tX}{fz:Nat×Nat}(hb:w.heap[b]?=I (S cs t fz))(ht:t≠5)(ht2:t≠118)(ht3:t≠131)(u:H):Y1 base (tD w ⟨b,i,G⟩ u) v l:=by
 have hne:=h.ne hb ht3;obtain⟨us,h1,h2,h0,h3⟩:=h;exact⟨us,h1,tU h2 (YH w b i u) (.inr hne),h0,fun x hx=>(h3 x hx).kept (YH w b i u) (.inr ⟨b,cs,t,fz,rfl,tR _,hb,ht,ht2⟩)⟩
theorem Y1.other{base:Nat}{w w':F}{v:H}{l:List XE}(h:Y1 base w v l)(hg:L w w' v.ownBlock){b:Nat}{cs:Array H}{t:tX}{fz:Nat×Nat}(hb:w.heap[b]?=I (S cs t fz))(ht:t≠131):w'.heap[b]?=I (S cs t fz):=by
 rw[hg.block b (tI.1 hb).1 (fun e=>h.ne hb ht e.symm)];exact hb
def Iz:Prop:=∀(w:F)(v u:H)(t:Tx)(r:Rd),G0 w v t->xO t->Yt w u r->P8 r->sW O 56 #[v,u] w fun e w'=>∃x,e=tE (sH #[x,Y tC (Xh t r)])∧GU w' x (X9 t r)∧L w w' G
theorem Qj(w:F)(o:Obj):∃W:F,Hid (W=w.alloc o)∧L w W G∧Hid (W.heap[w.heap.size]?=I o):=⟨w.alloc o,rfl,sV _ _ _,oF w o⟩
theorem Z6{x y:Int}(h:x=y):tE (Y tC y)=tE (Y tC x):=by
 rw[h]
theorem YJ{x y:Bool}(h:x=y):tE (tL y)=tE (tL x):=by
 rw[h]
theorem XC{W w:F}{b:Nat}{x y z:H}{t:tX}(hg:L W w G)(h:W.heap[b]?=I (S #[x,y,z] t)):w.cell? ⟨b,0,G⟩=I x∧w.cell? ⟨b,1,G⟩=I y∧w.cell? ⟨b,2,G⟩=I z:=by
 have hb:w.heap[b]?=I (S #[x,y,z] t):=by rw[hg.block b (tI.1 h).1 (by simp)];exact h
 refine⟨?_,?_,?_⟩<;>simp[tS,hb]
def ML(p:List Rd)(r:Rd):Int:=if XF r=0then(if p.any (fun q=>XH q r)=M then 3 else 0)else XF r
def Dg(p:List Q9)(w:Q9):Int:=if QC w=0then(if p.any (fun q=>ZQ q w)=M then 3 else 0)else QC w
theorem cI(l:List Rd)(m:Nat)(h:m<l.length):GZ (l.take m) (l.drop m)=if ML (l.take m) (l.getD m Ze)=0then GZ (l.take (m+1)) (l.drop (m+1))else ML (l.take m) (l.getD m Ze):=by
 rw[sS h,GZ,sU h,show l[m]=l.getD m Ze by simp[h]];unfold ML;by_cases h1:XF (l.getD m Ze)=0;·rw[if_pos h1,if_pos h1];by_cases h2:(l.take m).any (fun q=>XH q (l.getD m Ze))=M;(·rw[if_pos h2,if_pos h2,if_neg (by omega)]);·rw[if_neg h2,if_neg h2,if_pos rfl]
 ·rw[if_neg h1,if_neg h1,if_neg h1]
theorem cU(l:List Q9)(m:Nat)(h:m<l.length):xZ (l.take m) (l.drop m)=if Dg (l.take m) (l.getD m Qo)=0then xZ (l.take (m+1)) (l.drop (m+1))else Dg (l.take m) (l.getD m Qo):=by
 rw[sS h,xZ,sU h,show l[m]=l.getD m Qo by simp[h]];unfold Dg;by_cases h1:QC (l.getD m Qo)=0;·rw[if_pos h1,if_pos h1];by_cases h2:(l.take m).any (fun q=>ZQ q (l.getD m Qo))=M;(·rw[if_pos h2,if_pos h2,if_neg (by omega)]);·rw[if_neg h2,if_neg h2,if_pos rfl]
 ·rw[if_neg h1,if_neg h1,if_neg h1]
theorem P7{α:Type}(d:α)(f:α->Bool)(l:List α)(k:Nat)(h:k<l.length):(l.take (k+1)).any f=((l.take k).any f||f (l.getD k d)):=by
 rw[sU h,List.any_append,show l[k]=l.getD k d by simp[h]];simp
theorem EY{α:Type}(d:α)(f:α->Bool)(l:List α)(k m:Nat)(hk:k<m)(hm:m<=l.length)(h:f (l.getD k d)=M):(l.take m).any f=M:=by
 rw[rA];refine⟨l.getD k d,?_,h⟩;rw[show l.getD k d=(l.take m)[k]'(by rw[rW];omega)by rw[List.getElem_take];simp[show k<l.length by omega]];exact sN _
theorem z9{w:F}{a:Option sX}{n cap:Nat}{l:List Rd}(h:Xa w (J a n cap) l)(i:Nat)(hi:i<l.length):∃b o,a=I ⟨b,o,G⟩∧∃u1 u2 u3 u4 u5 u6,(w.cell? ⟨b,o+i*4,G⟩=I (J u1 (l.getD i Ze).name.length u2)∧w.cell? ⟨b,o+i*4+1,G⟩=I (J u3 (l.getD i Ze).key.length u4)∧w.cell? ⟨b,o+i*4+2,G⟩=I (tL (l.getD i Ze).wide)∧w.cell? ⟨b,o+i*4+3,G⟩=I (J u5 (l.getD i Ze).last.length u6))∧Yt w (sR #[J u1 (l.getD i Ze).name.length u2,J u3 (l.getD i Ze).key.length u4,tL (l.getD i Ze).wide,J u5 (l.getD i Ze).last.length u6]) (l.getD i Ze):=by
 obtain⟨b,o,rfl,hat⟩:=h.at i hi;obtain⟨vn,vk,vl,c1,c2,c3,c4,s1,s2,s3⟩:=hat;obtain⟨u1,u2,rfl⟩:=s1.shape;obtain⟨u3,u4,rfl⟩:=s2.shape;obtain⟨u5,u6,rfl⟩:=s3.shape;exact⟨b,o,rfl,u1,u2,u3,u4,u5,u6,⟨c1,c2,c3,c4⟩,⟨_,_,_,rfl,s1,s2,s3⟩⟩
theorem Yd{w:F}{a:Option sX}{n cap:Nat}{l:List Q9}(h:QN w (J a n cap) l)(i:Nat)(hi:i<l.length):∃b o,a=I ⟨b,o,G⟩∧∃u1 u2 u3 u4 u5 u6,(w.cell? ⟨b,o+i*4,G⟩=I (J u1 (l.getD i Qo).name.length u2)∧w.cell? ⟨b,o+i*4+1,G⟩=I (J u3 (l.getD i Qo).key.length u4)∧w.cell? ⟨b,o+i*4+2,G⟩=I (tL (l.getD i Qo).gone)∧w.cell? ⟨b,o+i*4+3,G⟩=I (J u5 (l.getD i Qo).value.length u6))∧Xb w (sR #[J u1 (l.getD i Qo).name.length u2,J u3 (l.getD i Qo).key.length u4,tL (l.getD i Qo).gone,J u5 (l.getD i Qo).value.length u6]) (l.getD i Qo):=by
 obtain⟨b,o,rfl,hat⟩:=h.at i hi;obtain⟨vn,vk,vl,c1,c2,c3,c4,s1,s2,s3⟩:=hat;obtain⟨u1,u2,rfl⟩:=s1.shape;obtain⟨u3,u4,rfl⟩:=s2.shape;obtain⟨u5,u6,rfl⟩:=s3.shape;exact⟨b,o,rfl,u1,u2,u3,u4,u5,u6,⟨c1,c2,c3,c4⟩,⟨_,_,_,rfl,s1,s2,s3⟩⟩
theorem Em{x y:Bool}{a b:Int}(h:x=y)(k:a=b):tE (sH #[tL y,Y tC b])=tE (sH #[tL x,Y tC a]):=by
 rw[h,k]
theorem OQ{α:Type}(f:α->Bool)(l:List α)(d:α)(i:Nat)(hi:i<l.length)(h:f (l.getD i d)=M):l.any f=M:=by
 have:=EY d f l i l.length hi (tZ _) h;rw[sE]at this;exact this
theorem zI:(74:Nat)≠5:=by
 decide
theorem kI:(74:Nat)≠137:=by
 decide
theorem G5:(74:Nat)≠118:=by
 decide
theorem ZN.block{rb pb:Nat}{W w':F}{v:H}{l:List Rd}(ho:ZN rb pb W v l)(hg:L W w' v.ownBlock){b:Nat}{cs:Array H}{t:tX}{fz:Nat×Nat}(h:W.heap[b]?=I (S cs t fz))(ht:t≠137):w'.heap[b]?=I (S cs t fz):=by
 rw[hg.block b (tI.1 h).1 (fun e=>ho.ne h ht e.symm)];exact h
theorem Q4.block{rb pb:Nat}{W w':F}{v:H}{l:List Q9}(ho:Q4 rb pb W v l)(hg:L W w' v.ownBlock){b:Nat}{cs:Array H}{t:tX}{fz:Nat×Nat}(h:W.heap[b]?=I (S cs t fz))(ht:t≠118):w'.heap[b]?=I (S cs t fz):=by
 rw[hg.block b (tI.1 h).1 (fun e=>ho.ne h ht e.symm)];exact h
theorem ZN.keptV{rb rb':Nat}{W w':F}{v u:H}{l:List Rd}{k:List Q9}(hR:ZN rb 0 W v l)(hV:Q4 rb' 0 W u k)(hg:L W w' u.ownBlock):ZN rb 0 w' v l:=by
 refine hR.kept hg ?_ ?_;·rcases hR.row with h|⟨g,cur,fz,e,_,h⟩;(·exact .inl h);·refine .inr ?_;rw[e];exact fun e2=>hV.ne h (fun e=>lX e) e2.symm
 ·rcases hV.row with h|⟨g,cur,fz,e,_,h⟩;(·exact .inl h);·exact .inr ⟨g,cur,_,fz,e,tR _,h,uG⟩
theorem QI{w:F}{b:Nat}{x y z:H}{t:tX}(h:w.heap[b]?=I (S #[x,y,z] t)):(w.cell? ⟨b,0,G⟩=I x∧w.cell? ⟨b,1,G⟩=I y∧w.cell? ⟨b,2,G⟩=I z)∧w.frozen? ⟨b,0,G⟩=N∧w.frozen? ⟨b,1,G⟩=N∧w.frozen? ⟨b,2,G⟩=N:=by
 refine⟨⟨?_,?_,?_⟩,?_,?_,?_⟩<;>simp[tS,rV,h]
theorem UW{rb:Nat}{w wr:F}{RB:Nat}{x y z:H}{st:Int}{va ua:Option sX}{n m vc uc:Nat}{R:List Rd}{V:List Q9}(h:wr.heap[RB]?=I (S #[x,y,z] 74))(hR:ZN rb 0 wr (J va n vc) R)(hV:Q4 rb 0 wr (J ua m uc) V)(hg:L w wr G)(hw:w.heap.size<=RB):((((tD wr ⟨RB,0,G⟩ (Y tC st)).setCell ⟨RB,1,G⟩ (J va n vc)).setCell ⟨RB,2,G⟩ (J ua m uc)).cell? ⟨RB,0,G⟩=I (Y tC st)∧(((tD wr ⟨RB,0,G⟩ (Y tC st)).setCell ⟨RB,1,G⟩ (J va n vc)).setCell ⟨RB,2,G⟩ (J ua m uc)).cell? ⟨RB,1,G⟩=I (J va n vc)∧(((tD wr ⟨RB,0,G⟩ (Y tC st)).setCell ⟨RB,1,G⟩ (J va n vc)).setCell ⟨RB,2,G⟩ (J ua m uc)).cell? ⟨RB,2,G⟩=I (J ua m uc))∧ZN rb 0 (((tD wr ⟨RB,0,G⟩ (Y tC st)).setCell ⟨RB,1,G⟩ (J va n vc)).setCell ⟨RB,2,G⟩ (J ua m uc)) (J va n vc) R∧Q4 rb 0 (((tD wr ⟨RB,0,G⟩ (Y tC st)).setCell ⟨RB,1,G⟩ (J va n vc)).setCell ⟨RB,2,G⟩ (J ua m uc)) (J ua m uc) V∧L w (((tD wr ⟨RB,0,G⟩ (Y tC st)).setCell ⟨RB,1,G⟩ (J va n vc)).setCell ⟨RB,2,G⟩ (J ua m uc)) G:=by
 have b1:=Qh (i:=0) (u:=Y tC st) h;have b2:=Qh (i:=1) (u:=J va n vc) b1;have b3:=Qh (i:=2) (u:=J ua m uc) b2;exact⟨(QI (x:=Y tC st) (y:=J va n vc) (z:=J ua m uc) b3).1,((hR.setOther h zI kI (tR _) _).setOther b1 zI kI (tR _) _).setOther b2 zI kI (tR _) _,((hV.setOther h zI G5 (tR _) _).setOther b1 zI G5 (tR _) _).setOther b2 zI G5 (tR _) _,Qc (Qc (Qc hg _ hw _ _) _ hw _ _) _ hw _ _⟩
theorem Q4.keptR{rb rb':Nat}{W w':F}{v u:H}{l:List Q9}{k:List Rd}(hV:Q4 rb 0 W v l)(hR:ZN rb' 0 W u k)(hg:L W w' u.ownBlock):Q4 rb 0 w' v l:=by
 refine hV.kept hg ?_ ?_;·rcases hV.row with h|⟨g,cur,fz,e,_,h⟩;(·exact .inl h);·refine .inr ?_;rw[e];exact fun e2=>hR.ne h (fun e=>lX e.symm) e2.symm
 ·rcases hR.row with h|⟨g,cur,fz,e,_,h⟩;(·exact .inl h);·exact .inr ⟨g,cur,_,fz,e,tR _,h,lI⟩
theorem GF{w:F}{v1 v2:H}{st:Int}{R:List Rd}{V:List Q9}{rb:Nat}{t:Tx}(e:t=⟨st,R,V⟩)(h1:ZN rb 0 w v1 R)(h2:Q4 rb 0 w v2 V):GU w (sR #[Y tC st,v1,v2]) t:=by
 subst e;exact⟨_,_,rfl,h1.down 0 (tR _),h2.down 0 (tR _)⟩
theorem UU{v:H}{a b:Int}(h:a=b):tE (sH #[v,Y tC b])=tE (sH #[v,Y tC a]):=by
 rw[h]
theorem L3:∀(l:List Q9)(w:Q9)(m:Nat),m<l.length->(l.take m).any (fun q=>ZQ q w)=N->ZQ (l.getD m Qo) w=M->xE l w=l.set m w|[],_,_,h,_,_=>by simp at h|a::l,w,0,_,_,h=>by have h':ZQ a w=M:=h;rw[xE,if_pos h'];rfl|a::l,w,m+1,h0,h1,h2=>by rw[rC,pC,rN]at h1;rw[xE,if_neg (by rw[h1.1];decide),pM,L3 l w m (by simpa using h0) h1.2 (by simpa using h2)]
theorem Dy:∀(l:List Q9)(w:Q9),l.any (fun q=>ZQ q w)=N->xE l w=l++[w]|[],_,_=>rfl|a::l,w,h=>by rw[pC,rN]at h;rw[xE,if_neg (by rw[h.1];decide),Dy l w h.2];rfl
theorem Q4.zero{rb:Nat}{w:F}{b o n cap:Nat}{l:List Q9}(h:Q4 rb 0 w (J (I ⟨b,o,G⟩) n cap) l):o=0:=by
 obtain⟨us,hl,hr,h3⟩:=h;rcases hr.2with⟨e,_⟩|⟨g',cap',cur,e,_⟩;·cases e
 ·simp only[tG,tA,rG]at e;exact e.1.2.1
theorem Q4.frozenT{rb:Nat}{w:F}{g n cap:Nat}{l:List Q9}(h:Q4 rb 0 w (J (I ⟨g,0,G⟩) n cap) l)(j:Nat):w.frozen? ⟨g,j,G⟩=N:=by
 obtain⟨us,hl,hr,h3⟩:=h;rcases hr.2with⟨e,_⟩|⟨g',cap',cur,e,hb,hg,_⟩;·cases e
 ·simp only[tG,tA,rG]at e;obtain⟨⟨rfl,_⟩,_⟩:=e;simp[rV,hg]
theorem Eo:∀(us:List WV)(i:Nat)(x:WV),Y0 (us.set i x)=((((Y0 us).set (i*4) x.2.1).set (i*4+1) x.2.2.1).set (i*4+2) (tL x.1.gone)).set (i*4+3) x.2.2.2|[],i,x=>by simp[Y0]|y::us,0,x=>by simp[Y0]|y::us,i+1,x=>by have ih:=Eo us i x;(have e:∀us:List WV,Y0 (y::us)=y.2.1::y.2.2.1::tL y.1.gone::y.2.2.2::Y0 us:=fun us=>by simp[Y0]);rw[pM,e,e,ih,show(i+1)*4=i*4+4by omega];rfl
theorem Q4.setT{rb:Nat}{w:F}{g n cap:Nat}{l:List Q9}(h:Q4 rb 0 w (J (I ⟨g,0,G⟩) n cap) l)(i:Nat)(vn vk vv:H)(p:Q9)(h1:Qf 0 w vn p.name)(h2:Qf 0 w vk p.key)(h3:Qf 0 w vv p.value):Q4 rb 0 ((((tD w ⟨g,i*4,G⟩ vn).setCell ⟨g,i*4+1,G⟩ vk).setCell ⟨g,i*4+2,G⟩ (tL p.gone)).setCell ⟨g,i*4+3,G⟩ vv) (J (I ⟨g,0,G⟩) n cap) (l.set i p):=by
 obtain⟨us,hul,hr,hp⟩:=h;have hgr:L w ((((tD w ⟨g,i*4,G⟩ vn).setCell ⟨g,i*4+1,G⟩ vk).setCell ⟨g,i*4+2,G⟩ (tL p.gone)).setCell ⟨g,i*4+3,G⟩ vv) (I g):=Qg (Qg (Qg (Qg (Qb _ _) _ _) _ _) _ _) _ _;rcases hr.2with⟨e,_⟩|⟨g',cap',cur,e,hb,hg,hn,hm,hs,ht⟩;·cases e
 ·simp only[tG,tA,rG]at e;obtain⟨⟨rfl,_⟩,rfl,rfl⟩:=e;have hrow:(I g:Option Nat)=G∨∃g' cur t fz,(I g:Option Nat)=I g'∧0<=g'∧w.heap[g']?=I (S cur t fz)∧t≠5:=.inr ⟨g,cur,_,_,rfl,tR _,hg,uG⟩;(have hus:us.length=l.length:=by rw[<-hul];simp);refine⟨us.set i (p,vn,vk,vv),by rw[List.map_set,hul],⟨by rw[Wr,rP,rP,hus],.inr ⟨g,cap,_,by rw[rP],hb,Qh (Qh (Qh (Qh hg))),by rw[rP];exact hn,hm,by simpa using hs,?_⟩⟩,?_⟩;(·rw[Eo,rP];simp only[Array.toList_setIfInBounds];rw[pD,pD,pD,pD,ht]);·intro x hx;rcases List.mem_or_eq_of_mem_set hx with hx|rfl;(·exact⟨(hp x hx).1.keptT hgr hrow,(hp x hx).2.1.keptT hgr hrow,(hp x hx).2.2.keptT hgr hrow⟩);·exact⟨h1.keptT hgr hrow,h2.keptT hgr hrow,h3.keptT hgr hrow⟩
def Ua(n k:List UInt8)(q:Q9):Bool:=tP (q.name=n)&&tP (q.key=k)
theorem Bu{α:Type}(p:α->Bool)(d:α):∀(l:List α)(m:Nat),m<l.length->(l.take m).any p=N->p (l.getD m d)=M->l.find? p=I (l.getD m d)|[],_,h,_,_=>by simp at h|a::l,0,_,_,h=>by have h':p a=M:=h;rw[List.find?_cons_of_pos h'];rfl|a::l,m+1,h0,h1,h2=>by rw[rC,pC,rN]at h1;rw[List.find?_cons_of_neg (by rw[h1.1];decide),Bu p d l m (by simpa using h0) h1.2 (by simpa using h2)];simp
theorem He{α:Type}(p:α->Bool)(l:List α)(h:l.any p=N):l.find? p=G:=by
 rw[List.find?_eq_none];intro x hx hp;rw[List.any_eq_false]at h;exact h x hx hp
theorem iS{l:List Q9}{n k:List UInt8}{m:Nat}(h:m<l.length)(h1:(l.take m).any (Ua n k)=N)(h2:Ua n k (l.getD m Qo)=M):lK l n k=I (l.getD m Qo):=Bu (Ua n k) Qo l m h h1 h2
theorem eA{l:List Q9}{n k:List UInt8}(h:l.any (Ua n k)=N):lK l n k=G:=He (Ua n k) l h
theorem Ov{l:FL}{t:Tx}{n k:List UInt8}(h:Ks l t n k≠0):U8 l t n k=N∧Vg l t n k=N∧U2 l t n k=[]:=by
 rw[U8,Vg,U2,if_neg h,if_neg h,if_neg h];exact⟨rfl,rfl,rfl⟩
theorem fE{l:FL}{t:Tx}{n k:List UInt8}(h:z8 l t≠0):Ks l t n k=z8 l t:=by
 rw[Ks,if_neg h]
theorem DK{l:FL}{t:Tx}(h:z8 l t=0):Zf l∧GO t:=by
 unfold z8 at h;by_cases hf:Q6 l=0;·rw[if_pos hf]at h;exact⟨(Xm l).1 hf,(yW t).1 h⟩
 ·rw[if_neg hf]at h;exact absurd h hf
theorem bY{l:FL}{t:Tx}{n k:List UInt8}(h:z8 l t=0){m:Nat}(hm:m<t.writes.length)(h1:(t.writes.take m).any (Ua n k)=N)(h2:Ua n k (t.writes.getD m Qo)=M):Ks l t n k=0∧U8 l t n k=M∧Vg l t n k=!(t.writes.getD m Qo).gone∧U2 l t n k=(t.writes.getD m Qo).value:=by
 obtain⟨hf,ht⟩:=DK h;have ha:=iS hm h1 h2;have hs:=OJ ha;have hw:=(XN _).1 (ht.wrs _ hs.1);rw[hs.2.1,hs.2.2]at hw;have h0:=Ll hf ht hw.1 hw.2.1;refine⟨h0,?_,?_,?_⟩;·rw[U8,if_pos h0,ha];rfl
 ·rw[Vg,if_pos h0,ha]
 ·rw[U2,if_pos h0,ha]
theorem bV{l:FL}{t:Tx}{n k:List UInt8}(h:z8 l t=0)(h1:t.writes.any (Ua n k)=N):Ks l t n k=U4 l n k∧U8 l t n k=N∧Vg l t n k=K3 l n k∧U2 l t n k=K7 l n k:=by
 obtain⟨hf,ht⟩:=DK h;have ha:=eA h1;have hfo:=(Xm l).2 hf;have hE:Ks l t n k=U4 l n k:=by rw[Ks,if_pos h,U4,GJ,if_pos hfo];by_cases hn:Qt n.length=0;(·rw[if_pos hn,if_pos hn,Xd,if_pos ((YM _).2 (Jm hf n))]);·rw[if_neg hn,if_neg hn]
 refine⟨hE,?_,?_,?_⟩;·rw[U8,ha];by_cases h0:Ks l t n k=0;(·rw[if_pos h0];rfl);·rw[if_neg h0]
 ·rw[Vg,ha];by_cases h0:Ks l t n k=0;(·rw[if_pos h0]);·rw[if_neg h0];rw[hE]at h0;rw[K3];by_cases hn:GJ l n=0;(·rw[U4,if_pos hn]at h0;rw[if_pos hn,TL];simp[h0]);·rw[if_neg hn]
 ·rw[U2,ha];by_cases h0:Ks l t n k=0;(·rw[if_pos h0]);·rw[if_neg h0];rw[hE]at h0;rw[K7];by_cases hn:GJ l n=0;(·rw[U4,if_pos hn]at h0;rw[if_pos hn,Rg,if_neg h0]);·rw[if_neg hn]
theorem IZ{X:PL}(h:ZC X)(k:List UInt8):ZC (zW X k):=⟨tN (MD X k) h.room,fun p hp=>h.pairs p (pW.1 hp).1,NQ X k h.rises⟩
theorem Dz{X:PL}(h:ZC X)(f u:List UInt8):ZC (Vi X f u):=⟨tN (If X f u) h.room,fun p hp=>h.pairs p (pW.1 hp).1,Bo X f u h.rises⟩
theorem Ho{X:PL}(h:ZC X){p:Pr}(hp:(1<=p.1.length∧p.1.length<=16)∧p.2.length<=32)(hl:(JE X p).length<=60):ZC (JE X p):=⟨hl,Na X p h.pairs hp,Po X p h.rises⟩
theorem kJ(n a b:List UInt8)(w:Q9):XU ⟨n,a,M,b⟩ w=M↔w.name=n∧lZ a b w.key=M:=by
 show(tP (n=w.name)&&lZ a b w.key)=M↔_;rw[rI,decide_eq_true_iff];exact⟨fun h=>⟨h.1.symm,h.2⟩,fun h=>⟨h.1.symm,h.2⟩⟩
theorem Oj{n a b:List UInt8}{w:Q9}(h:XU ⟨n,a,M,b⟩ w=N)(X:PL):KV n a b X w=X:=by
 rw[KV,if_neg];intro e;rw[(kJ n a b w).2 e]at h;cases h
theorem aW{n a b:List UInt8}{w:Q9}(h:XU ⟨n,a,M,b⟩ w=M)(hg:w.gone=M){X:PL}(hX:ZC X)(hw:QC w=0):Xd X w.key=0∧zZ X w.key=KV n a b X w∧ZC (KV n a b X w):=by
 have hk:=((XN w).1 hw).2.1;have h0:=jN hX hk;have e:KV n a b X w=zW X w.key:=by rw[KV,if_pos ((kJ n a b w).1 h),if_pos hg]
 refine⟨h0,by rw[e,zZ,if_pos h0],by rw[e];exact IZ hX _⟩
theorem bS{n a b:List UInt8}{w:Q9}(h:XU ⟨n,a,M,b⟩ w=M)(hg:w.gone=N){X:PL}(hX:ZC X)(hw:QC w=0):KV n a b X w=JE X (w.key,w.value)∧(60<(KV n a b X w).length->Ke X (w.key,w.value)=11)∧(¬60<(KV n a b X w).length->Ke X (w.key,w.value)=0∧Vr X (w.key,w.value)=KV n a b X w∧ZC (KV n a b X w)):=by
 have hk:=(XN w).1 hw;have hv:w.value.length<=32:=by have:=hk.2.2;rw[hg,if_neg (by decide)]at this;exact this
 have e:KV n a b X w=JE X (w.key,w.value):=by rw[KV,if_pos ((kJ n a b w).1 h),hg,if_neg (by decide)]
 have h0:V2 X (w.key,w.value)=0:=by rw[V2,if_pos ((YM X).2 hX)];exact(JA _).2 ⟨hk.2.1,hv⟩
 refine⟨e,fun hl=>?_,fun hl=>?_⟩;·rw[e]at hl;rw[Ke,if_pos h0,if_pos hl]
 ·rw[e]at hl;(have h1:Ke X (w.key,w.value)=0:=by rw[Ke,if_pos h0,if_neg hl]);refine⟨h1,by rw[e,Vr,if_pos h1],?_⟩;rw[e];exact Ho hX ⟨hk.2.1,hv⟩ (by omega)
def JC(n a b:List UInt8)(X:PL)(ws:List Q9):Int×PL:=(uB n a b X ws,if uB n a b X ws=0then SO n a b X ws else[])
theorem Lc(n a b:List UInt8)(X:PL):JC n a b X []=(0,X):=rfl
theorem Pz{n a b:List UInt8}{X:PL}{ws:List Q9}{m:Nat}(hm:m<ws.length)(h:¬60<(KV n a b X (ws.getD m Qo)).length):JC n a b X (ws.drop m)=JC n a b (KV n a b X (ws.getD m Qo)) (ws.drop (m+1)):=by
 rw[sS hm,show ws[m]=ws.getD m Qo by simp[hm]];rw[JC,JC,uB,if_neg h];rfl
theorem Cr{n a b:List UInt8}{X:PL}{ws:List Q9}{m:Nat}(hm:m<ws.length)(h:60<(KV n a b X (ws.getD m Qo)).length):JC n a b X (ws.drop m)=(11,[]):=by
 rw[sS hm,show ws[m]=ws.getD m Qo by simp[hm]];rw[JC,uB,if_pos h,if_neg (by decide)]
theorem dW{l:FL}{t:Tx}{n a b:List UInt8}(h:z8 l t≠0):JR l t n a b=z8 l t∧V1 l t n a b=[]:=by
 have e:JR l t n a b=z8 l t:=by rw[JR,if_neg h]
 exact⟨e,by rw[V1,e,if_neg h]⟩
theorem Sy{l:FL}{t:Tx}{n a b:List UInt8}(h:z8 l t=0)(h1:YA l n a b≠0):JR l t n a b=YA l n a b∧V1 l t n a b=[]:=by
 obtain⟨hf,ht⟩:=DK h;have hfo:=(Xm l).2 hf;have e:JR l t n a b=YA l n a b:=by(have hE:YA l n a b=if Qt n.length=0then(if Qn a.length=0then Qn b.length else Qn a.length)else Qt n.length:=by rw[YA,GJ,if_pos hfo];by_cases hn:Qt n.length=0;(·rw[if_pos hn,if_pos hn,Yz,Xd,if_pos ((YM _).2 (Jm hf n))]);·rw[if_neg hn,if_neg hn]);rw[JR,if_pos h,hE];by_cases hn:Qt n.length=0;(·rw[if_pos hn,if_pos hn];by_cases ha:Qn a.length=0;(·rw[if_pos ha,if_pos ha];by_cases hb:Qn b.length=0;(·rw[hE,if_pos hn,if_pos ha]at h1;exact absurd hb h1);·rw[if_neg hb]);·rw[if_neg ha,if_neg ha]);·rw[if_neg hn,if_neg hn]
 exact⟨e,by rw[V1,e,if_neg h1]⟩
theorem Az{l:FL}{t:Tx}{n a b:List UInt8}(h:z8 l t=0)(h1:YA l n a b=0):JC n a b (Kf l n a b) t.writes=(JR l t n a b,V1 l t n a b)∧ZC (Kf l n a b):=by
 obtain⟨hf,ht⟩:=DK h;have hfo:=(Xm l).2 hf;have hn:GJ l n=0:=by by_cases hn:GJ l n=0;(·exact hn);·rw[YA,if_neg hn]at h1;exact absurd h1 hn
 have hr:Yz (XY l n) a b=0:=by rw[YA,if_pos hn]at h1;exact h1
 have hg:=Ae hr;have hb:Qn b.length=0:=by rw[Yz,if_pos hg]at hr;exact hr
 have ha:Qn a.length=0:=(Zl _).2 (O9 hg);have hnn:Qt n.length=0:=(Zn _).2 (qY hn).2;have e:Kf l n a b=Vi (XY l n) a b:=by rw[Kf,if_pos hn,KM,if_pos hr]
 have eE:JR l t n a b=uB n a b (Vi (XY l n) a b) t.writes:=by rw[JR,if_pos h,if_pos hnn,if_pos ha,if_pos hb]
 refine⟨?_,by rw[e];exact Dz (Jm hf n) a b⟩;rw[e,JC,V1,eE]
def Ie:Prop:=∀(w:F)(v:H)(t:Tx),G0 w v t->xO t->sW O 60 #[v] w fun e w'=>e=tE (Y tC (Gi t))∧L w w' G
def Of:Prop:=∀(w:F)(v:H)(l:PL),Qp w v l->uI l->sW O 101 #[v] w fun e w'=>e=tE (Y tC (QA l))∧L w w' G
theorem FZ{w:F}{o:rM}{a:Act}{K:Act->F->Prop}{Q:Exit->Act->F->Prop}(s x:rH)(ho:o.op=.call {callee:=.builtin .append,args:=#[s,x],argTypes:=#[32,32]})(rb base:Nat)(hrb:base<=rb)(v:H)(l:PL)(hs:a.eval s=v)(hown:Kl rb base w v l)(vk vv:H)(p:Pr)(hk:Qf base w vk p.1)(hv:Qf base w vv p.2)(nb:Nat)(hb:w.heap[nb]?=I (S #[vk,vv] 35))(hx:a.eval x=J (I ⟨nb,0,G⟩) 1 1)(hl:(l.length+1)*48<=140737488355328)(hbase:rb<=w.heap.size)(h:∀v' w',Kl rb base w' v' (l++[p])->L w w' v.ownBlock->K (a.put o.dst v') w'):o.wp O a w K Q:=by
 obtain⟨i0,hi,hz0,hz1,hz2⟩:=r7 CD;have hrow:=hown.row hrb;obtain⟨vs,hvl,hr,hp⟩:=hown;refine wp_append_lies w s x 32 ho rb 35 i0 (sR #[J G 0 0,J G 0 0]) 2 48 Tryz.underlying32 hi hz0 hz1 hz2 rfl (by decide) v l.length (flat vs) hs hr ⟨nb,0,G⟩ 1 1 (flat [(vk,vv)]) hx rfl (rB (cs:=#[vk,vv]) hb) ?_ (by omega) (by unfold r8;omega) hl hbase _ rfl ?_;·intro u hu;simp only[flat,tM,rJ,rO,tK,tQ,or_false]at hu;rcases hu with rfl|rfl;(·exact Zc hk);·exact Zc hv
 ·intro g cap w' h1 h2 _ _;refine h _ w' ⟨vs++[(vk,vv)],by simp[hvl],?_,?_⟩ h2;(·rw[JU,tB];exact h1);·intro i hi;rw[Jh,Jh,hvl];by_cases hil:i<l.length;(·rw[if_pos hil,if_pos hil];exact⟨(hp i hil).1.kept h2 hrow,(hp i hil).2.kept h2 hrow⟩);·rw[if_neg hil,if_neg hil];(obtain rfl:i=l.length:=by simp at hi;omega);rw[oE];exact⟨hk.kept h2 hrow,hv.kept h2 hrow⟩
theorem Gf{w:F}{ops:Array rM}{o:rM}{a:Act}{K:Act->F->Prop}{Q:Exit->Act->F->Prop}{E:Prop}(hgd:o.guard=G)(s x:rH)(ho:o.op=.call {callee:=.builtin .append,args:=#[s,x],argTypes:=#[32,32]})(rb base:Nat)(hrb:base<=rb)(v:H)(l:PL)(hs:a.eval s=v)(hown:Kl rb base w v l)(vk vv:H)(p:Pr)(hk:Qf base w vk p.1)(hv:Qf base w vv p.2)(nb:Nat)(hb:w.heap[nb]?=I (S #[vk,vv] 35))(hx:a.eval x=J (I ⟨nb,0,G⟩) 1 1)(hl:(l.length+1)*48<=140737488355328)(hbase:rb<=w.heap.size)(h:∀v' w',Kl rb base w' v' (l++[p])->L w w' v.ownBlock->K (a.put o.dst v') w'):if sF o (pA ops a.tmps)=M then Oper.wp O o a w K Q else E:=by
 have hw:sF o (pA ops a.tmps)=M:=by simp[sF,hgd]
 rw[if_pos hw];exact FZ s x ho rb base hrb v l hs hown vk vv p hk hv nb hb hx hl hbase h
theorem RW(w:F):(sizeOf (O.elem 32)).run O w=.ok 2 w:=by
 kernel_rfl
theorem Qp.sliced{w:F}{a:Option sX}{cap:Nat}{l:PL}(h:Qp w (J a l.length cap) l)(i j:Nat)(hij:i<=j)(hj:j<=l.length):Qp w (sP a i j cap 2) ((l.take j).drop i):=by
 obtain⟨a',cap',e,hc,h⟩:=h;simp only[tG,true_and]at e;obtain⟨rfl,rfl⟩:=e;have hlen:((l.take j).drop i).length=j-i:=by simp;omega
 refine⟨if cap=i then a else a.map (·.add (i*2)),cap-i,by rw[hlen];rfl,by rw[hlen];omega,?_⟩;by_cases hci:cap=i;·left;exact⟨tJ (by rw[hlen];omega),fun _=>by omega⟩
 ·rw[if_neg hci];rcases h with⟨rfl,h⟩|⟨b,o,rfl,h⟩;(·left;refine⟨by simp,fun e=>?_⟩;cases a with|none=>have:=h rfl;simp at hj;omega|some x=>cases e);·right;refine⟨b,o+i*2,by simp[ZX],fun k hk=>?_⟩;rw[hlen]at hk;have:=h (i+k) (by omega);(have e:((l.take j).drop i).getD k ([],[])=l.getD (i+k) ([],[]):=by simp[show i+k<j by omega]);rw[e,show o+i*2+k*2=o+(i+k)*2by omega];exact this
theorem vR(a:Option sX)(cap:Nat)(l:PL)(n:Nat)(hn:n<=l.length)(hc:l.length<=cap):∃a1 c1,(∀W,(rT 32 (J a l.length cap) G (I (Y tC (n:Int))) G).run O W=.ok (J a1 n c1) W)∧∀W,Qp W (J a l.length cap) l->Qp W (J a1 n c1) (l.take n):=by
 refine⟨if cap=0then a else a.map (·.add (0*2)),cap-0,fun W=>?_,fun W h=>?_⟩;·rw[run_slice_h _ _ _ _ _ (by kernel_rfl) _ _ (by omega) (by omega),RW];simp only[rF,sP,sZ,pE]
 ·have:=h.sliced 0 n (by omega) hn;simpa only[sP,oD,pE]using this
theorem Pf(a:Option sX)(cap:Nat)(l:PL)(n:Nat)(hn:n<=l.length):∃a1 c1,(∀W,(rT 32 (J a l.length cap) (I (Y tC (n:Int))) G G).run O W=.ok (J a1 (l.length-n) c1) W)∧∀W,Qp W (J a l.length cap) l->Qp W (J a1 (l.length-n) c1) (l.drop n):=by
 refine⟨if cap=n then a else a.map (·.add (n*2)),cap-n,fun W=>?_,fun W h=>?_⟩;·rw[run_slice_l _ _ _ _ _ (by kernel_rfl) _ _ (by omega) (by omega),RW];simp only[rF,sP,sZ]
 ·have:=h.sliced n l.length hn (tZ _);simpa only[sP,sE]using this
theorem Mh(a:Option sX)(cap:Nat)(l:PL)(i j:Nat)(hij:i<=j)(hj:j<=l.length)(hc:l.length<=cap):∃a1 c1,(∀W,(rT 32 (J a l.length cap) (I (Y tC (i:Int))) (I (Y tC (j:Int))) G).run O W=.ok (J a1 (j-i) c1) W)∧∀W,Qp W (J a l.length cap) l->Qp W (J a1 (j-i) c1) ((l.take j).drop i):=by
 refine⟨if cap=i then a else a.map (·.add (i*2)),cap-i,fun W=>?_,fun W h=>?_⟩;·rw[run_slice_lh _ _ _ _ _ (by kernel_rfl) _ _ _ _ (by omega) (by omega) (by omega),RW];simp only[rF,sP,sZ]
 ·have:=h.sliced i j hij hj;simpa only[sP]using this
theorem Qp.cap{w:F}{a:Option sX}{n cap:Nat}{l:PL}(h:Qp w (J a n cap) l):l.length<=cap:=by
 obtain⟨a',cap',e,hc,_⟩:=h;simp only[tG]at e;obtain⟨_,_,rfl⟩:=e;exact hc
def bO:Prop:=∀(w:F)(v:H)(l:FL),ZS w v l->Gj l->sW O 69 #[v] w fun e w'=>e=tE (Y tC (Q6 l))∧L w w' G
def DM:Prop:=∀(w:F)(v u:H)(l:FL)(ws:List Q9),ZS w v l->QN w u ws->Gj l->uL ws->sW O 65 #[v,u] w fun e w'=>∃x,e=tE (sH #[x,Y tC (QJ l ws)])∧ZS w' x (ZW l ws)∧L w w' G
theorem ZA.down{base:Nat}{w:F}{v:H}{l:FL}(h:ZA base w v l)(b2:Nat)(hb:b2<=base):ZA b2 w v l:=by
 obtain⟨vs,h1,h2,h3⟩:=h;refine⟨vs,h1,⟨h2.1,?_⟩,h3⟩;rcases h2.2with h|⟨g,cap,cur,e,hb2,rest⟩;·exact .inl h
 ·exact .inr ⟨g,cap,cur,e,tN hb hb2,rest⟩
def yP:Prop:=∀(w:F)(v u:H)(l:FL)(ws:List Q9),ZS w v l->QN w u ws->Gj l->uL ws->sW O 65 #[v,u] w fun e w'=>∃x,e=tE (sH #[x,Y tC (QJ l ws)])∧ZA w.heap.size w' x (ZW l ws)∧L w w' G
theorem yP.ok(h:yP):DM:=fun w v u l ws h1 h2 h3 h4=>(h w v u l ws h1 h2 h3 h4).mono (by
 rintro e w'⟨x,rfl,hx,hg⟩;exact⟨x,rfl,hx.list,hg⟩)
theorem zC(w:F)(b i:Nat)(u:H):∃W:F,Hid (W=tD w ⟨b,i,G⟩ u)∧L w W (I b):=⟨_,rfl,YH w b i u⟩
theorem zN{w:F}{ops:Array rM}{o:rM}{a:Act}{K:Act->F->Prop}{Q:Exit->Act->F->Prop}{E:Prop}(hgd:o.guard=G)(s x:rH)(ho:o.op=.call {callee:=.builtin .append,args:=#[s,x],argTypes:=#[72,72]})(rb:Nat)(v:H)(l:List Q9)(hs:a.eval s=v)(hown:Q4 rb 0 w v l)(vn vk vv:H)(p:Q9)(h1:Qf 0 w vn p.name)(h2:Qf 0 w vk p.key)(h3:Qf 0 w vv p.value)(nb:Nat)(hb:w.heap[nb]?=I (S #[vn,vk,tL p.gone,vv] 118))(hx:a.eval x=J (I ⟨nb,0,G⟩) 1 1)(hl:(l.length+1)*80<=140737488355328)(hbase:rb<=w.heap.size)(h:∀v' w',Q4 rb 0 w' v' (l++[p])->L w w' v.ownBlock->K (a.put o.dst v') w'):if sF o (pA ops a.tmps)=M then Oper.wp O o a w K Q else E:=by
 have hw:sF o (pA ops a.tmps)=M:=by simp[sF,hgd]
 rw[if_pos hw];obtain⟨i0,hi,hz0,hz1,hz2⟩:=r7 cP;have hrow:v.ownBlock=G∨∃g cur t fz,v.ownBlock=I g∧0<=g∧w.heap[g]?=I (S cur t fz)∧t≠5:=by rcases hown.row with h|⟨g,cur,fz,e,_,h⟩;(·exact .inl h);·exact .inr ⟨g,cur,_,fz,e,tR _,h,uG⟩
 obtain⟨us,hul,hr,hp⟩:=hown;refine wp_append_lies w s x 72 ho rb 118 i0 (sR #[J G 0 0,J G 0 0,tL N,J G 0 0]) 4 80 Tryz.underlying72 hi hz0 hz1 hz2 rfl (by decide) v l.length (Y0 us) hs hr ⟨nb,0,G⟩ 1 1 (Y0 [(p,vn,vk,vv)]) hx rfl (rB (cs:=#[vn,vk,tL p.gone,vv]) hb) ?_ (by omega) (by unfold r8;omega) hl hbase _ rfl ?_;·intro u hu;simp only[Y0,tM,rJ,rO,tK,tQ,or_false]at hu;rcases hu with rfl|rfl|rfl|rfl;(·exact Zc h1);(·exact Zc h2);(·rfl);·exact Zc h3
 ·intro g cap w' q1 q2 _ _;refine h _ w' ⟨us++[(p,vn,vk,vv)],by simp[hul],?_,?_⟩ q2;(·rw[uT,tB];exact q1);·intro y hy;rcases sA.1 hy with hy|hy;(·exact⟨(hp y hy).1.keptT q2 hrow,(hp y hy).2.1.keptT q2 hrow,(hp y hy).2.2.keptT q2 hrow⟩);·simp only[tK,tQ,or_false]at hy;subst hy;exact⟨h1.keptT q2 hrow,h2.keptT q2 hrow,h3.keptT q2 hrow⟩
theorem yA{w:F}{ops:Array rM}{o:rM}{a:Act}{K:Act->F->Prop}{Q:Exit->Act->F->Prop}{E:Prop}(hgd:o.guard=G)(s x:rH)(ho:o.op=.call {callee:=.builtin .append,args:=#[s,x],argTypes:=#[71,71]})(rb:Nat)(v:H)(l:List Rd)(hs:a.eval s=v)(hown:ZN rb 0 w v l)(vn vk vv:H)(p:Rd)(h1:Qf 0 w vn p.name)(h2:Qf 0 w vk p.key)(h3:Qf 0 w vv p.last)(nb:Nat)(hb:w.heap[nb]?=I (S #[vn,vk,tL p.wide,vv] 137))(hx:a.eval x=J (I ⟨nb,0,G⟩) 1 1)(hl:(l.length+1)*80<=140737488355328)(hbase:rb<=w.heap.size)(h:∀v' w',ZN rb 0 w' v' (l++[p])->L w w' v.ownBlock->K (a.put o.dst v') w'):if sF o (pA ops a.tmps)=M then Oper.wp O o a w K Q else E:=by
 have hw:sF o (pA ops a.tmps)=M:=by simp[sF,hgd]
 rw[if_pos hw];obtain⟨i0,hi,hz0,hz1,hz2⟩:=r7 lG;have hrow:v.ownBlock=G∨∃g cur t fz,v.ownBlock=I g∧0<=g∧w.heap[g]?=I (S cur t fz)∧t≠5:=by rcases hown.row with h|⟨g,cur,fz,e,_,h⟩;(·exact .inl h);·exact .inr ⟨g,cur,_,fz,e,tR _,h,lI⟩
 obtain⟨us,hul,hr,hp⟩:=hown;refine wp_append_lies w s x 71 ho rb 137 i0 (sR #[J G 0 0,J G 0 0,tL N,J G 0 0]) 4 80 Tryz.underlying71 hi hz0 hz1 hz2 rfl (by decide) v l.length (Gs us) hs hr ⟨nb,0,G⟩ 1 1 (Gs [(p,vn,vk,vv)]) hx rfl (rB (cs:=#[vn,vk,tL p.wide,vv]) hb) ?_ (by omega) (by unfold r8;omega) hl hbase _ rfl ?_;·intro u hu;simp only[Gs,tM,rJ,rO,tK,tQ,or_false]at hu;rcases hu with rfl|rfl|rfl|rfl;(·exact Zc h1);(·exact Zc h2);(·rfl);·exact Zc h3
 ·intro g cap w' q1 q2 _ _;refine h _ w' ⟨us++[(p,vn,vk,vv)],by simp[hul],?_,?_⟩ q2;(·rw[Mv,tB];exact q1);·intro y hy;rcases sA.1 hy with hy|hy;(·exact⟨(hp y hy).1.keptT q2 hrow,(hp y hy).2.1.keptT q2 hrow,(hp y hy).2.2.keptT q2 hrow⟩);·simp only[tK,tQ,or_false]at hy;subst hy;exact⟨h1.keptT q2 hrow,h2.keptT q2 hrow,h3.keptT q2 hrow⟩
def cJ:Prop:=∀(w:F)(v:H)(r:Rq),Uz w->K9 w v r->yV r->sW O 55 #[v] w fun e w'=>∃x,e=tE (sH #[x,Y tC (Ug r)])∧Yt w' x (Zu r)∧L w w' G
def Z5(K:Int)(n q l v:Nat):Nat->Bool|0=>N|1=>!QP K 0&&tP (0<n)|2=>(!QP K 0&&tP (0<n))||(!QP K 1&&tP (0<q))|3=>((!QP K 0&&tP (0<n))||(!QP K 1&&tP (0<q)))||(!QP K 2&&tP (0<l))|_=>(((!QP K 0&&tP (0<n))||(!QP K 1&&tP (0<q)))||(!QP K 2&&tP (0<l)))||(!QP K 3&&tP (0<v))
def mL(K:Int)(n q l v:Nat):Int:=if(tP (Qt n≠0)&&QP K 0)=M then Qt n else if(tP (Qn q≠0)&&QP K 1)=M then Qn q else if(tP (Qn l≠0)&&QP K 2)=M then Qn l else if 32<v then 1 else if Z5 K n q l v 4=M then 4 else 0
theorem lC(r:Rq)(hk:1<=r.kind∧r.kind<=8):Yg r=mL r.kind r.name.length r.key.length r.last.length r.value.length:=by
 rw[Yg,if_pos hk];have hf:El r=if Z5 r.kind r.name.length r.key.length r.last.length r.value.length 4=M then 4 else 0:=by unfold El;by_cases h1:QU r.kind=N∧0<r.name.length+r.key.length;(·rw[if_pos h1,if_pos];by_cases h2:0<r.name.length;(·simp[Z5,QP,h1.1,h2]);·(have h3:0<r.key.length:=by omega);simp[Z5,QP,h1.1,h3]);·rw[if_neg h1];by_cases h2:(r.kind≠3∧0<r.last.length)∨(r.kind≠4∧0<r.value.length);(·rw[if_pos h2,if_pos];rcases h2 with⟨h2,h3⟩|⟨h2,h3⟩;(·simp[Z5,QP,h2,h3]);·simp[Z5,QP,h2,h3]);·rw[if_neg h2,if_neg];intro hb;simp only[Z5,QP,Bool.or_eq_true,rI,Bool.not_eq_true',decide_eq_true_iff,decide_eq_false_iff_not]at hb;rcases hb with((hb|hb)|hb)|hb;(·exact h1 ⟨hb.1,by omega⟩);(·exact h1 ⟨hb.1,by omega⟩);(·exact h2 (.inl hb));·exact h2 (.inr hb)
 rw[hf];unfold jD mL;generalize Z5 r.kind r.name.length r.key.length r.last.length r.value.length 4=B;show _=if(tP (Qt r.name.length≠0)&&QU r.kind)=M then _ else if(tP (Qn r.key.length≠0)&&QU r.kind)=M then _ else if(tP (Qn r.last.length≠0)&&tP (r.kind=3))=M then _ else _;have h3:r.kind=3->QU r.kind=M:=fun h=>by rw[h];decide
 generalize Qt r.name.length=A at*;generalize Qn r.key.length=C at*;generalize Qn r.last.length=D at*;cases hN:QU r.kind with|false=>(have h3':¬r.kind=3:=fun h=>by rw[h3 h]at hN;cases hN);simp[h3']|true=>by_cases hA:A=0;(·by_cases hC:C=0;(·by_cases h4:r.kind=3;(·by_cases hD:D=0;(·simp[hA,hC,h4,hD]);·simp[hA,hC,h4,hD]);·simp[hA,hC,h4]);·simp[hA,hC]);·simp[hA]
theorem iX(r:Rq)(hk:¬(1<=r.kind∧r.kind<=8)):Yg r=5:=by
 rw[Yg,if_neg hk]
def Hm:Prop:=∀(w:F)(v u a b:H)(l:FL)(t:Tx)(n k:List UInt8),ZS w v l->Gj l->G0 w u t->xO t->Qe w a n->Qe w b k->n.length<=140737488355328->k.length<=140737488355328->sW O 42 #[v,u,a,b] w fun e w'=>∃x,e=tE (sH #[sR #[tL (Vg l t n k),x],tL (U8 l t n k),Y tC (Ks l t n k)])∧Qf 0 w' x (U2 l t n k)∧L w w' G
theorem XQ{w:F}{b:Nat}{x y:H}{t:tX}(h:w.heap[b]?=I (S #[x,y] t)):w.cell? ⟨b,0,G⟩=I x∧w.cell? ⟨b,1,G⟩=I y∧w.frozen? ⟨b,0,G⟩=N∧w.frozen? ⟨b,1,G⟩=N:=by
 refine⟨?_,?_,?_,?_⟩<;>simp[tS,rV,h]
section
variable{D:List UInt8->List UInt8}{v u:Sv}
theorem Ce(hD:∀x,(D x).length=4)(h:ZK D v)(hs:v.synced=v.commits.length){k:Int}(hk:0<=k):UO D v k=Gb N v.tape v.commits v.out:=by
 obtain⟨j,h1,h2,h3,_⟩:=qN hD h hk;obtain rfl:j=v.commits.length:=by omega
 rw[h3,sE];have hm:=h.mark;rw[hs,sE]at hm;have:(⟨QT D v.commits,((QT D v.commits).length:Int)⟩:V9)=v.tape:=by rw[<-hm,<-h.data]
 rw[this]
end
section
variable{D:List UInt8->List UInt8}{v:Sv}
def YL(s:Nat)(r:Rq):Ac:=⟨1,(s:Int),0,Je r⟩
def qI:Ac:=⟨2,0,0,[]⟩
def Fe(k:Int):Rq:=⟨k,[],[],[],[]⟩
theorem Vf{s:Nat}(hs:s<=7){r:Rq}(hr:Kc r):JM (YL s r):=⟨⟨(by
 decide:(1:Int)<=1),(by
 decide:(1:Int)<=4)⟩,fun _=>⟨Int.natCast_nonneg _,by
 show(s:Int)<=7;omega⟩,(fun h=>by
 cases h),(by
 have:=(To hr).1;show(Je r).length<=4000;omega),(fun h=>absurd rfl h),(fun _=>rfl),(fun h=>absurd rfl h)⟩
theorem Nd:JM qI:=⟨⟨by
 decide,by
 decide⟩,(fun h=>by
 cases h),(fun h=>by
 cases h),(by
 decide),(fun _=>rfl),(fun _=>rfl),(fun _=>rfl)⟩
theorem FJ{k:Int}(h:k=1∨k=6∨k=7):Kc (Fe k):=by
 have hn:QU k=N:=by rcases h with h|h|h<;>subst h<;>decide
 exact⟨by rcases h with h|h|h<;>subst h<;>decide,(fun e=>by rw[show(Fe k).kind=k from rfl,hn]at e;cases e),(fun e=>by rw[show(Fe k).kind=k from rfl,hn]at e;cases e),(fun e=>by have:k=3:=e;omega),(by decide:(0:Nat)<=32),fun _=>rfl,fun _=>rfl,fun _=>rfl,fun _=>rfl⟩
end
section
structure Se where
  begun : Bool
  start : Int
  writes : List Q9
structure Md where
  ses : Nat -> Se
  states : List FL
variable{D:List UInt8->List UInt8}{v:Sv}{m:Md}
theorem Gv(v:Sv)(n:Nat):Zf (Qz v n):=vG _ _ VN
end
section
variable{D:List UInt8->List UInt8}{v:Sv}{m:Md}
theorem Cn{r:Rq}(hr:Kc r)(hk:r.kind=2∨r.kind=3):(1<=r.name.length∧r.name.length<=8)∧(1<=r.key.length∧r.key.length<=16):=by
 have:QU r.kind=M:=by rcases hk with e|e<;>rw[e]<;>decide
 exact⟨hr.name this,hr.key this⟩
end
def Ih:Prop:=∀(w:F)(v u:H)(t:Tx)(l:List XE),G0 w v t->xO t->Y9 w u l->At l->sW O 64 #[v,u] w fun e w'=>e=tE (sH #[tL (Jo t l),Y tC (TH t)])∧L w w' G
def fV:Prop:=∀(w:F)(v:H)(c:XE),J0 w v c->NW c->sW O 94 #[v] w fun e w'=>∃x,e=tE (sH #[x,Y tC (QW c)])∧Qe w' x (TP c)∧L w w' G
def Hl:Prop:=∀(w:F)(v:H)(c:XE),J0 w v c->NW c->sW O 105 #[v] w fun e w'=>e=tE (Y tC (QW c))∧L w w' G
theorem Tu(w:F):(sizeOf (O.elem 25)).run O w=.ok 1 w:=by
 kernel_rfl
theorem Qe.cap{w:F}{a:Option sX}{n cap:Nat}{bs:List UInt8}(h:Qe w (J a n cap) bs):bs.length<=cap∧n=bs.length:=by
 obtain⟨a',cap',e,hc,_⟩:=h;simp only[tG]at e;obtain⟨_,rfl,rfl⟩:=e;exact⟨hc,rfl⟩
theorem Qe.byte{w:F}{a:Option sX}{n cap:Nat}{bs:List UInt8}(h:Qe w (J a n cap) bs)(i:Nat)(hi:i<bs.length):∃b o,a=I ⟨b,o,G⟩∧KI w b o bs:=by
 obtain⟨a',cap',e,hc,h⟩:=h;simp only[tG]at e;obtain⟨rfl,rfl,rfl⟩:=e;rcases h with⟨rfl,_⟩|⟨b,o,rfl,h⟩;·simp at hi
 ·exact⟨b,o,rfl,h⟩
theorem Qe.sliced{w:F}{a:Option sX}{cap:Nat}{l:List UInt8}(h:Qe w (J a l.length cap) l)(i j:Nat)(hij:i<=j)(hj:j<=l.length):Qe w (sP a i j cap 1) ((l.take j).drop i):=by
 obtain⟨a',cap',e,hc,h⟩:=h;simp only[tG,true_and]at e;obtain⟨rfl,rfl⟩:=e;have hlen:((l.take j).drop i).length=j-i:=by simp;omega
 refine⟨if cap=i then a else a.map (·.add (i*1)),cap-i,by rw[hlen];rfl,by rw[hlen];omega,?_⟩;by_cases hci:cap=i;·left;exact⟨tJ (by rw[hlen];omega),fun _=>by omega⟩
 ·rw[if_neg hci];rcases h with⟨rfl,h⟩|⟨b,o,rfl,h⟩;(·left;refine⟨by simp,fun e=>?_⟩;cases a with|none=>have:=h rfl;simp at hj;omega|some x=>cases e);·right;refine⟨b,o+i,by simp[ZX],fun k hk=>?_⟩;rw[hlen]at hk;have:=h (i+k) (by omega);(have e:((l.take j).drop i).getD k 0=l.getD (i+k) 0:=by simp[show i+k<j by omega]);rw[e,show o+i+k=o+(i+k)by omega];exact this
theorem xJ(a:Option sX)(cap:Nat)(l:List UInt8)(n:Nat)(hn:n<=l.length)(hc:l.length<=cap):∃a1 c1,(∀W,(rT 25 (J a l.length cap) G (I (Y tC (n:Int))) G).run O W=.ok (J a1 n c1) W)∧∀W,Qe W (J a l.length cap) l->Qe W (J a1 n c1) (l.take n):=by
 refine⟨if cap=0then a else a.map (·.add (0*1)),cap-0,fun W=>?_,fun W h=>?_⟩;·rw[run_slice_h _ _ _ _ _ (by kernel_rfl) _ _ (by omega) (by omega),Tu];simp only[rF,sP,sZ,pE]
 ·have:=h.sliced 0 n (by omega) hn;simpa only[sP,oD,pE]using this
theorem GS(a:Option sX)(cap:Nat)(l:List UInt8)(i j:Nat)(hij:i<=j)(hj:j<=l.length)(hc:l.length<=cap):∃a1 c1,(∀W,(rT 25 (J a l.length cap) (I (Y tC (i:Int))) (I (Y tC (j:Int))) G).run O W=.ok (J a1 (j-i) c1) W)∧∀W,Qe W (J a l.length cap) l->Qe W (J a1 (j-i) c1) ((l.take j).drop i):=by
 refine⟨if cap=i then a else a.map (·.add (i*1)),cap-i,fun W=>?_,fun W h=>?_⟩;·rw[run_slice_lh _ _ _ _ _ (by kernel_rfl) _ _ _ _ (by omega) (by omega) (by omega),Tu];simp only[rF,sP,sZ]
 ·have:=h.sliced i j hij hj;simpa only[sP]using this
theorem VV(a:Option sX)(cap:Nat)(l:List UInt8)(n:Nat)(hn:n<=l.length):∃a1 c1,(∀W,(rT 25 (J a l.length cap) (I (Y tC (n:Int))) G G).run O W=.ok (J a1 (l.length-n) c1) W)∧∀W,Qe W (J a l.length cap) l->Qe W (J a1 (l.length-n) c1) (l.drop n):=by
 refine⟨if cap=n then a else a.map (·.add (n*1)),cap-n,fun W=>?_,fun W h=>?_⟩;·rw[run_slice_l _ _ _ _ _ (by kernel_rfl) _ _ (by omega) (by omega),Tu];simp only[rF,sP,sZ]
 ·have:=h.sliced n l.length hn (tZ _);simpa only[sP,sE]using this
theorem Co{ws:List Q9}(hn:ws.length<=1000)(h:∀w∈ws,QC w=0):uL ws:=⟨by
 omega,fun j hj=>by
 have h0:=h ws[j] (sN hj);rw[show ws[j]=ws.getD j Qo by simp[hj]]at h0;have h2:=(XN _).1 h0;have h3:(ws.getD j Qo).value.length<=32:=by have:=h2.2.2;split at this;(·rw[this];simp);·exact this
 exact⟨by omega,by omega,by omega⟩⟩
theorem Du{c:XE}(h:QW c=0):NW c:=by
 obtain⟨h1,h2,h3⟩:=(KQ c).1 h;exact⟨by omega,Co (by omega) h3⟩
def ID:Prop:=∀(w:F)(v u a b c:H)(l:FL)(t:Tx)(n k m:List UInt8),ZS w v l->Gj l->G0 w u t->xO t->Qe w a n->Qe w b k->Qe w c m->n.length<=140737488355328->k.length<=140737488355328->m.length<=140737488355328->sW O 44 #[v,u,a,b,c] w fun e w'=>∃x,e=tE (sH #[x,Y tC (JR l t n k m)])∧QK 0 w' x (V1 l t n k m)∧L w w' G
def I8:Prop:=∀(w:F)(v u x:H)(l:PL)(f t:List UInt8),Qp w v l->Qe w u f->Qe w x t->uI l->f.length<=140737488355328->t.length<=140737488355328->sW O 82 #[v,u,x] w fun e w'=>∃y,e=tE (sH #[y,Y tC (Yz l f t)])∧QK 0 w' y (KM l f t)∧L w w' G
def IE:Prop:=∀(w:F)(v r u t:H)(l:FL)(n k m:List UInt8),ZS w v l->Qe w r n->Qe w u k->Qe w t m->Gj l->n.length<=140737488355328->k.length<=140737488355328->m.length<=140737488355328->sW O 57 #[v,r,u,t] w fun e w'=>∃x,e=tE (sH #[x,Y tC (YA l n k m)])∧QK 0 w' x (Kf l n k m)∧L w w' G
def Mk:Prop:=∀(w:F)(v:H)(bs:List UInt8)(i:Int),Qe w v bs->sW O 125 #[v,Y tC i] w fun e w'=>e=tE (sH #[tL (AJ bs i).1,Y tC (AJ bs i).2])∧L w w' G
theorem Mk.of(hB:Mk)(w:F)(v:H)(k:List UInt8)(i:Nat)(hv:Qe w v k)(hk:1<=k.length∧k.length<=16)(hi:i<145):sW O 125 #[v,Y tC (i:Int)] w fun e w'=>e=tE (sH #[tL (ZY k i),Y tC 0])∧L w w' G:=by
 have:=hB w v k i hv;rw[eM k i hk hi]at this;exact this
def Ee:Prop:=∀(w:F)(v u:H)(a b:List UInt8),Qe w v a->Qe w u b->sW O 136 #[v,u] w fun e w'=>e=tE (sH #[Y tC (Th a b).1,Y tC (Th a b).2])∧L w w' G
theorem Ee.of(hP:Ee)(w:F)(v u:H)(a b:List UInt8)(hv:Qe w v a)(hu:Qe w u b)(ha:1<=a.length∧a.length<=16)(hb:1<=b.length∧b.length<=16):sW O 136 #[v,u] w fun e w'=>e=tE (sH #[Y tC (JH a b),Y tC 0])∧L w w' G:=by
 have:=hP w v u a b hv hu;rw[aR a b ha hb]at this;exact this
def S4:Prop:=∀(w:F)(v u:H)(t:Tx)(r:Q9),G0 w v t->xO t->Xb w u r->YN r->sW O 46 #[v,u] w fun e w'=>∃x,e=tE (sH #[x,Y tC (ZU t r)])∧GU w' x (Yf t r)∧L w w' G
def Hv:Prop:=∀(w:F)(v:H)(r:Rq),Uz w->K9 w v r->yV r->sW O 45 #[v] w fun e w'=>∃x,e=tE (sH #[x,Y tC (YP r)])∧Xb w' x (Zs r)∧L w w' G
def aS:Prop:=∀(w:F)(n t:Int),-9223372036854775808<=n->n<=9223372036854775807->-9223372036854775808<=t->t<=9223372036854775807->sW O 41 #[Y tC n,Y tC t] w fun e w'=>e=tE (tL (Ya n t))∧L w w' G
def dS:Prop:=∀(w:F)(v:H)(b:List UInt8),Uz w->Qe w v b->b.length<=140737488355328->sW O 28 #[v] w fun e w'=>∃x,e=tE (sH #[x,Y tC (XG b)])∧K9 w' x (JY b)∧L w w' G
theorem IL(b:List UInt8)(n:Nat)(h:n<b.length):Zv (b.drop n)=if n+1+(b.getD n 0).toNat<=b.length then I ((b.take (n+1+(b.getD n 0).toNat)).drop (n+1),b.drop (n+1+(b.getD n 0).toNat))else G:=by
 rw[sS h,Zv,show b[n]=b.getD n 0 by simp[h],pQ];by_cases hc:n+1+(b.getD n 0).toNat<=b.length;·rw[if_pos (by omega),if_pos hc,List.drop_take,List.drop_drop,Nat.add_sub_cancel_left]
 ·rw[if_neg (by omega),if_neg hc]
def RK(ws:List Q9):Prop:=∀p∈ws,p.name.length<=255∧p.key.length<=255∧p.value.length<=255
theorem Bm{ws:List Q9}{p:Q9}(h:RK ws)(hp:p.name.length<=255∧p.key.length<=255∧p.value.length<=255):RK (ws++[p]):=fun q hq=>by
 rcases sA.1 hq with hq|hq;·exact h q hq
 ·simp only[tK,tQ,or_false]at hq;rw[hq];exact hp
theorem W9{b:List UInt8}(h:4000<b.length):YE b=1∧JB b=Zm:=by
 have:YE b=1:=by rw[YE,if_pos h]
 exact⟨this,by rw[JB,this,if_neg (by decide)]⟩
theorem SU{b:List UInt8}(h:b.length<4):YE b=14∧JB b=Zm:=by
 have:YE b=14:=by rw[YE,if_neg (by omega),if_pos h]
 exact⟨this,by rw[JB,this,if_neg (by decide)]⟩
theorem Hx{b:List UInt8}(h1:¬4000<b.length)(h2:¬b.length<4)(h:G6 b=G):YE b=14∧JB b=Zm:=by
 have:YE b=14:=by rw[YE,if_neg h1,if_neg h2,h]
 exact⟨this,by rw[JB,this,if_neg (by decide)]⟩
theorem Hj{b r:List UInt8}{ws:List Q9}(h1:¬4000<b.length)(h2:¬b.length<4)(h:G6 b=I (ws,r))(hr:r.length≠0):YE b=4∧JB b=Zm:=by
 have:YE b=4:=by rw[YE,if_neg h1,if_neg h2,h];show(if r.length=0then _ else(4:Int))=4;rw[if_neg hr]
 exact⟨this,by rw[JB,this,if_neg (by decide)]⟩
theorem Ir{b r:List UInt8}{ws:List Q9}(h1:¬4000<b.length)(h2:¬b.length<4)(h:G6 b=I (ws,r))(hr:r.length=0):YE b=QW ⟨(Gc b:Int),ws⟩∧(YE b=0->JB b=⟨(Gc b:Int),ws⟩)∧(YE b≠0->JB b=Zm):=by
 have:YE b=QW ⟨(Gc b:Int),ws⟩:=by rw[YE,if_neg h1,if_neg h2,h];show(if r.length=0then _ else(4:Int))=_;rw[if_pos hr]
 refine⟨this,fun h0=>?_,fun h0=>?_⟩;·rw[JB,if_pos h0,h]
 ·rw[JB,if_neg h0]
def Xi(k:Int)(m:Nat)(p0 p1 p2 p3 r:List UInt8):Option (Rq×List UInt8):=match m with|0=>Yc k r|1=>Vl k p0 r|2=>Vn k p0 p1 r|3=>Vm k p0 p1 p2 r|_=>I (⟨k,p0,p1,p2,p3⟩,r)
theorem JZ(r:List UInt8):Jg M r=Zv r:=rfl
theorem jE(r:List UInt8)(h:r.length=0):Zv r=G:=by
 rw[tJ h];rfl
theorem uO(r:List UInt8)(h:0<r.length):Zv r=if 1+(r.getD 0 0).toNat<=r.length then I ((r.take (1+(r.getD 0 0).toNat)).drop 1,r.drop (1+(r.getD 0 0).toNat))else G:=by
 have:=IL r 0 h;rw[sM]at this;exact this
theorem qJ(k:Int)(p0 p1 p2 p3 r:List UInt8):(QP k 0=N->Xi k 0 p0 p1 p2 p3 r=Xi k 1 [] p1 p2 p3 r)∧(QP k 1=N->Xi k 1 p0 p1 p2 p3 r=Xi k 2 p0 [] p2 p3 r)∧(QP k 2=N->Xi k 2 p0 p1 p2 p3 r=Xi k 3 p0 p1 [] p3 r)∧(QP k 3=N->Xi k 3 p0 p1 p2 p3 r=Xi k 4 p0 p1 p2 [] r):=by
 refine⟨fun h=>?_,fun h=>?_,fun h=>?_,fun h=>?_⟩;·show Yc k r=Vl k [] r;rw[Yc,show QU k=N from h];rfl
 ·show Vl k p0 r=Vn k p0 [] r;rw[Vl,show QU k=N from h];rfl
 ·show Vn k p0 p1 r=Vm k p0 p1 [] r;rw[Vn,show tP (k=3)=N from h];rfl
 ·show Vm k p0 p1 p2 r=I (⟨k,p0,p1,p2,[]⟩,r);rw[Vm,show tP (k=4)=N from h];rfl
theorem Gd(k:Int)(p0 p1 p2 p3 r:List UInt8)(h0:Zv r=G)(m:Nat)(hm:m<4)(h:QP k m=M):Xi k m p0 p1 p2 p3 r=G:=by
 match m,hm with|0,_=>show Yc k r=G;rw[Yc,show QU k=M from h,JZ,h0]|1,_=>show Vl k p0 r=G;rw[Vl,show QU k=M from h,JZ,h0]|2,_=>show Vn k p0 p1 r=G;rw[Vn,show tP (k=3)=M from h,JZ,h0]|3,_=>show Vm k p0 p1 p2 r=G;rw[Vm,show tP (k=4)=M from h,JZ,h0]
theorem Ge(k:Int)(p0 p1 p2 p3 r p r2:List UInt8)(h0:Zv r=I (p,r2)):(QP k 0=M->Xi k 0 p0 p1 p2 p3 r=Xi k 1 p p1 p2 p3 r2)∧(QP k 1=M->Xi k 1 p0 p1 p2 p3 r=Xi k 2 p0 p p2 p3 r2)∧(QP k 2=M->Xi k 2 p0 p1 p2 p3 r=Xi k 3 p0 p1 p p3 r2)∧(QP k 3=M->Xi k 3 p0 p1 p2 p3 r=Xi k 4 p0 p1 p2 p r2):=by
 refine⟨fun h=>?_,fun h=>?_,fun h=>?_,fun h=>?_⟩;·show Yc k r=Vl k p r2;rw[Yc,show QU k=M from h,JZ,h0]
 ·show Vl k p0 r=Vn k p0 p r2;rw[Vl,show QU k=M from h,JZ,h0]
 ·show Vn k p0 p1 r=Vm k p0 p1 p r2;rw[Vn,show tP (k=3)=M from h,JZ,h0]
 ·show Vm k p0 p1 p2 r=I (⟨k,p0,p1,p2,p⟩,r2);rw[Vm,show tP (k=4)=M from h,JZ,h0]
def Ic(k:Int)(b:List UInt8):Int:=match Yc k b with|none=>14|I (_,x)=>if x.length=0then 0 else 4
def TQ(k:Int)(b:List UInt8):Rq:=match Yc k b with|none=>JT|I (r,x)=>if x.length=0then r else JT
theorem F6{k:Int}{b:List UInt8}(h:Yc k b=G):Ic k b=14∧TQ k b=JT:=by
 unfold Ic TQ;rw[h];exact⟨rfl,rfl⟩
theorem Ta{k:Int}{b x:List UInt8}{r:Rq}(h:Yc k b=I (r,x))(hx:0<x.length):Ic k b=4∧TQ k b=JT:=by
 unfold Ic TQ;rw[h];exact⟨if_neg (by omega),if_neg (by omega)⟩
theorem F3{k:Int}{b x:List UInt8}{r:Rq}(h:Yc k b=I (r,x))(hx:x.length=0):Ic k b=0∧TQ k b=r:=by
 unfold Ic TQ;rw[h];exact⟨if_pos hx,if_pos hx⟩
theorem eX{k:Int}{b:List UInt8}(h:Ic k b=0):(TQ k b).kind=k:=by
 match hD:Yc k b with|none=>rw[(F6 hD).1]at h;cases h|I (r,x)=>by_cases hx:x.length=0;(·rw[(F3 hD hx).2];exact(TN hD).2);·rw[(Ta hD (by omega)).1]at h;cases h
theorem eR{b:List UInt8}(h1:¬4000<b.length)(h2:¬b.length=0)(hk:1<=Up b∧Up b<=8):XG b=(if Ic (Up b) (b.drop 1)=0then Yg (TQ (Up b) (b.drop 1))else Ic (Up b) (b.drop 1))∧(XG b=0->JY b=TQ (Up b) (b.drop 1)):=by
 match hD:Yc (Up b) (b.drop 1)with|none=>obtain⟨e1,e2⟩:=F6 hD;(have:XG b=14:=by rw[XG,if_neg h1,if_neg h2,if_pos hk,hD]);rw[e1,this];exact⟨rfl,fun h=>by cases h⟩|I (r,x)=>(have hw:XG b=if x.length=0then Yg r else 4:=by rw[XG,if_neg h1,if_neg h2,if_pos hk,hD]);by_cases hx:x.length=0;(·obtain⟨e1,e2⟩:=F3 hD hx;rw[if_pos hx]at hw;rw[e1,e2,if_pos rfl];exact⟨hw,fun h=>by rw[JY,if_pos h,hD]⟩);·obtain⟨e1,e2⟩:=Ta hD (by omega);rw[if_neg hx]at hw;rw[e1,hw];exact⟨rfl,fun h=>by cases h⟩
theorem dU{k:Int}{b:List UInt8}(hb:b.length<=4000):(TQ k b).name.length<=4000∧(TQ k b).key.length<=4000∧(TQ k b).last.length<=4000∧(TQ k b).value.length<=4000:=by
 match hD:Yc k b with|none=>rw[(F6 hD).2];simp[JT]|I (r,x)=>by_cases hx:x.length=0;(·rw[(F3 hD hx).2];obtain⟨_,r1,r2,r3,h1,h2,h3,h4⟩:=uC hD;(have key:∀{c:Bool}{r p r2:List UInt8},Jg c r=I (p,r2)->p.length<=r.length∧r2.length<=r.length:=by intro c r p r2 h;have hf:=VU h;cases c with|false=>have:=Io h rfl;subst this;rw[hf];exact⟨tR _,by simp[Xp]⟩|true=>rw[hf];simp[Xp,XP];omega);have a1:=key h1;have a2:=key h2;have a3:=key h3;have a4:=key h4;omega);·rw[(Ta hD (by omega)).2];simp[JT]
section
variable{D:List UInt8->List UInt8}{v:Sv}
theorem LI(hD:∀x,(D x).length=4):∀(cs:List XE),(∀c∈cs,QW c=0)->(QT D cs).length<=600*cs.length|[],_=>by simp[QT]|c::cs,h=>by have h1:=(yU hD (h c sO)).2;have h2:=LI hD cs (fun x hx=>h x (tY _ hx));(have e:QT D (c::cs)=ZD D c++QT D cs:=by simp[QT]);rw[e,tB,sD];omega
theorem ZK.each(h:ZK D v):∀c∈v.commits,QW c=0:=fun c hc=>by
 obtain⟨i,hi,e⟩:=List.getElem_of_mem hc;have:=(h.goes.at i hi).1;rw[List.getD_eq_getElem?_getD,List.getElem?_eq_getElem hi,e]at this;exact this
theorem dA(hD:∀x,(D x).length=4)(h:ZK D v){s:Nat}(hb:v.begun s=M)(hw:¬(v.txns s).writes.length=0):Ve D v.tape (Yl v s)=0:=by
 have hm:=h.many;have hc:QW (Yl v s)=0:=Fv (h.tx s hb).1 hw v.commits.length hm;have h1:=(yU hD hc).2;have h2:=LI hD v.commits h.each;have hd:=h.data;rw[Ve,if_pos h.may,if_pos hc,if_neg (by rw[hd];omega)]
def F4(v:Sv)(s:Nat):Sv:=if(v.txns s).writes.length=0then ZM (Xl v s) (Do s (v.txns s).start)else if v.queue.length=6∨v.commits.length=300then ZM v (V5 s 11)else if Jo (v.txns s) v.commits=M then ZM (Xl v s) (V5 s 9)else if QJ (Qz v v.commits.length) (v.txns s).writes≠0then ZM (Xl v s) (V5 s (QJ (Qz v v.commits.length) (v.txns s).writes))else{Xl v s with commits:=v.commits++[Yl v s],queue:=v.queue++[s],waits:=Kr v.waits s M}
def Cv(v:Sv)(s:Nat)(r:Rq):Sv:=if r.kind=8then Ro v s r else if Q8 v s r=M then ZM v (V5 s 6)else if r.kind=1then ZM {v with begun:=Kr v.begun s M,txns:=Kr v.txns s ⟨(v.synced:Int),[],[]⟩} (Do s (v.synced:Int))else if r.kind=7then ZM (Xl v s) (V5 s 0)else if Ya (v.synced:Int) (v.txns s).start=N then ZM (Xl v s) (V5 s 10)else if r.kind=6then F4 v s else qD v s r
def dX(v:Sv)(s:Nat)(data:List UInt8):Sv:=if v.up=N then ZM v (V5 s 13)else if XG data=0then Cv v s (JY data)else ZM v (V5 s (XG data))
def bQ(v:Sv):Sv:={v with synced:=v.synced+v.queue.length,waits:=KN v.waits v.queue,queue:=[],out:=v.out++Uw v.synced v.queue}
def zY(v:Sv)(a:Ac):Sv:=if a.kind=1then dX v a.sess.toNat a.data else if a.kind=2then(if v.up=M then bQ v else v)else{v with up:=M}
def iP(l:List Ac):Sv:=l.foldl zY Dn
def Ga(v:Sv):Sv:={v with tape:=VQ}
theorem cX(v:Sv):yL (Ga v)=yL v:=rfl
theorem NS(v:Sv)(s:Nat)(x:Rd)(o:Rp):Ga (Ud v s x o)=Ud (Ga v) s x o:=by
 unfold Ud;show Ga (if Xh (v.txns s) x=0then _ else _)=if Xh (v.txns s) x=0then _ else _;split<;>rfl
theorem Hu(v:Sv)(s:Nat)(r:Rq):Ga (qD v s r)=qD (Ga v) s r:=by
 unfold qD;split;·unfold GH;show Ga (ZM (if ZU (v.txns s) _=0then _ else _) _)=ZM (if ZU (v.txns s) _=0then _ else _) _;split<;>rfl
 ·split;(·unfold Mw;show Ga (if U8 (Qz v (v.txns s).start.toNat) (v.txns s) r.name r.key=M then _ else _)=if U8 (Qz v (v.txns s).start.toNat) (v.txns s) r.name r.key=M then _ else _;split;(·rfl);·exact NS v s _ _);·unfold vS;show Ga (if JR (Qz v (v.txns s).start.toNat) (v.txns s) r.name r.key r.last=0then _ else _)=if JR (Qz v (v.txns s).start.toNat) (v.txns s) r.name r.key r.last=0then _ else _;split;(·exact NS v s _ _);·rfl
theorem Ci(hD:∀x,(D x).length=4)(h:ZK D v){s:Nat}(hb:v.begun s=M):Ga (Jn D v s)=F4 (Ga v) s:=by
 unfold Jn F4;show Ga (if(v.txns s).writes.length=0then _ else if v.queue.length=6∨v.commits.length=300then _ else if Jo (v.txns s) v.commits=M then _ else if QJ (Qz v v.commits.length) (v.txns s).writes≠0then _ else _)=if(v.txns s).writes.length=0then _ else if v.queue.length=6∨v.commits.length=300then _ else if Jo (v.txns s) v.commits=M then _ else if QJ (Qz v v.commits.length) (v.txns s).writes≠0then _ else _;by_cases h1:(v.txns s).writes.length=0;·rw[if_pos h1,if_pos h1];rfl
 ·rw[if_neg h1,if_neg h1];by_cases h2:v.queue.length=6∨v.commits.length=300;(·rw[if_pos h2,if_pos h2];rfl);·rw[if_neg h2,if_neg h2];by_cases h3:Jo (v.txns s) v.commits=M;(·rw[if_pos h3,if_pos h3];rfl);·rw[if_neg h3,if_neg h3];by_cases h4:QJ (Qz v v.commits.length) (v.txns s).writes≠0;(·rw[if_pos h4,if_pos h4];rfl);·rw[if_neg h4,if_neg h4,if_neg (fun e=>e (dA hD h hb h1))];rfl
theorem bI(hD:∀x,(D x).length=4)(h:ZK D v)(s:Nat)(r:Rq):Ga (qS D v s r)=Cv (Ga v) s r:=by
 unfold qS Cv;have es:Q8 (Ga v) s r=Q8 v s r:=rfl;rw[es];by_cases h1:r.kind=8;·rw[if_pos h1,if_pos h1];rfl
 ·rw[if_neg h1,if_neg h1];by_cases h2:Q8 v s r=M;(·rw[if_pos h2,if_pos h2];rfl);·rw[if_neg h2,if_neg h2];by_cases h3:r.kind=1;(·rw[if_pos h3,if_pos h3];rfl);·rw[if_neg h3,if_neg h3];(have hb:v.begun s=M:=by unfold Q8 at h2;rw[if_neg h3]at h2;cases hw:v.waits s<;>cases hv:v.begun s<;>simp[hw,hv]at h2⊢);by_cases h4:r.kind=7;(·rw[if_pos h4,if_pos h4];rfl);·rw[if_neg h4,if_neg h4];show Ga (if Ya (v.synced:Int) (v.txns s).start=N then _ else _)=if Ya (v.synced:Int) (v.txns s).start=N then _ else _;by_cases h5:Ya (v.synced:Int) (v.txns s).start=N;(·rw[if_pos h5,if_pos h5];rfl);·rw[if_neg h5,if_neg h5];by_cases h6:r.kind=6;(·rw[if_pos h6,if_pos h6];exact Ci hD h hb);·rw[if_neg h6,if_neg h6];exact Hu v s r
theorem cV(hD:∀x,(D x).length=4)(h:ZK D v){a:Ac}(ha:a.kind≠3):Ga (Vw D v a)=zY (Ga v) a:=by
 unfold Vw zY;by_cases h1:a.kind=1;·rw[if_pos h1,if_pos h1];unfold V6 dX;show Ga (if v.up=N then _ else _)=if v.up=N then _ else _;split;(·rfl);·split;(·exact bI hD h _ _);·rfl
 ·rw[if_neg h1,if_neg h1];by_cases h2:a.kind=2;(·rw[if_pos h2,if_pos h2];show Ga (if v.up=M then _ else _)=if v.up=M then _ else _;split<;>rfl);·rw[if_neg h2,if_neg h2,if_neg ha];rfl
theorem Ni(hD:∀x,(D x).length=4):∀(l:List Ac)(v:Sv),ZK D v->(∀a∈l,JM a∧a.kind≠3)->Ga (l.foldl (Vw D) v)=l.foldl zY (Ga v)|[],_,_,_=>rfl|a::l,v,h,ha=>by have h1:=ha a sO;rw[pX,pX,Ni hD l _ (h.act hD h1.1) (fun x hx=>ha x (tY _ hx)),cV hD h h1.2]
theorem aZ(hD:∀x,(D x).length=4)(l:List Ac)(h:∀a∈l,JM a∧a.kind≠3):yL (Uu D l)=yL (iP l):=by
 rw[<-cX,Uu,Ni hD l Dn (TO D) h];rfl
end
def XV(r:Rq):Nat->List UInt8|0=>[sY r.kind.toNat]|1=>[sY r.kind.toNat]++Xp (QP r.kind 0) r.name|2=>[sY r.kind.toNat]++Xp (QP r.kind 0) r.name++Xp (QP r.kind 1) r.key|3=>[sY r.kind.toNat]++Xp (QP r.kind 0) r.name++Xp (QP r.kind 1) r.key++Xp (QP r.kind 2) r.last|_=>[sY r.kind.toNat]++Xp (QP r.kind 0) r.name++Xp (QP r.kind 1) r.key++Xp (QP r.kind 2) r.last++Xp (QP r.kind 3) r.value
theorem WU(r:Rq):XV r 4=Je r:=by
 show[sY r.kind.toNat]++Xp (QU r.kind) r.name++Xp (QU r.kind) r.key++Xp (tP (r.kind=3)) r.last++Xp (tP (r.kind=4)) r.value=_;rw[Je,zR];simp[List.append_assoc]
theorem Wc{r:Rq}(h:Kc r)(m:Nat):(XV r m).length<=200:=by
 have k1:r.name.length<=8:=by by_cases e:QU r.kind=M;(·exact(h.name e).2);·rw[h.noName (by simpa using e)];simp
 have k2:r.key.length<=16:=by by_cases e:QU r.kind=M;(·exact(h.key e).2);·rw[h.noKey (by simpa using e)];simp
 have k3:r.last.length<=16:=by by_cases e:r.kind=3;(·exact(h.last e).2);·rw[h.noLast e];simp
 have k4:=h.value;have l1:=KX (QP r.kind 0) r.name;have l2:=KX (QP r.kind 1) r.key;have l3:=KX (QP r.kind 2) r.last;have l4:=KX (QP r.kind 3) r.value;match m with|0=>simp[XV]|1=>simp only[XV,tB,sB];omega|2=>simp only[XV,tB,sB];omega|3=>simp only[XV,tB,sB];omega|m+4=>simp only[XV,tB,sB];omega
structure Vt where
  rest : List UInt8
  short : Bool
def FP(r:Vt)(n:Nat):List UInt8:=if r.short=M∨r.rest.length<n then[]else r.rest.take n
def BY(r:Vt)(n:Nat):Vt:=if r.short=M∨r.rest.length<n then⟨r.rest,M⟩else⟨r.rest.drop n,N⟩
theorem Tg{r:Vt}{n:Nat}(h:r.short=M∨r.rest.length<n):FP r n=[]∧BY r n=⟨r.rest,M⟩:=⟨if_pos h,if_pos h⟩
theorem vQ{r:Vt}{n:Nat}(h:¬(r.short=M∨r.rest.length<n)):FP r n=r.rest.take n∧BY r n=⟨r.rest.drop n,N⟩:=⟨if_neg h,if_neg h⟩
theorem dM(r:Vt)(n:Nat):(FP r n).length<=n:=by
 unfold FP;split;·simp
 ·rw[rW];omega
def Xg(r:Vt):Vt:=BY r 1
def JD(r:Vt):Nat:=if(Xg r).short=M then 0 else((FP r 1).getD 0 0).toNat
theorem Yo(r:Vt):JD r<256:=by
 unfold JD;split;·omega
 ·exact((FP r 1).getD 0 0).toNat_lt
theorem YU(x:UInt8)(l:List UInt8):Xg ⟨x::l,N⟩=⟨l,N⟩∧JD ⟨x::l,N⟩=x.toNat:=by
 have h:¬((⟨x::l,N⟩:Vt).short=M∨(⟨x::l,N⟩:Vt).rest.length<1):=by simp
 obtain⟨h1,h2⟩:=vQ h;have h3:Xg ⟨x::l,N⟩=⟨l,N⟩:=h2;refine⟨h3,?_⟩;rw[JD,h3,h1,if_neg (by simp)];rfl
theorem Pm{r:Vt}(h:r.short=M)(n:Nat):(BY r n).short=M:=by
 rw[(Tg (.inl h)).2]
theorem Kd{r:Vt}(h:r.short=M):(Xg r).short=M:=Pm h 1
theorem yY:(Xg ⟨[],N⟩).short=M:=rfl
def Ly(r:Vt):List UInt8:=FP (Xg r) (JD r)
def KH(r:Vt):Vt:=BY (Xg r) (JD r)
theorem VJ{r:Vt}(h:r.short=M):(KH r).short=M:=Pm (Kd h) _
theorem Pb{l p l2:List UInt8}(h:Zv l=I (p,l2)):Ly ⟨l,N⟩=p∧KH ⟨l,N⟩=⟨l2,N⟩:=by
 cases l with|nil=>cases h|cons x l=>rw[Zv]at h;obtain⟨h1,h2⟩:=YU x l;unfold Ly KH;rw[h1,h2];by_cases hx:x.toNat<=l.length;(·rw[if_pos hx]at h;simp only[tA,rU]at h;obtain⟨rfl,rfl⟩:=h;exact vQ (by simp;omega));·rw[if_neg hx]at h;cases h
theorem F7{l:List UInt8}(h:Zv l=G):(KH ⟨l,N⟩).short=M:=by
 cases l with|nil=>exact Pm yY _|cons x l=>rw[Zv]at h;obtain⟨h1,h2⟩:=YU x l;unfold KH;rw[h1,h2];by_cases hx:x.toNat<=l.length;(·rw[if_pos hx]at h;cases h);·rw[(Tg (.inr (by show l.length<x.toNat;omega))).2]
theorem Ry(r:Vt):(Ly r).length<=255:=tN (dM _ _) (pR (Yo r))
def Ti(r:Vt):Q9:=if JD (KH (KH r))=255then⟨Ly r,Ly (KH r),[],M⟩else⟨Ly r,Ly (KH r),Ly (KH (KH r)),N⟩
def BD(r:Vt):Vt:=if JD (KH (KH r))=255then Xg (KH (KH r))else KH (KH (KH r))
theorem CA{r:Vt}(h:r.short=M):(BD r).short=M:=by
 unfold BD;split;·exact Kd (VJ (VJ h))
 ·exact VJ (VJ (VJ h))
theorem Rk{r:Vt}(h:(KH (KH r)).short=M):(BD r).short=M:=by
 unfold BD;split;·exact Kd h
 ·exact VJ h
theorem eU{l l2:List UInt8}{p:Q9}(h:Ja l=I (p,l2)):Ti ⟨l,N⟩=p∧BD ⟨l,N⟩=⟨l2,N⟩:=by
 unfold Ja at h;cases h1:Zv l with|none=>rw[h1]at h;cases h|some q=>obtain⟨n,la⟩:=q;rw[h1]at h;have h:M5 n la=I (p,l2):=h;unfold M5 at h;obtain⟨a1,a2⟩:=Pb h1;cases h2:Zv la with|none=>rw[h2]at h;cases h|some q=>obtain⟨k,lb⟩:=q;rw[h2]at h;have h:uZ n k lb=I (p,l2):=h;unfold uZ at h;obtain⟨b1,b2⟩:=Pb h2;unfold Ti BD;rw[a1,a2,b1,b2];cases lb with|nil=>cases h|cons x lb=>obtain⟨c1,c2⟩:=YU x lb;by_cases hx:(x::lb).head?=I 255;(·rw[if_pos hx]at h;simp only[tA,rU]at h;obtain⟨rfl,rfl⟩:=h;have:x=255:=oG hx;subst this;rw[c2,c1,if_pos (by rfl),if_pos (by rfl)];exact⟨rfl,rfl⟩);·rw[if_neg hx]at h;have hne:¬x.toNat=255:=fun e=>hx (by rw[show x=255from pS.1 e];rfl);rw[c2,if_neg hne,if_neg hne];cases h3:Zv (x::lb)with|none=>rw[h3]at h;cases h|some q=>obtain⟨v,lc⟩:=q;rw[h3]at h;simp only[tA,rU]at h;obtain⟨rfl,rfl⟩:=h;obtain⟨d1,d2⟩:=Pb h3;rw[d1,d2];exact⟨rfl,rfl⟩
theorem d9{l:List UInt8}(h:Ja l=G):(BD ⟨l,N⟩).short=M:=by
 unfold Ja at h;cases h1:Zv l with|none=>exact Rk (VJ (F7 h1))|some q=>obtain⟨n,la⟩:=q;rw[h1]at h;have h:M5 n la=G:=h;unfold M5 at h;obtain⟨a1,a2⟩:=Pb h1;cases h2:Zv la with|none=>exact Rk (by rw[a2];exact F7 h2)|some q=>obtain⟨k,lb⟩:=q;rw[h2]at h;have h:uZ n k lb=G:=h;unfold uZ at h;obtain⟨b1,b2⟩:=Pb h2;unfold BD;rw[a2,b2];cases lb with|nil=>split;(·exact yY);·exact F7 rfl|cons x lb=>obtain⟨c1,c2⟩:=YU x lb;by_cases hx:(x::lb).head?=I 255;(·rw[if_pos hx]at h;cases h);·rw[if_neg hx]at h;have hne:¬x.toNat=255:=fun e=>hx (by rw[show x=255from pS.1 e];rfl);rw[c2,if_neg hne];cases h3:Zv (x::lb)with|none=>exact F7 h3|some q=>obtain⟨v,lc⟩:=q;rw[h3]at h;cases h
theorem OI(r:Vt):(Ti r).name.length<=255∧(Ti r).key.length<=255∧(Ti r).value.length<=255:=by
 unfold Ti;split;·exact⟨Ry _,Ry _,by simp⟩
 ·exact⟨Ry _,Ry _,Ry _⟩
def UC:Nat->Vt->Vt|0,r=>r|n+1,r=>BD (UC n r)
def Uv:Nat->Vt->List Q9|0,_=>[]|n+1,r=>Uv n r++[Ti (UC n r)]
theorem Db:∀(n:Nat)(r:Vt),(Uv n r).length=n|0,_=>rfl|n+1,r=>by rw[Uv,tB,Db n r];rfl
theorem Np:∀(n:Nat)(r:Vt),RK (Uv n r)|0,_=>fun p hp=>by simp[Uv]at hp|n+1,r=>Bm (Np n r) (OI _)
theorem Nk:∀(n:Nat){r:Vt},r.short=M->(UC n r).short=M|0,_,h=>h|n+1,_,h=>CA (Nk n h)
theorem vO:∀(n:Nat){l l2:List UInt8}{ws:List Q9},ZZ n l=I (ws,l2)->Uv n ⟨l,N⟩=ws∧UC n ⟨l,N⟩=⟨l2,N⟩|0,l,l2,ws,h=>by rw[ZZ]at h;simp only[tA,rU]at h;obtain⟨rfl,rfl⟩:=h;exact⟨rfl,rfl⟩|n+1,l,l2,ws,h=>by rw[xK]at h;cases h1:ZZ n l with|none=>rw[h1]at h;cases h|some q=>obtain⟨ws1,l1⟩:=q;rw[h1]at h;have h:(match Ja l1 with|I (w,r2)=>I (ws1++[w],r2)|none=>G)=I (ws,l2):=h;obtain⟨e1,e2⟩:=vO n h1;cases h2:Ja l1 with|none=>rw[h2]at h;cases h|some q=>obtain⟨p,l3⟩:=q;rw[h2]at h;simp only[tA,rU]at h;obtain⟨rfl,rfl⟩:=h;obtain⟨d1,d2⟩:=eU h2;rw[Uv,UC,e1,e2,d1,d2];exact⟨rfl,rfl⟩
theorem Ct:∀(n:Nat){l:List UInt8},ZZ n l=G->(UC n ⟨l,N⟩).short=M|0,l,h=>by rw[ZZ]at h;cases h|n+1,l,h=>by rw[xK]at h;cases h1:ZZ n l with|none=>exact CA (Ct n h1)|some q=>obtain⟨ws1,l1⟩:=q;rw[h1]at h;have h:(match Ja l1 with|I (w,r2)=>I (ws1++[w],r2)|none=>G)=G:=h;obtain⟨e1,e2⟩:=vO n h1;cases h2:Ja l1 with|none=>rw[UC,e2];exact d9 h2|some q=>obtain⟨p,l3⟩:=q;rw[h2]at h;cases h
def EJ(r:Vt):Vt:=UC (JD (Xg (Xg (Xg r)))) (Xg (Xg (Xg (Xg r))))
def EX(r:Vt):XE:=⟨((65536*JD r+256*JD (Xg r)+JD (Xg (Xg r)):Nat):Int),Uv (JD (Xg (Xg (Xg r)))) (Xg (Xg (Xg (Xg r))))⟩
theorem D4(r:Vt):RK (EX r).writes∧(EX r).writes.length<=255:=⟨Np _ _,by
 show(Uv _ _).length<=255;rw[Db];exact pR (Yo _)⟩
theorem L9(b:List UInt8)(h:¬b.length<4):JD ⟨b,N⟩=(b.getD 0 0).toNat∧JD (Xg ⟨b,N⟩)=(b.getD 1 0).toNat∧JD (Xg (Xg ⟨b,N⟩))=(b.getD 2 0).toNat∧JD (Xg (Xg (Xg ⟨b,N⟩)))=(b.getD 3 0).toNat∧Xg (Xg (Xg (Xg ⟨b,N⟩)))=⟨b.drop 4,N⟩:=by
 match b,h with|[],h=>exact absurd (by simp) h|[_],h=>exact absurd (by simp) h|[_,_],h=>exact absurd (by simp) h|[_,_,_],h=>exact absurd (by simp) h|x0::x1::x2::x3::b,_=>obtain⟨a1,a2⟩:=YU x0 (x1::x2::x3::b);obtain⟨b1,b2⟩:=YU x1 (x2::x3::b);obtain⟨c1,c2⟩:=YU x2 (x3::b);obtain⟨d1,d2⟩:=YU x3 b;rw[a1,b1,c1,d1];exact⟨a2,b2,c2,d2,rfl⟩
theorem i8(b:List UInt8)(h:b.length<4):(EJ ⟨b,N⟩).short=M:=by
 unfold EJ;refine Nk _ ?_;match b,h with|[],_=>exact Kd (Kd (Kd yY))|[x],_=>rw[(YU x []).1];exact Kd (Kd yY)|[x,y],_=>rw[(YU x [y]).1,(YU y []).1];exact Kd yY|[x,y,z],_=>rw[(YU x [y,z]).1,(YU y [z]).1,(YU z []).1];exact yY|_::_::_::_::_,h=>exact absurd h (by simp only[sD];omega)
theorem Oz{b:List UInt8}(h0:¬4000<b.length)(h:(EJ ⟨b,N⟩).short=M):YE b=14∧JB b=Zm:=by
 by_cases h4:b.length<4;·exact SU h4
 ·obtain⟨_,_,_,e3,e4⟩:=L9 b h4;cases hb:G6 b with|none=>exact Hx h0 h4 hb|some q=>obtain⟨ws,l⟩:=q;obtain⟨_,e5⟩:=vO _ hb;unfold EJ at h;rw[e3,e4,e5]at h;cases h
theorem DN{b:List UInt8}(h:(EJ ⟨b,N⟩).short=N):¬b.length<4∧G6 b=I ((EX ⟨b,N⟩).writes,(EJ ⟨b,N⟩).rest)∧(Gc b:Int)=(EX ⟨b,N⟩).turn:=by
 by_cases h4:b.length<4;·rw[i8 b h4]at h;cases h
 ·obtain⟨e0,e1,e2,e3,e4⟩:=L9 b h4;refine⟨h4,?_,?_⟩;(·cases hb:G6 b with|none=>have:=Ct _ hb;unfold EJ at h;rw[e3,e4,this]at h;cases h|some q=>obtain⟨ws,l⟩:=q;obtain⟨e5,e6⟩:=vO _ hb;unfold EJ EX;rw[e3,e4,e5,e6]);·unfold EX;rw[e0,e1,e2];rfl
theorem f8{b:List UInt8}(h0:¬4000<b.length)(h:(EJ ⟨b,N⟩).short=N)(hr:(EJ ⟨b,N⟩).rest.length≠0):YE b=4∧JB b=Zm:=by
 obtain⟨h4,hb,_⟩:=DN h;exact Hj h0 h4 hb hr
theorem fQ{b:List UInt8}(h0:¬4000<b.length)(h:(EJ ⟨b,N⟩).short=N)(hr:(EJ ⟨b,N⟩).rest.length=0):YE b=QW (EX ⟨b,N⟩)∧(YE b=0->JB b=EX ⟨b,N⟩)∧(YE b≠0->JB b=Zm):=by
 obtain⟨h4,hb,ht⟩:=DN h;have:=Ir h0 h4 hb hr;rw[ht]at this;exact this
theorem ZI(w:F)(o:Obj):∃W:F,Hid (W=w.alloc o)∧L w W G∧Hid (W.heap[w.heap.size]?=I o):=⟨w.alloc o,rfl,sV _ _ _,oF w o⟩
theorem kL(w:F)(b i:Nat)(u:H):∃W:F,Hid (W=tD w ⟨b,i,G⟩ u)∧L w W (I b):=⟨_,rfl,YH w b i u⟩
theorem mM:(194:Nat)≠5:=by
 decide
theorem gK:(194:Nat)≠118:=by
 decide
theorem Qe.rdr{w w':F}{b:Nat}{a0:Option sX}{n0 c0:Nat}{s:Bool}{t:tX}{v:H}{bs:List UInt8}(h:Qe w v bs)(hb:w.heap[b]?=I (S #[J a0 n0 c0,tL s] t))(hg:L w w' (I b)):Qe w' v bs:=by
 obtain⟨a,cap,rfl,hc,h⟩:=h;refine⟨a,cap,rfl,hc,?_⟩;rcases h with h|⟨pb,o,rfl,h⟩;·exact .inl h
 ·by_cases h0:bs=[];(·exact .inl ⟨h0,fun e=>by cases e⟩);·refine .inr ⟨pb,o,rfl,h.grown hg ?_⟩;intro e;cases e;have hc0:=h 0 (rS.2 h0);simp only[tS,hb,Nat.add_zero]at hc0;match o,hc0 with|0,hc0=>simp at hc0|1,hc0=>simp at hc0|o+2,hc0=>simp at hc0
structure Zd (w0 w : F) (b : Nat) (r : Vt) : Prop where
  at_ : ∃ a cap, w.heap[b]? = I (S #[J a r.rest.length cap, tL r.short] 194) ∧ Qe w0 (J a r.rest.length cap) r.rest
  old : ∃ a n c s, w0.heap[b]? = I (S #[J a n c, tL s] 194)
  grown : L w0 w (I b)
theorem Zd.lt{w0 w:F}{b:Nat}{r:Vt}(h:Zd w0 w b r):b<w.heap.size:=by
 obtain⟨a,cap,h,_⟩:=h.at_;exact(tI.1 h).1
theorem Zd.now{w0 w:F}{b:Nat}{r:Vt}(h:Zd w0 w b r){v:H}{bs:List UInt8}(hv:Qe w0 v bs):Qe w v bs:=by
 obtain⟨a,n,c,s,h0⟩:=h.old;exact hv.rdr h0 h.grown
theorem Zd.row{w0 w:F}{b:Nat}{r:Vt}(h:Zd w0 w b r):I b=G∨∃g cur t fz,I b=I g∧0<=g∧w.heap[g]?=I (S cur t fz)∧t≠5:=by
 obtain⟨a,cap,h,_⟩:=h.at_;exact .inr ⟨b,_,_,_,rfl,tR _,h,mM⟩
theorem Qf.rdr{w0 w w':F}{b:Nat}{r:Vt}{v:H}{bs:List UInt8}(h:Qf 0 w v bs)(hb:Zd w0 w b r)(hg:L w w' (I b)):Qf 0 w' v bs:=h.keptT hg hb.row
theorem Xt{w w':F}(hg:L w w' G)(r:Option Nat):L w w' r:=⟨hg.os,hg.tape,hg.output,hg.size,fun i hi _=>hg.block i hi (by
 simp)⟩
theorem Zd.kept{w0 w w':F}{b:Nat}{r:Vt}(h:Zd w0 w b r)(hg:L w w' G):Zd w0 w' b r:=by
 have hl:=h.lt;obtain⟨a,cap,h1,hs⟩:=h.at_;exact⟨⟨a,cap,by rw[hg.block b hl (by simp)];exact h1,hs⟩,h.old,Qa h.grown (Xt hg _)⟩
theorem Xe{w w':F}{b:Nat}(hg:L w w' (I b)){c:Nat}{o:Obj}(hc:w.heap[c]?=I o)(hne:c≠b):w'.heap[c]?=I o:=by
 rw[hg.block c (tI.1 hc).1 (by simpa using hne)];exact hc
theorem Zd.apart{w0 w w':F}{b:Nat}{r:Vt}(h:Zd w0 w b r){c:Nat}(hne:b≠c)(hc:w0.heap.size<=c)(hg:L w w' (I c)):Zd w0 w' b r:=by
 have hl:=h.lt;obtain⟨a,cap,h1,hs⟩:=h.at_;exact⟨⟨a,cap,by rw[hg.block b hl (by simpa using hne)];exact h1,hs⟩,h.old,Jz h.grown hc hg⟩
theorem Q4.rdr{rb:Nat}{w0 w w':F}{b:Nat}{r:Vt}{v:H}{l:List Q9}(h:Q4 rb 0 w v l)(hb:Zd w0 w b r)(hg:L w w' (I b)):Q4 rb 0 w' v l:=by
 obtain⟨a,cap,h0,_⟩:=hb.at_;exact h.kept hg (.inr (h.ne h0 gK)) hb.row
theorem Zd.ownV{rb:Nat}{w0 w w':F}{b:Nat}{r:Vt}{v:H}{l:List Q9}(h:Zd w0 w b r)(ho:Q4 rb 0 w v l)(hb:w0.heap.size<=rb)(hg:L w w' v.ownBlock):Zd w0 w' b r:=by
 obtain⟨a,cap,h1,hs⟩:=h.at_;have hne:=ho.ne h1 gK;cases hv:v.ownBlock with|none=>rw[hv]at hg;exact h.kept hg|some g=>rw[hv]at hg hne;exact h.apart (c:=g) (fun e=>hne (by rw[e])) (tN hb (ho.lt g hv).1) hg
section
open Go.ChangeShapes Go.WideShapes Go.ChangeAt Go.RowKit
theorem own:ownKnob O.godebug=G:=by
 kernel_rfl
theorem Lt:laidOutB O=M:=by
 kernel_rfl
def gZ(k:IntKind)(w:F)(a:Option sX)(len cap:Nat)(zs:List Int):Prop:=(a=G∧len=0∧cap=0∧zs=[])∨∃x,a=I x∧len<=cap∧cap<=r8∧zs.length=cap∧(∀i,i<zs.length->w.cell? (x.add i)=I (Y k (zs.getD i 0)))∧∀n∈zs,(Lit.int k n).wf=M
theorem UK{n:Int}(h:(Lit.int tC n).wf=M):-9223372036854775808<=n∧n<=9223372036854775807:=bounds_i64 h
theorem aP{w w':F}(h:L w w' G):Below w.heap.size w w':=⟨h.os,h.tape,h.output,h.size,fun k hk=>h.block k hk (by
 simp)⟩
end
structure Tz(g:Gr):Prop where kind:-9223372036854775808<=g.kind∧g.kind<=9223372036854775807sess:-9223372036854775808<=g.sess∧g.sess<=9223372036854775807name:-9223372036854775808<=g.name∧g.name<=9223372036854775807key:-9223372036854775808<=g.key∧g.key<=9223372036854775807value:-9223372036854775808<=g.value∧g.value<=9223372036854775807
def dE(w:F)(b o:Nat)(g:Gr):Prop:=w.cell? ⟨b,o,G⟩=I (Y tC g.kind)∧w.cell? ⟨b,o+1,G⟩=I (Y tC g.sess)∧w.cell? ⟨b,o+2,G⟩=I (Y tC g.name)∧w.cell? ⟨b,o+3,G⟩=I (Y tC g.key)∧w.cell? ⟨b,o+4,G⟩=I (Y tC g.value)
theorem dE.grown{w w':F}{b o:Nat}{g:Gr}(h:dE w b o g)(hg:L w w' G):dE w' b o g:=⟨hg.cell h.1 (by
 simp),hg.cell h.2.1 (by
 simp),hg.cell h.2.2.1 (by
 simp),hg.cell h.2.2.2.1 (by
 simp),hg.cell h.2.2.2.2 (by
 simp)⟩
def Uq(w:F)(v:H)(l:List Gr):Prop:=∃a cap,v=J a l.length cap∧l.length<=cap∧(l=[]∨∃b o,a=I ⟨b,o,G⟩∧∀i,i<l.length->dE w b (o+i*5) (l.getD i CU))
theorem Uq.shape{w:F}{v:H}{l:List Gr}(h:Uq w v l):∃a cap,v=J a l.length cap:=by
 obtain⟨a,cap,rfl,_⟩:=h;exact⟨a,cap,rfl⟩
theorem Uq.grown{w w':F}{v:H}{l:List Gr}(h:Uq w v l)(hg:L w w' G):Uq w' v l:=by
 obtain⟨a,cap,rfl,hc,h⟩:=h;refine⟨a,cap,rfl,hc,?_⟩;rcases h with h|⟨b,o,rfl,h⟩;·exact .inl h
 ·exact .inr ⟨b,o,rfl,fun i hi=>(h i hi).grown hg⟩
theorem Uq.at{w:F}{a:Option sX}{n cap:Nat}{l:List Gr}(h:Uq w (J a n cap) l)(i:Nat)(hi:i<l.length):∃b o,a=I ⟨b,o,G⟩∧dE w b (o+i*5) (l.getD i CU):=by
 obtain⟨a',cap',e,_,h⟩:=h;simp only[tG]at e;obtain⟨rfl,_,_⟩:=e;rcases h with rfl|⟨b,o,rfl,h⟩;·simp at hi
 ·exact⟨b,o,rfl,h i hi⟩
def cN(l:List Gr):Prop:=∀g∈l,Tz g
def kV(w:F)(v:H)(zs:List Int):Prop:=∃a cap,v=J a zs.length cap∧zs.length<=cap∧(zs=[]∨∃b o,a=I ⟨b,o,G⟩∧∀i,i<zs.length->w.cell? ⟨b,o+i,G⟩=I (Y tC (zs.getD i 0))∧-9223372036854775808<=zs.getD i 0∧zs.getD i 0<=9223372036854775807)
theorem kV.shape{w:F}{v:H}{zs:List Int}(h:kV w v zs):∃a cap,v=J a zs.length cap:=by
 obtain⟨a,cap,rfl,_⟩:=h;exact⟨a,cap,rfl⟩
theorem kV.at{w:F}{a:Option sX}{n cap:Nat}{zs:List Int}(h:kV w (J a n cap) zs)(i:Nat)(hi:i<zs.length):∃b o,a=I ⟨b,o,G⟩∧w.cell? ⟨b,o+i,G⟩=I (Y tC (zs.getD i 0))∧-9223372036854775808<=zs.getD i 0∧zs.getD i 0<=9223372036854775807:=by
 obtain⟨a',cap',e,hc,h⟩:=h;simp only[tG]at e;obtain⟨rfl,rfl,rfl⟩:=e;rcases h with rfl|⟨b,o,rfl,h⟩;·simp at hi
 ·exact⟨b,o,rfl,h i hi⟩
section
open Go.ChangeShapes Go.WideShapes Go.ChangeAt Go.RowKit
theorem B9{w:F}{a:Option sX}{len cap:Nat}{zs:List Int}(h:gZ tC w a len cap zs):∃ys:List Int,ys.length=len∧len<=r8∧kV w (J a len cap) ys:=by
 rcases h with⟨rfl,rfl,rfl,rfl⟩|⟨x,rfl,hl,hm,hz,hc,hw⟩;·exact⟨[],rfl,by unfold r8;omega,G,0,rfl,tZ _,.inl rfl⟩
 ·(have hlen:(zs.take len).length=len:=by simp;omega);refine⟨zs.take len,hlen,by omega,I x,cap,by rw[hlen],by omega,?_⟩;by_cases h0:len=0;(·left;subst h0;simp);·obtain⟨b,o,sp⟩:=x;have h00:=hc 0 (by omega);(obtain rfl:sp=G:=by cases sp with|none=>rfl|some q=>simp[Addr.add,tS]at h00;split at h00<;>simp at h00);refine .inr ⟨b,o,rfl,fun i hi=>?_⟩;rw[hlen]at hi;(have hi2:i<zs.length:=by omega);have:=hc i hi2;rw[ZX]at this;(have e:(zs.take len).getD i 0=zs.getD i 0:=by simp[hi]);have hwf:=hw (zs.getD i 0) (by simp[hi2]);have hb:=UK hwf;rw[e,this];exact⟨rfl,hb⟩
end
def IW:Prop:=∀(w:F)(v:H)(t:V9),KT w v t->yI t->sW O 26 #[v] w fun e w'=>∃x,e=tE (sH #[x,Y tC (RI t)])∧Yw w' x (Kj t)∧L w w' G
def AI:Prop:=∀(w:F)(v:H)(t:V9)(keep:Int),KT w v t->yI t->-9223372036854775808<=keep->keep<=9223372036854775807->sW O 38 #[v,Y tC keep] w fun e w'=>∃x,e=tE (sH #[x,Y tC (Un t keep)])∧Yw w' x (Xu t keep)∧L w w' G
theorem EW:(69:Nat)≠5:=by
 decide
theorem LY:(69:Nat)≠118:=by
 decide
theorem EO:(69:Nat)≠131:=by
 decide
def IP:Prop:=∀(w:F)(v:H)(a:Ac),Wp w v a->Si a->sW O 16 #[v] w fun e w'=>e=tE (Y tC (YX a))∧L w w' G
theorem OC(s q:Int)(d:List UInt8):YX ⟨1,s,q,d⟩=if 0<=s∧s<=7then(if 4000<d.length then 1 else if q=0then 0 else 4)else 2:=by
 unfold YX;rw[if_pos (by show(1:Int)<=1∧(1:Int)<=4;omega)];by_cases h1:0<=s∧s<=7;·rw[if_pos h1,if_neg (by rintro(⟨_,h⟩|⟨h,_⟩);exact h h1;cases h)];by_cases h2:4000<d.length;(·rw[if_pos h2,if_pos h2]);·rw[if_neg h2,if_neg h2];by_cases h3:q=0;(·rw[if_pos h3,if_neg];rintro(⟨h,_⟩|⟨_,h⟩|⟨h,_⟩);(·exact h rfl);(·exact h h3);·exact h rfl);·rw[if_neg h3,if_pos (.inr (.inl ⟨by show(1:Int)≠3;decide,h3⟩))]
 ·rw[if_neg h1,if_pos (.inl ⟨rfl,h1⟩)]
theorem SH(s q:Int)(d:List UInt8):YX ⟨3,s,q,d⟩=if 0<=q∧q<=200000then(if 4000<d.length then 1 else if s=0then(if 0<d.length then 4 else 0)else 4)else 2:=by
 unfold YX;rw[if_pos (by show(1:Int)<=3∧(3:Int)<=4;omega)];by_cases h1:0<=q∧q<=200000;·rw[if_pos h1,if_neg (by rintro(⟨h,_⟩|⟨_,h⟩);cases h;exact h h1)];by_cases h2:4000<d.length;(·rw[if_pos h2,if_pos h2]);·rw[if_neg h2,if_neg h2];by_cases h3:s=0;(·rw[if_pos h3];by_cases h4:0<d.length;(·rw[if_pos h4,if_pos (.inr (.inr ⟨by show(3:Int)≠1;decide,h4⟩))]);·rw[if_neg h4,if_neg];rintro(⟨_,h⟩|⟨h,_⟩|⟨_,h⟩);(·exact h h3);(·exact h rfl);·exact h4 h);·rw[if_neg h3,if_pos (.inl ⟨by show(3:Int)≠1;decide,h3⟩)]
 ·rw[if_neg h1,if_pos (.inr ⟨rfl,h1⟩)]
theorem Bv(k s q:Int)(d:List UInt8)(hk:k=2∨k=4):YX ⟨k,s,q,d⟩=if 4000<d.length then 1 else if s=0then(if q=0then(if 0<d.length then 4 else 0)else 4)else 4:=by
 unfold YX;have k1:¬k=1:=by omega
 have k3:¬k=3:=by omega
 rw[if_pos (by show 1<=k∧k<=4;omega),if_neg (by rintro(⟨h,_⟩|⟨h,_⟩);exact k1 h;exact k3 h)];by_cases h2:4000<d.length;·rw[if_pos h2,if_pos h2]
 ·rw[if_neg h2,if_neg h2];by_cases h3:s=0;(·rw[if_pos h3];by_cases h5:q=0;(·rw[if_pos h5];by_cases h4:0<d.length;(·rw[if_pos h4,if_pos (.inr (.inr ⟨k1,h4⟩))]);·rw[if_neg h4,if_neg];rintro(⟨_,h⟩|⟨_,h⟩|⟨_,h⟩);(·exact h h3);(·exact h h5);·exact h4 h);·rw[if_neg h5,if_pos (.inr (.inl ⟨k3,h5⟩))]);·rw[if_neg h3,if_pos (.inl ⟨k1,h3⟩)]
end Go.Proofs.YtpimcmbjdcjmlaaGreatDoor
