/-
  Texts of this proof, joined, with few blanks: AcM0, PairM0, PairB, WrMem, CmtMem, TapeA, TapeB, TapeK, HistF, HistC, TxnF, TxnG, SrvF, SrvI, SrvO, TopF, TenMem, CmtSet, RdMem, StepMem, SvK, SvG, CmtTy, CmtRow, CmtRowD, TxNote, TxM, TxnL, TxCheck, TCCheck, PairStepQ, PairSlice, FCCheck, FCApply, TxMs, RqRd, WrCkF, TxLook, FCGet, FindM, SrvS, SrvL, SrvM, SrvN, TxClash, TpEnc, TpCheck, BSlice, CmtFit, TxScan, TCRange, FCRange, BitC, PartC, TxWrite, RqWt, HsKept, RqDe, TapeH, WrDtF, AcMem, RdrF, RdrMem, FrameB, GearM, TpSync, TpCrash, TapTy, LnCk, LineH, WrEnF.
-/
import Derived.Deep.AppendLies
import Derived.Test.YtieoehicoocpjaaGreatDoorQ1
import Derived.Maps.AppendAt
import Derived.Deep.RegionWith
import Derived.Handy
import Derived.ProofKit
import Derived.OpenShut
import Derived.ShutString
import Derived.ChangeOld
import Derived.Deep.DeepHandedRow
import Derived.SizedLaws
import Derived.Test.YtieoehicoocpjaaGreatDoorRows
set_option maxRecDepth 100000
set_option maxHeartbeats 8000000
open Array renaming getElem?_eq_some_iff->tI,getElem?_modify->tV,getElem?_toList->r7
open Bool renaming true->N,false->O,and_eq_true->rM,or_eq_false_iff->rO
open Classical renaming byContradiction->sQ
open Decidable renaming decide->tR
open Go renaming World->F,Value->H,TypeId->tX,undef->sH,sliced->sP,Calls->sV,Addr->rB,Operand->rC,Oper->rF,info_parts->rV,yielded->pA,maxLen->pF,heap_alloc_new->oE
open Go.Addr.mk renaming injEq->rK
open Go.Ending renaming returned->tD
open Go.Instr renaming slice->rT
open Go.IntKind renaming i64->tB,u8->r8
open Go.Obj renaming cells->S
open Go.Obj.cells renaming injEq->tW
open Go.Proofs.Tryz renaming prog->M
open Go.Region renaming wanted->sD
open Go.Result renaming andThen->rJ
open Go.Value renaming slice->J,int->Y,bool->tL,tuple->sE,agg->sO,ownBlock->pG
open Go.Value.slice renaming injEq->tH
open Go.World renaming grownBy->L,setCell->tE,cell?->tU,cell?_of_block->sI,ownsRow_nil->sJ,grownBy_alloc->sK,news_of_block->sY,frozen?->rW,cell?_setCell_same'->pH
open Go.World.ownsRow renaming kept->tS,lt->sF
open Int renaming toNat_natCast->sW,emod_lt_of_pos->pO,emod_nonneg->pZ
open List renaming length_append->tC,eq_nil_of_length_eq_zero->tJ,mem_cons->tK,not_mem_nil->tM,flatMap_cons->tN,mem_append->tY,length_singleton->tZ,getElem?_take->sB,take_length->sC,getElem?_eq_some_iff->sG,length_cons->sM,getElem_mem->sN,drop_eq_getElem_cons->sS,mem_cons_of_mem->sU,take_succ_eq_append_getElem->sX,any_eq_true->sZ,flatMap_nil->rA,take_succ_cons->rD,append_nil->rG,mem_cons_self->rH,pairwise_cons->rI,length_set->rP,length_pos_iff->rS,length_take->rX,any_cons->pC,take_set->pD,getElem?_append_left->pI,take_append_drop->pJ,getElem?_append->pK,drop_succ_cons->pL,set_cons_succ->pM,nodup_append->pN,cons_append->pP,length_drop->pQ,length_nil->pT,nil_append->pU,nodup_cons->pV,mem_filter->pW,take_take->pX,drop_zero->oC
open Nat renaming lt_of_lt_of_le->tG,le_trans->tP,zero_le->tQ,le_refl->sA,zero_add->sL,succ_mul->rY,mul_le_mul_right->pB,sub_zero->pE,le_of_lt_succ->pR,min_eq_left->pY,sub_self->oD
open Option renaming none->G,some->I,map_some->rN
open Option.some renaming injEq->tA,inj->oF
open Prod.mk renaming injEq->rU
open UInt8 renaming ofNat->sR,toNat_inj->pS
namespace Go.Proofs.YtieoehicoocpjaaGreatDoor
open Go.RowKit
def Hz(w:F)(v:H)(a:Ac):Prop:=∃vd,v=sO #[Y tB a.kind,Y tB a.sess,Y tB a.keep,vd]∧Qe w vd a.data
theorem Hz.grown{w w':F}{v:H}{a:Ac}(h:Hz w v a)(hg:L w w' G):Hz w' v a:=by
 obtain⟨vd,rfl,h1⟩:=h;exact⟨vd,rfl,h1.grown hg⟩
theorem Hz.agg{w:F}{v:H}{a:Ac}(h:Hz w v a):∃da dc,v=sO #[Y tB a.kind,Y tB a.sess,Y tB a.keep,J da a.data.length dc]∧Qe w (J da a.data.length dc) a.data:=by
 obtain⟨vd,rfl,h1⟩:=h;obtain⟨da,dc,rfl⟩:=h1.shape;exact⟨da,dc,rfl,h1⟩
def CS(w:F)(b o:Nat)(a:Ac):Prop:=∃vd,w.cell? ⟨b,o,G⟩=I (Y tB a.kind)∧w.cell? ⟨b,o+1,G⟩=I (Y tB a.sess)∧w.cell? ⟨b,o+2,G⟩=I (Y tB a.keep)∧w.cell? ⟨b,o+3,G⟩=I vd∧Qe w vd a.data
theorem CS.grown{w w':F}{b o:Nat}{a:Ac}(h:CS w b o a)(hg:L w w' G):CS w' b o a:=by
 obtain⟨vd,c1,c2,c3,c4,h1⟩:=h;exact⟨vd,hg.cell c1 (by simp),hg.cell c2 (by simp),hg.cell c3 (by simp),hg.cell c4 (by simp),h1.grown hg⟩
def YW(w:F)(v:H)(l:List Ac):Prop:=∃a cap,v=J a l.length cap∧l.length<=cap∧((l=[]∧(a=G->cap=0))∨∃b o,a=I ⟨b,o,G⟩∧∀i,i<l.length->CS w b (o+i*4) (l.getD i UO))
theorem Rw(w:F):YW w (J G 0 0) []:=⟨G,0,rfl,sA _,.inl ⟨rfl,fun _=>rfl⟩⟩
theorem YW.shape{w:F}{v:H}{l:List Ac}(h:YW w v l):∃a cap,v=J a l.length cap:=by
 obtain⟨a,cap,rfl,_⟩:=h;exact⟨a,cap,rfl⟩
theorem YW.grown{w w':F}{v:H}{l:List Ac}(h:YW w v l)(hg:L w w' G):YW w' v l:=by
 obtain⟨a,cap,rfl,hc,h⟩:=h;refine⟨a,cap,rfl,hc,?_⟩;rcases h with h|⟨b,o,rfl,h⟩;·exact .inl h
 ·exact .inr ⟨b,o,rfl,fun i hi=>(h i hi).grown hg⟩
theorem YW.at{w:F}{a:Option rB}{n cap:Nat}{l:List Ac}(h:YW w (J a n cap) l)(i:Nat)(hi:i<l.length):∃b o,a=I ⟨b,o,G⟩∧CS w b (o+i*4) (l.getD i UO):=by
 obtain⟨a',cap',e,hc,h⟩:=h;simp only[tH]at e;obtain⟨rfl,rfl,rfl⟩:=e;rcases h with⟨rfl,_⟩|⟨b,o,rfl,h⟩;·simp at hi
 ·exact⟨b,o,rfl,h i hi⟩
structure AU(a:Ac):Prop where kind:-9223372036854775808<=a.kind∧a.kind<=9223372036854775807sess:-9223372036854775808<=a.sess∧a.sess<=9223372036854775807keep:-9223372036854775808<=a.keep∧a.keep<=9223372036854775807data:a.data.length<=140737488355328
structure Rf (l : List Ac) : Prop where
  many : l.length * 48 <= 140737488355328
  each : ∀ i, i < l.length -> AU (l.getD i UO)
theorem LH{a:Ac}(h:Jc a):AU a:=by
 have h0:=h.kind;have h1:=h.data;have h2:0<=a.sess∧a.sess<=7:=by by_cases e:a.kind=1;(·exact h.sess e);·rw[h.noSess e];omega
 have h3:0<=a.keep∧a.keep<=200000:=by by_cases e:a.kind=3;(·exact h.keep e);·rw[h.noKeep e];omega
 exact⟨by omega,by omega,by omega,by omega⟩
abbrev AV:=Ac×H
def Sg:AV:=(UO,sH)
def YS(us:List AV):List H:=us.flatMap fun x=>[Y tB x.1.kind,Y tB x.1.sess,Y tB x.1.keep,x.2]
theorem yQ(us:List AV):(YS us).length=us.length*4:=by
 induction us with|nil=>rfl|cons x us ih=>rw[YS,tN,tC,<-YS,ih,sM];simp;omega
theorem vK(a b:List AV):YS (a++b)=YS a++YS b:=by
 simp[YS]
theorem NH:∀(us:List AV)(i:Nat),i<us.length->(YS us)[i*4]?=I (Y tB (us.getD i Sg).1.kind)∧(YS us)[i*4+1]?=I (Y tB (us.getD i Sg).1.sess)∧(YS us)[i*4+2]?=I (Y tB (us.getD i Sg).1.keep)∧(YS us)[i*4+3]?=I (us.getD i Sg).2|[],i,h=>by simp at h|x::us,0,_=>⟨rfl,rfl,rfl,rfl⟩|x::us,i+1,h=>by have:=NH us i (by simpa using h);rw[show(i+1)*4=i*4+4by omega];exact this
theorem aD:(38:Nat)≠5:=by
 decide
def Ud(rb:Nat)(w:F)(v:H)(l:List Ac):Prop:=∃us:List AV,us.map (·.1)=l∧w.ownsRow rb 38 4 v l.length (YS us)∧∀x∈us,Qh 0 w x.2 x.1.data
theorem Ol(rb:Nat)(w:F):Ud rb w (J G 0 0) []:=⟨[],rfl,sJ _ _ _ _,fun x hx=>by
 simp at hx⟩
theorem Ud.row{rb:Nat}{w:F}{v:H}{l:List Ac}(h:Ud rb w v l):v.ownBlock=G∨∃g cur fz,v.ownBlock=I g∧rb<=g∧w.heap[g]?=I (S cur 38 fz):=by
 obtain⟨us,_,h,_⟩:=h;rcases h.2with⟨rfl,_⟩|⟨g,cap,cur,rfl,hb,hg,_⟩;·exact .inl rfl
 ·exact .inr ⟨g,cur,_,rfl,hb,hg⟩
theorem Ud.lt{rb:Nat}{w:F}{v:H}{l:List Ac}(h:Ud rb w v l):∀k,v.ownBlock=I k->rb<=k∧k<w.heap.size:=by
 obtain⟨us,_,h,_⟩:=h;exact sF h
theorem Ud.grownNone{rb:Nat}{w w':F}{v:H}{l:List Ac}(h:Ud rb w v l)(hg:L w w' G):Ud rb w' v l:=by
 obtain⟨us,h1,h2,h3⟩:=h;refine⟨us,h1,tS h2 hg ?_,fun x hx=>(h3 x hx).keptT hg (.inl rfl)⟩;cases hv:v.ownBlock with|none=>exact .inl rfl|some k=>exact .inr (by simp)
theorem Ud.alloc{rb:Nat}{w:F}{v:H}{l:List Ac}(h:Ud rb w v l)(o:Obj):Ud rb (w.alloc o) v l:=h.grownNone (sK _ _ _)
theorem Ud.shape{rb:Nat}{w:F}{v:H}{l:List Ac}(h:Ud rb w v l):∃a cap,v=J a l.length cap:=by
 obtain⟨us,_,h,_⟩:=h;rcases h.2with⟨rfl,h0⟩|⟨g,cap,cur,rfl,_⟩;·exact⟨G,0,by rw[h0]⟩
 ·exact⟨_,cap,rfl⟩
theorem Wk{us:List AV}{l:List Ac}(h:us.map (·.1)=l)(i:Nat)(hi:i<l.length):(us.getD i Sg).1=l.getD i UO∧us.getD i Sg∈us:=by
 subst h;have hi':i<us.length:=by simpa using hi
 refine⟨by simp[hi'],?_⟩;rw[show us.getD i Sg=us[i]by simp[hi']];exact sN hi'
theorem Ud.list{rb:Nat}{w:F}{v:H}{l:List Ac}(h:Ud rb w v l):YW w v l:=by
 obtain⟨us,hl,hr,h3⟩:=h;rcases hr.2with⟨rfl,h0⟩|⟨g,cap,cur,rfl,hb,hg,hn,hm,hs,ht⟩;·have:l=[]:=tJ h0;rw[this];exact Rw w
 ·(have hcell:∀j u,(YS us)[j]?=I u->w.cell? ⟨g,j,G⟩=I u:=by intro j u hj;(have hlt:j<l.length*4:=by have:=(sG.1 hj).1;rw[hr.1]at this;exact this);(have e2:(cur.toList.take (l.length*4))[j]?=(YS us)[j]?:=by rw[ht]);rw[sB,if_pos hlt,hj]at e2;simp[tU,hg];simpa using e2);refine⟨_,cap,rfl,hn,.inr ⟨g,0,rfl,fun i hi=>?_⟩⟩;obtain⟨e1,e2⟩:=Wk hl i hi;(have hlen:us.length=l.length:=by rw[<-hl];simp);obtain⟨c1,c2,c3,c4⟩:=NH us i (by omega);have hp:=h3 _ e2;rw[e1]at c1 c2 c3 hp;rw[sL];exact⟨_,hcell _ _ c1,hcell _ _ c2,hcell _ _ c3,hcell _ _ c4,hp.1⟩
theorem Tf{rb:Nat}{w W w1:F}{v:H}{l:List Ac}(h:L w W G)(ho:Ud rb W v l)(hb:w.heap.size<=rb)(hg:L W w1 v.ownBlock):L w w1 G:=⟨hg.os.trans h.os,hg.tape.trans h.tape,hg.output.trans h.output,tP h.size hg.size,fun i hi hn=>(hg.block i (tG hi h.size) (fun e=>by
 have:=(ho.lt i e.symm).1;omega)).trans (h.block i hi hn)⟩
theorem MN:(M.info? 38).map (fun i=>(i.zero,i.size,i.bytes))=I (I (sO #[Y tB 0,Y tB 0,Y tB 0,J G 0 0]),4,48):=by
 kernel_rfl
def PH(w:F)(v:H)(p:Pr):Prop:=∃vk vv,v=sO #[vk,vv]∧Qe w vk p.1∧Qe w vv p.2
theorem PH.grown{w w':F}{v:H}{p:Pr}(h:PH w v p)(hg:L w w' G):PH w' v p:=by
 obtain⟨vk,vv,rfl,h1,h2⟩:=h;exact⟨vk,vv,rfl,h1.grown hg,h2.grown hg⟩
def PR(w:F)(b o:Nat)(p:Pr):Prop:=∃vk vv,w.cell? ⟨b,o,G⟩=I vk∧w.cell? ⟨b,o+1,G⟩=I vv∧Qe w vk p.1∧Qe w vv p.2
theorem PR.grown{w w':F}{b o:Nat}{p:Pr}(h:PR w b o p)(hg:L w w' G):PR w' b o p:=by
 obtain⟨vk,vv,c1,c2,h1,h2⟩:=h;exact⟨vk,vv,hg.cell c1 (by simp),hg.cell c2 (by simp),h1.grown hg,h2.grown hg⟩
def Qq(w:F)(v:H)(l:PL):Prop:=∃a cap,v=J a l.length cap∧l.length<=cap∧((l=[]∧(a=G->cap=0))∨∃b o,a=I ⟨b,o,G⟩∧∀i,i<l.length->PR w b (o+i*2) (l.getD i ([],[])))
theorem Yd(w:F):Qq w (J G 0 0) []:=⟨G,0,rfl,sA _,.inl ⟨rfl,fun _=>rfl⟩⟩
theorem Qq.grown{w w':F}{v:H}{l:PL}(h:Qq w v l)(hg:L w w' G):Qq w' v l:=by
 obtain⟨a,cap,rfl,hc,h⟩:=h;refine⟨a,cap,rfl,hc,?_⟩;rcases h with h|⟨b,o,rfl,h⟩;·exact .inl h
 ·exact .inr ⟨b,o,rfl,fun i hi=>(h i hi).grown hg⟩
theorem Qq.shape{w:F}{v:H}{l:PL}(h:Qq w v l):∃a cap,v=J a l.length cap:=by
 obtain⟨a,cap,rfl,_⟩:=h;exact⟨a,cap,rfl⟩
theorem Qq.at{w:F}{a:Option rB}{n cap:Nat}{l:PL}(h:Qq w (J a n cap) l)(i:Nat)(hi:i<l.length):∃b o,a=I ⟨b,o,G⟩∧PR w b (o+i*2) (l.getD i ([],[])):=by
 obtain⟨a',cap',e,hc,h⟩:=h;simp only[tH]at e;obtain⟨rfl,rfl,rfl⟩:=e;rcases h with⟨rfl,_⟩|⟨b,o,rfl,h⟩;·simp at hi
 ·exact⟨b,o,rfl,h i hi⟩
theorem Qh.kept{base:Nat}{w w':F}{v:H}{bs:List UInt8}(h:Qh base w v bs){row:Option Nat}(hg:L w w' row)(hrow:row=G∨∃g cur fz,row=I g∧base<=g∧w.heap[g]?=I (S cur 44 fz)):Qh base w' v bs:=by
 obtain⟨hs,ho⟩:=h;rcases ho with rfl|⟨b,hb,hlt,hc⟩;·obtain⟨a,cap,rfl,hc,h⟩:=hs;refine⟨⟨a,cap,rfl,hc,?_⟩,.inl rfl⟩;rcases h with h|⟨b,o,rfl,h⟩;(·exact .inl h);·exact .inr ⟨b,o,rfl,fun i hi=>by simp at hi⟩
 ·(have hne:I b≠row:=by intro e;rcases hrow with rfl|⟨g,cur,fz,rfl,hbg,hgc⟩;(·cases e);·cases e;rcases hc with hc|⟨cur2,fz2,hc⟩;(·omega);·rw[hc]at hgc;simp at hgc);have hblk:=hg.block b hlt hne;refine⟨?_,.inr ⟨b,hb,tG hlt hg.size,?_⟩⟩;(·obtain⟨a,cap,rfl,hcp,h⟩:=hs;refine⟨a,cap,rfl,hcp,?_⟩;rcases h with h|⟨b',o,rfl,h⟩;(·exact .inl h);·refine .inr ⟨b',o,rfl,fun i hi=>?_⟩;simp[pG]at hb;subst hb;exact hg.cell (h i hi) (by simpa using hne));·rcases hc with hc|⟨cur,fz,hc⟩;(·exact .inl hc);·exact .inr ⟨cur,fz,by rw[hblk];exact hc⟩
def flat(vs:List (H×H)):List H:=vs.flatMap fun x=>[x.1,x.2]
theorem Kv(vs:List (H×H)):(flat vs).length=vs.length*2:=by
 induction vs with|nil=>rfl|cons x r ih=>simp only[flat,tN,tC,sM,pT]at ih⊢;omega
theorem JU(a b:List (H×H)):flat (a++b)=flat a++flat b:=by
 simp[flat]
theorem xO:∀(vs:List (H×H))(i:Nat),i<vs.length->(flat vs)[i*2]?=I (vs.getD i (sH,sH)).1∧(flat vs)[i*2+1]?=I (vs.getD i (sH,sH)).2|[],i,h=>by simp at h|x::r,0,_=>by simp[flat]|x::r,i+1,h=>by have:=xO r i (by simpa using h);rw[show(i+1)*2=i*2+2by omega,show i*2+2+1=(i*2+1)+2by omega];simpa[flat]using this
def Gz(base:Nat)(w:F)(v:H)(l:PL):Prop:=∃vs:List (H×H),vs.length=l.length∧w.ownsRow base 44 2 v l.length (flat vs)∧∀i,i<l.length->Qh base w (vs.getD i (sH,sH)).1 (l.getD i ([],[])).1∧Qh base w (vs.getD i (sH,sH)).2 (l.getD i ([],[])).2
theorem Gz.row{base:Nat}{w:F}{v:H}{l:PL}(h:Gz base w v l):v.ownBlock=G∨∃g cur fz,v.ownBlock=I g∧base<=g∧w.heap[g]?=I (S cur 44 fz):=by
 obtain⟨vs,_,h,_⟩:=h;rcases h.2with⟨rfl,_⟩|⟨g,cap,cur,rfl,hb,hg,_⟩;·exact .inl rfl
 ·exact .inr ⟨g,cur,_,rfl,hb,hg⟩
theorem Gz.lt{base:Nat}{w:F}{v:H}{l:PL}(h:Gz base w v l):∀k,v.ownBlock=I k->base<=k∧k<w.heap.size:=by
 obtain⟨vs,_,h,_⟩:=h;exact sF h
theorem Gz.grownNone{base:Nat}{w w':F}{v:H}{l:PL}(h:Gz base w v l)(hg:L w w' G):Gz base w' v l:=by
 obtain⟨vs,h1,h2,h3⟩:=h;refine⟨vs,h1,tS h2 hg ?_,fun i hi=>⟨((h3 i hi).1).kept hg (.inl rfl),((h3 i hi).2).kept hg (.inl rfl)⟩⟩;cases hv:v.ownBlock with|none=>exact .inl rfl|some k=>exact .inr (by simp)
theorem Gz.alloc{base:Nat}{w:F}{v:H}{l:PL}(h:Gz base w v l)(o:Obj):Gz base (w.alloc o) v l:=h.grownNone (sK _ _ _)
theorem Gz.shape{base:Nat}{w:F}{v:H}{l:PL}(h:Gz base w v l):∃a cap,v=J a l.length cap:=by
 obtain⟨vs,_,h,_⟩:=h;rcases h.2with⟨rfl,h0⟩|⟨g,cap,cur,rfl,_⟩;·exact⟨G,0,by rw[h0]⟩
 ·exact⟨_,cap,rfl⟩
theorem fV{base:Nat}{w W w1:F}{v:H}{l:PL}(h:L w W G)(ho:Gz base W v l)(hb:w.heap.size<=base)(hg:L W w1 v.ownBlock):L w w1 G:=⟨hg.os.trans h.os,hg.tape.trans h.tape,hg.output.trans h.output,tP h.size hg.size,fun i hi hn=>(hg.block i (tG hi h.size) (fun e=>by
 have:=(ho.lt i e.symm).1;omega)).trans (h.block i hi hn)⟩
theorem Cm:(M.info? 44).map (fun i=>(i.zero,i.size,i.bytes))=I (I (sO #[J G 0 0,J G 0 0]),2,48):=by
 kernel_rfl
theorem Jh{α:Type}(a b:List α)(i:Nat)(d:α):(a++b).getD i d=if i<a.length then a.getD i d else b.getD (i-a.length) d:=by
 by_cases h:i<a.length;·rw[if_pos h];simp[pK,h]
 ·rw[if_neg h];simp[pK,h]
theorem jC(vs:List (H×H))(k:Nat):flat (vs.take k)=(flat vs).take (k*2):=by
 induction vs generalizing k with|nil=>simp[flat]|cons x r ih=>cases k with|zero=>simp[flat]|succ k=>rw[rD,show(k+1)*2=k*2+2by omega];have:=ih k;simp only[flat,tN,pP,pU,rD]at this⊢;rw[this]
theorem EJ(vs:List (H×H))(k:Nat):flat (vs.drop k)=(flat vs).drop (k*2):=by
 induction vs generalizing k with|nil=>simp[flat]|cons x r ih=>cases k with|zero=>simp[flat]|succ k=>rw[pL,show(k+1)*2=k*2+2by omega];have:=ih k;simp only[flat,tN,pP,pU,pL]at this⊢;rw[this]
theorem Gz.cells{base:Nat}{w:F}{g n cap:Nat}{vs:List (H×H)}{l:PL}(hr:w.ownsRow base 44 2 (J (I ⟨g,0,G⟩) n cap) l.length (flat vs)):∀j u,(flat vs)[j]?=I u->w.cell? ⟨g,j,G⟩=I u:=by
 intro j u hj;rcases hr.2with⟨e,_⟩|⟨g',cap',cur,e,hb,hg,hn,hm,hs,ht⟩;·cases e
 ·simp only[tH,tA,rK]at e;obtain⟨⟨rfl,_⟩,_,_⟩:=e;(have hlt:j<l.length*2:=by have:=(sG.1 hj).1;rw[hr.1]at this;exact this);(have e2:(cur.toList.take (l.length*2))[j]?=(flat vs)[j]?:=by rw[ht]);rw[sB,if_pos hlt,hj]at e2;simp[tU,hg];simpa using e2
theorem Q8.setOther{base:Nat}{w:F}{v:H}{bs:List UInt8}(h:Q8 base w v bs)(c i:Nat)(x:H)(hc:c<base):Q8 base (tE w ⟨c,i,G⟩ x) v bs:=by
 refine h.grown (row:=I c) (Qi (Qb _ _) i x) ?_;cases hv:v.ownBlock with|none=>exact .inl rfl|some k=>have:=(h.lt k hv).1;exact .inr (by simp;omega)
theorem U3{W w:F}{b:Nat}{x y:H}{t:tX}(hg:L W w G)(h:W.heap[b]?=I (S #[x,y] t))(u v:H):(tE w ⟨b,0,G⟩ u).cell? ⟨b,0,G⟩=I u∧((tE w ⟨b,0,G⟩ u).setCell ⟨b,1,G⟩ v).cell? ⟨b,1,G⟩=I v:=by
 have hb:w.heap[b]?=I (S #[x,y] t):=by rw[hg.block b (tI.1 h).1 (by simp)];exact h
 have c0:w.cell? ⟨b,0,G⟩=I x:=by simp[tU,hb]
 have c1:w.cell? ⟨b,1,G⟩=I y:=by simp[tU,hb]
 refine⟨pH _ _ _ (by rw[c0];rfl),pH _ _ _ ?_⟩;rw[World.cell?_setCell_other _ _ _ _ (by simp),c1];rfl
theorem Gp{base:Nat}{W:F}{pb:Nat}{x y:H}(h:W.heap[pb]?=I (S #[x,y] 44))(hb:base<=pb)(u v:H):((tE W ⟨pb,0,G⟩ u).setCell ⟨pb,1,G⟩ v).heap[pb]?=I (S #[u,v] 44)∧(∀z bs,Qh base W z bs->Qh base ((tE W ⟨pb,0,G⟩ u).setCell ⟨pb,1,G⟩ v) z bs)∧∀w0:F,w0.heap.size<=pb->L w0 W G->L w0 ((tE W ⟨pb,0,G⟩ u).setCell ⟨pb,1,G⟩ v) G:=by
 refine⟨?_,fun z bs hz=>?_,fun w0 h0 hg=>Qc (Qc hg _ h0 _ _) _ h0 _ _⟩;·simp only[tE,tV,if_true,h,rN];first|rfl|simp
 ·exact hz.kept (Qi (Qi (Qb _ _) _ _) _ _) (.inr ⟨pb,_,_,rfl,hb,h⟩)
def Ko(rb pb:Nat)(w:F)(v:H)(l:PL):Prop:=∃vs:List (H×H),vs.length=l.length∧w.ownsRow rb 44 2 v l.length (flat vs)∧∀i,i<l.length->Qh pb w (vs.getD i (sH,sH)).1 (l.getD i ([],[])).1∧Qh pb w (vs.getD i (sH,sH)).2 (l.getD i ([],[])).2
theorem Bm(rb pb:Nat)(w:F):Ko rb pb w (J G 0 0) []:=⟨[],rfl,sJ _ _ _ _,fun i hi=>by
 simp at hi⟩
theorem Ko.p{rb pb:Nat}{w:F}{v:H}{l:PL}(h:Ko rb pb w v l)(hb:pb<=rb):Gz pb w v l:=by
 obtain⟨vs,h1,h2,h3⟩:=h;refine⟨vs,h1,⟨h2.1,?_⟩,h3⟩;rcases h2.2with h|⟨g,cap,cur,h1,h2,h3⟩;·exact .inl h
 ·exact .inr ⟨g,cap,cur,h1,tP hb h2,h3⟩
theorem Ko.row{rb base:Nat}{w:F}{v:H}{l:PL}(h:Ko rb base w v l)(hb:base<=rb):v.ownBlock=G∨∃g cur fz,v.ownBlock=I g∧base<=g∧w.heap[g]?=I (S cur 44 fz):=(h.p hb).row
theorem Ko.lt{rb pb:Nat}{w:F}{v:H}{l:PL}(h:Ko rb pb w v l):∀k,v.ownBlock=I k->rb<=k∧k<w.heap.size:=by
 obtain⟨vs,_,h,_⟩:=h;exact sF h
theorem Ko.grownNone{rb pb:Nat}{w w':F}{v:H}{l:PL}(h:Ko rb pb w v l)(hg:L w w' G):Ko rb pb w' v l:=by
 obtain⟨vs,h1,h2,h3⟩:=h;refine⟨vs,h1,tS h2 hg ?_,fun i hi=>⟨((h3 i hi).1).kept hg (.inl rfl),((h3 i hi).2).kept hg (.inl rfl)⟩⟩;cases hv:v.ownBlock with|none=>exact .inl rfl|some k=>exact .inr (by simp)
theorem Ko.alloc{rb pb:Nat}{w:F}{v:H}{l:PL}(h:Ko rb pb w v l)(o:Obj):Ko rb pb (w.alloc o) v l:=h.grownNone (sK _ _ _)
theorem Ko.shape{rb pb:Nat}{w:F}{v:H}{l:PL}(h:Ko rb pb w v l):∃a cap,v=J a l.length cap:=by
 obtain⟨vs,_,h,_⟩:=h;rcases h.2with⟨rfl,h0⟩|⟨g,cap,cur,rfl,_⟩;·exact⟨G,0,by rw[h0]⟩
 ·exact⟨_,cap,rfl⟩
theorem Rc{rb pb:Nat}{w W w1:F}{v:H}{l:PL}(h:L w W G)(ho:Ko rb pb W v l)(hb:w.heap.size<=rb)(hg:L W w1 v.ownBlock):L w w1 G:=⟨hg.os.trans h.os,hg.tape.trans h.tape,hg.output.trans h.output,tP h.size hg.size,fun i hi hn=>(hg.block i (tG hi h.size) (fun e=>by
 have:=(ho.lt i e.symm).1;omega)).trans (h.block i hi hn)⟩
def gW(base:Nat)(w:F)(b o:Nat)(p:Pr):Prop:=∃vk vv,w.cell? ⟨b,o,G⟩=I vk∧w.cell? ⟨b,o+1,G⟩=I vv∧Qh base w vk p.1∧Qh base w vv p.2
def QN(base:Nat)(w:F)(v:H)(l:PL):Prop:=∃a cap,v=J a l.length cap∧l.length<=cap∧((l=[]∧(a=G->cap=0))∨∃b o,a=I ⟨b,o,G⟩∧(b<base∨∃cur fz,w.heap[b]?=I (S cur 44 fz))∧∀i,i<l.length->gW base w b (o+i*2) (l.getD i ([],[])))
theorem QN.list{base:Nat}{w:F}{v:H}{l:PL}(h:QN base w v l):Qq w v l:=by
 obtain⟨a,cap,rfl,hc,h⟩:=h;refine⟨a,cap,rfl,hc,?_⟩;rcases h with h|⟨b,o,rfl,_,h⟩;·exact .inl h
 ·refine .inr ⟨b,o,rfl,fun i hi=>?_⟩;obtain⟨vk,vv,c1,c2,h1,h2⟩:=h i hi;exact⟨vk,vv,c1,c2,h1.1,h2.1⟩
theorem Qq.pairsB{w w':F}{v:H}{l:PL}(h:Qq w v l)(hg:L w w' G)(base:Nat)(hb:w.heap.size<=base):QN base w' v l:=by
 obtain⟨a,cap,rfl,hc,h⟩:=h;refine⟨a,cap,rfl,hc,?_⟩;rcases h with h|⟨b,o,rfl,h⟩;·exact .inl h
 ·by_cases h0:l=[];(·exact .inl ⟨h0,fun e=>by cases e⟩);·have hl:0<l.length:=rS.2 h0;refine .inr ⟨b,o,rfl,.inl ?_,fun i hi=>?_⟩;(·obtain⟨vk,vv,c1,_⟩:=h 0 hl;exact tG (VA c1) hb);·obtain⟨vk,vv,c1,c2,h1,h2⟩:=h i hi;exact⟨vk,vv,hg.cell c1 (by simp),hg.cell c2 (by simp),h1.part hg base hb,h2.part hg base hb⟩
theorem Gz.pairsB{base:Nat}{w:F}{v:H}{l:PL}(h:Gz base w v l):QN base w v l:=by
 obtain⟨vs,hl,hr,h3⟩:=h;have hr':=hr;rcases hr.2with⟨rfl,h0⟩|⟨g,cap,cur,rfl,hb,hg,hn,hm,hs,ht⟩;·have:l=[]:=tJ h0;subst this;exact⟨G,0,rfl,sA _,.inl ⟨rfl,fun _=>rfl⟩⟩
 ·refine⟨_,cap,rfl,hn,.inr ⟨g,0,rfl,.inr ⟨cur,_,hg⟩,fun i hi=>?_⟩⟩;have hf:=xO vs i (by omega);refine⟨(vs.getD i (sH,sH)).1,(vs.getD i (sH,sH)).2,?_,?_,(h3 i hi).1,(h3 i hi).2⟩;(·have:=Gz.cells hr' _ _ hf.1;rw[sL];exact this);·have:=Gz.cells hr' _ _ hf.2;rw[sL];exact this
theorem QN.kept{base:Nat}{w w':F}{v:H}{l:PL}(h:QN base w v l){row:Option Nat}(hg:L w w' row)(hrow:row=G∨∃g cur t fz,row=I g∧base<=g∧w.heap[g]?=I (S cur t fz)∧t≠5∧t≠44):QN base w' v l:=by
 obtain⟨a,cap,rfl,hc,h⟩:=h;refine⟨a,cap,rfl,hc,?_⟩;rcases h with h|⟨b,o,rfl,hb,h⟩;·exact .inl h
 ·by_cases h0:l=[];(·exact .inl ⟨h0,fun e=>by cases e⟩);·have hl:0<l.length:=rS.2 h0;(have hlt:b<w.heap.size:=by obtain⟨vk,vv,c1,_⟩:=h 0 hl;exact VA c1);(have hne:I b≠row:=by intro e;rcases hrow with rfl|⟨g,cur,t,fz,rfl,hbg,hgc,ht,ht2⟩;(·cases e);·cases e;rcases hb with hb|⟨cur2,fz2,hb⟩;(·omega);·rw[hb]at hgc;simp only[tA,tW]at hgc;exact ht2 hgc.2.1.symm);(have hrow':row=G∨∃g cur t fz,row=I g∧base<=g∧w.heap[g]?=I (S cur t fz)∧t≠5:=by rcases hrow with h|⟨g,cur,t,fz,h1,h2,h3,h4,_⟩;(·exact .inl h);·exact .inr ⟨g,cur,t,fz,h1,h2,h3,h4⟩);refine .inr ⟨b,o,rfl,?_,fun i hi=>?_⟩;(·rcases hb with hb|⟨cur,fz,hb⟩;(·exact .inl hb);·exact .inr ⟨cur,fz,by rw[hg.block b hlt hne];exact hb⟩);·obtain⟨vk,vv,c1,c2,h1,h2⟩:=h i hi;exact⟨vk,vv,hg.cell c1 (by simpa using hne),hg.cell c2 (by simpa using hne),h1.keptT hg hrow',h2.keptT hg hrow'⟩
theorem QN.grown{base:Nat}{w w':F}{v:H}{l:PL}(h:QN base w v l)(hg:L w w' G):QN base w' v l:=h.kept hg (.inl rfl)
theorem yB{base:Nat}{w:F}{v:H}{l:PL}(h:QN base w v l):v.oneCell'=N:=by
 obtain⟨a,cap,rfl,_⟩:=h;rfl
theorem Yo(base:Nat)(w:F):QN base w (J G 0 0) []:=⟨G,0,rfl,sA _,.inl ⟨rfl,fun _=>rfl⟩⟩
theorem QN.shape{base:Nat}{w:F}{v:H}{l:PL}(h:QN base w v l):∃a cap,v=J a l.length cap:=by
 obtain⟨a,cap,rfl,_⟩:=h;exact⟨a,cap,rfl⟩
theorem QN.mono{base base':Nat}{w:F}{v:H}{l:PL}(h:QN base w v l)(hb:base<=base'):QN base' w v l:=by
 obtain⟨a,cap,rfl,hc,h⟩:=h;refine⟨a,cap,rfl,hc,?_⟩;rcases h with h|⟨b,o,rfl,h1,h2⟩;·exact .inl h
 ·refine .inr ⟨b,o,rfl,?_,fun i hi=>?_⟩;(·rcases h1 with h1|h1;(·exact .inl (by omega));·exact .inr h1);·obtain⟨vk,vv,c1,c2,p1,p2⟩:=h2 i hi;exact⟨vk,vv,c1,c2,p1.mono hb,p2.mono hb⟩
theorem Ko.pairsB{rb:Nat}{w:F}{v:H}{l:PL}(h:Ko rb 0 w v l):QN 0 w v l:=(h.p (tQ _)).pairsB
theorem QN.up{w:F}{v:H}{l:PL}(h:QN 0 w v l)(base:Nat):QN base w v l:=h.mono (tQ _)
abbrev WV:=Ze×H×H×H
def Bx:WV:=(Qr,sH,sH,sH)
def Y5(us:List WV):List H:=us.flatMap fun x=>[x.2.1,x.2.2.1,tL x.1.gone,x.2.2.2]
theorem Wb(us:List WV):(Y5 us).length=us.length*4:=by
 induction us with|nil=>rfl|cons x r ih=>simp only[Y5,tN,tC,sM,pT]at ih⊢;omega
theorem uR(a b:List WV):Y5 (a++b)=Y5 a++Y5 b:=by
 simp[Y5]
theorem NQ:∀(us:List WV)(i:Nat),i<us.length->(Y5 us)[i*4]?=I (us.getD i Bx).2.1∧(Y5 us)[i*4+1]?=I (us.getD i Bx).2.2.1∧(Y5 us)[i*4+2]?=I (tL (us.getD i Bx).1.gone)∧(Y5 us)[i*4+3]?=I (us.getD i Bx).2.2.2|[],i,h=>by simp at h|x::r,0,_=>by simp[Y5]|x::r,i+1,h=>by have:=NQ r i (by simpa using h);rw[show(i+1)*4=i*4+4by omega,show i*4+4+1=(i*4+1)+4by omega,show i*4+4+2=(i*4+2)+4by omega,show i*4+4+3=(i*4+3)+4by omega];simpa[Y5]using this
theorem uD:(178:Nat)≠5:=by
 decide
theorem Wa{us:List WV}{l:List Ze}(h:us.map (·.1)=l)(i:Nat)(hi:i<l.length):(us.getD i Bx).1=l.getD i Qr∧us.getD i Bx∈us:=by
 subst h;have hi':i<us.length:=by simpa using hi
 refine⟨by simp[hi'],?_⟩;rw[show us.getD i Bx=us[i]by simp[hi']];exact sN hi'
theorem bQ:(M.info? 178).map (fun i=>(i.zero,i.size,i.bytes))=I (I (sO #[J G 0 0,J G 0 0,tL O,J G 0 0]),4,80):=by
 kernel_rfl
theorem RY(w:F)(vn vk vv:H)(p:Ze)(h1:Qe w vn p.name)(h2:Qe w vk p.key)(h3:Qe w vv p.value)(t:tX):QQ (w.alloc (S #[vn,vk,tL p.gone,vv] t)) (J (I ⟨w.heap.size,0,G⟩) 1 1) [p]:=by
 refine⟨_,1,rfl,by simp,.inr ⟨w.heap.size,0,rfl,fun i hi=>?_⟩⟩;match i,hi with|0,_=>exact⟨vn,vk,vv,by simp,by simp,by simp,by simp,h1.alloc _,h2.alloc _,h3.alloc _⟩
def Ox(base:Nat)(w:F)(b o:Nat)(p:Ze):Prop:=∃vn vk vv,w.cell? ⟨b,o,G⟩=I vn∧w.cell? ⟨b,o+1,G⟩=I vk∧w.cell? ⟨b,o+2,G⟩=I (tL p.gone)∧w.cell? ⟨b,o+3,G⟩=I vv∧Qh base w vn p.name∧Qh base w vk p.key∧Qh base w vv p.value
def Xk(base:Nat)(w:F)(v:H)(l:List Ze):Prop:=∃a cap,v=J a l.length cap∧l.length<=cap∧((l=[]∧(a=G->cap=0))∨∃b o,a=I ⟨b,o,G⟩∧(b<base∨∃cur fz,w.heap[b]?=I (S cur 178 fz))∧∀i,i<l.length->Ox base w b (o+i*4) (l.getD i Qr))
theorem DY(base:Nat)(w:F):Xk base w (J G 0 0) []:=⟨G,0,rfl,sA _,.inl ⟨rfl,fun _=>rfl⟩⟩
theorem Xk.shape{base:Nat}{w:F}{v:H}{l:List Ze}(h:Xk base w v l):∃a cap,v=J a l.length cap:=by
 obtain⟨a,cap,rfl,_⟩:=h;exact⟨a,cap,rfl⟩
theorem Xk.oneCell{base:Nat}{w:F}{v:H}{l:List Ze}(h:Xk base w v l):v.oneCell'=N:=by
 obtain⟨a,cap,rfl,_⟩:=h;rfl
theorem Xk.list{base:Nat}{w:F}{v:H}{l:List Ze}(h:Xk base w v l):QQ w v l:=by
 obtain⟨a,cap,rfl,hc,h⟩:=h;refine⟨a,cap,rfl,hc,?_⟩;rcases h with h|⟨b,o,rfl,_,h⟩;·exact .inl h
 ·refine .inr ⟨b,o,rfl,fun i hi=>?_⟩;obtain⟨vn,vk,vv,c1,c2,c3,c4,h1,h2,h3⟩:=h i hi;exact⟨vn,vk,vv,c1,c2,c3,c4,h1.1,h2.1,h3.1⟩
theorem Xk.kept{base:Nat}{w w':F}{v:H}{l:List Ze}(h:Xk base w v l){row:Option Nat}(hg:L w w' row)(hrow:row=G∨∃g cur t fz,row=I g∧base<=g∧w.heap[g]?=I (S cur t fz)∧t≠5∧t≠178):Xk base w' v l:=by
 obtain⟨a,cap,rfl,hc,h⟩:=h;refine⟨a,cap,rfl,hc,?_⟩;rcases h with h|⟨b,o,rfl,hb,h⟩;·exact .inl h
 ·by_cases h0:l=[];(·exact .inl ⟨h0,fun e=>by cases e⟩);·have hl:0<l.length:=rS.2 h0;(have hlt:b<w.heap.size:=by obtain⟨vn,vk,vv,c1,_⟩:=h 0 hl;exact VA c1);(have hne:I b≠row:=by intro e;rcases hrow with rfl|⟨g,cur,t,fz,rfl,hbg,hgc,ht,ht2⟩;(·cases e);·cases e;rcases hb with hb|⟨cur2,fz2,hb⟩;(·omega);·rw[hb]at hgc;simp only[tA,tW]at hgc;exact ht2 hgc.2.1.symm);(have hrow':row=G∨∃g cur t fz,row=I g∧base<=g∧w.heap[g]?=I (S cur t fz)∧t≠5:=by rcases hrow with h|⟨g,cur,t,fz,h1,h2,h3,h4,_⟩;(·exact .inl h);·exact .inr ⟨g,cur,t,fz,h1,h2,h3,h4⟩);refine .inr ⟨b,o,rfl,?_,fun i hi=>?_⟩;(·rcases hb with hb|⟨cur,fz,hb⟩;(·exact .inl hb);·exact .inr ⟨cur,fz,by rw[hg.block b hlt hne];exact hb⟩);·obtain⟨vn,vk,vv,c1,c2,c3,c4,h1,h2,h3⟩:=h i hi;exact⟨vn,vk,vv,hg.cell c1 (by simpa using hne),hg.cell c2 (by simpa using hne),hg.cell c3 (by simpa using hne),hg.cell c4 (by simpa using hne),h1.keptT hg hrow',h2.keptT hg hrow',h3.keptT hg hrow'⟩
theorem Xk.grown{base:Nat}{w w':F}{v:H}{l:List Ze}(h:Xk base w v l)(hg:L w w' G):Xk base w' v l:=h.kept hg (.inl rfl)
def J0(w:F)(v:H)(c:XA):Prop:=∃vs,v=sO #[Y tB c.turn,vs]∧QQ w vs c.writes
theorem J0.grown{w w':F}{v:H}{c:XA}(h:J0 w v c)(hg:L w w' G):J0 w' v c:=by
 obtain⟨vs,rfl,h⟩:=h;exact⟨vs,rfl,h.grown hg⟩
theorem J0.agg{w:F}{v:H}{c:XA}(h:J0 w v c):∃a cap,v=sO #[Y tB c.turn,J a c.writes.length cap]:=by
 obtain⟨vs,rfl,h⟩:=h;obtain⟨a,cap,rfl⟩:=h.shape;exact⟨a,cap,rfl⟩
theorem J0.writes{w:F}{c:XA}{x y:H}(h:J0 w (sO #[x,y]) c):x=Y tB c.turn∧QQ w y c.writes:=by
 obtain⟨vs,e,h⟩:=h;injection e with e;injection e with e;injection e with e1 e;injection e with e2 e;exact⟨e1,e2▸h⟩
structure Nt(c:XA):Prop where turn:-9223372036854775808<=c.turn∧c.turn<=9223372036854775807writes:uJ c.writes
structure V9 where
  data : List UInt8
  synced : Int
def Ge:V9:=⟨[],0⟩
def KV(w:F)(v:H)(t:V9):Prop:=∃vd,v=sO #[vd,Y tB t.synced]∧Qe w vd t.data
theorem KV.grown{w w':F}{v:H}{t:V9}(h:KV w v t)(hg:L w w' G):KV w' v t:=by
 obtain⟨vd,rfl,h⟩:=h;exact⟨vd,rfl,h.grown hg⟩
theorem KV.agg{w:F}{v:H}{t:V9}(h:KV w v t):∃a cap,v=sO #[J a t.data.length cap,Y tB t.synced]:=by
 obtain⟨vd,rfl,h⟩:=h;obtain⟨a,cap,rfl⟩:=h.shape;exact⟨a,cap,rfl⟩
theorem KV.data{w:F}{t:V9}{x y:H}(h:KV w (sO #[x,y]) t):Qe w x t.data∧y=Y tB t.synced:=by
 obtain⟨vd,e,h⟩:=h;injection e with e;injection e with e;injection e with e1 e;injection e with e2 e;exact⟨e1▸h,e2⟩
structure xX(t:V9):Prop where data:t.data.length<=140737488355328synced:-9223372036854775808<=t.synced∧t.synced<=9223372036854775807
def Yn(w:F)(v:H)(t:V9):Prop:=∃vd,v=sO #[vd,Y tB t.synced]∧Qh 0 w vd t.data
theorem Yn.is{w:F}{v:H}{t:V9}(h:Yn w v t):KV w v t:=by
 obtain⟨vd,rfl,h⟩:=h;exact⟨vd,rfl,h.slice⟩
theorem V2(w:F):Yn w (sO #[J G 0 0,Y tB 0]) Ge:=⟨_,rfl,QD w,.inl rfl⟩
def Gy(t:V9):Bool:=tR (t.data.length<=200000)&&tR (0<=t.synced∧t.synced<=(t.data.length:Int))
theorem Kz(t:V9):Gy t=N↔t.data.length<=200000∧0<=t.synced∧t.synced<=(t.data.length:Int):=by
 unfold Gy;rw[rM,decide_eq_true_iff,decide_eq_true_iff]
def Tz(c:XA):List UInt8:=if Q9 c=0then Zh c else[]
def Rm(t:V9):Int:=if Gy t=N then 0 else 6
def Kn(t:V9):V9:=if Gy t=N then⟨t.data,(t.data.length:Int)⟩else Ge
def Up(t:V9)(keep:Int):Int:=if Gy t=N then(if keep<0then 2 else 0)else 6
def Xr(t:V9)(keep:Int):Nat:=if keep<(t.data.length:Int)-t.synced then(t.synced+keep).toNat else t.data.length
def Xn(t:V9)(keep:Int):V9:=if Up t keep=0then⟨t.data.take (Xr t keep),(Xr t keep:Int)⟩else Ge
def Vu(D:List UInt8->List UInt8)(t:V9)(c:XA):Int:=if Gy t=N then(if Q9 c=0then(if 200000<t.data.length+(ZG D c).length then 11 else 0)else Q9 c)else 6
def zQ(D:List UInt8->List UInt8)(t:V9)(c:XA):V9:=if Vu D t c=0then⟨t.data++ZG D c,t.synced⟩else Ge
def Es(t:V9):Int:=if Gy t=N then 0 else 6
def yH(D:List UInt8->List UInt8)(t:V9):List XA:=if Gy t=N then(KG D 1 t.data).1 else[]
def z9(D:List UInt8->List UInt8)(t:V9):V9:=if Gy t=N then⟨t.data.take (Dy D t.data),if t.synced>(Dy D t.data:Int)then(Dy D t.data:Int)else t.synced⟩else Ge
theorem Ba{D:List UInt8->List UInt8}(hD:∀x,(D x).length=4){c:XA}(hc:Q9 c=0):6<=(ZG D c).length∧(ZG D c).length<=600:=by
 have h1:=PG hD c;have h2:=U6 hc;omega
theorem Bw(D:List UInt8->List UInt8)(cs:List XA)(i:Nat)(h:i<cs.length):Q4 D (cs.take (i+1))=Q4 D (cs.take i)++ZG D (cs.getD i Zl):=by
 rw[sX h,Vz,Px,show cs[i]=cs.getD i Zl by simp[h]]
theorem gE{D:List UInt8->List UInt8}{t:V9}(hm:Gy t=N){cs:List XA}{r:List UInt8}{n:Nat}(h:KG D 1 t.data=(cs,r))(hn:Dy D t.data=n):Es t=0∧yH D t=cs∧z9 D t=⟨t.data.take n,if t.synced>(n:Int)then(n:Int)else t.synced⟩:=by
 refine⟨by rw[Es,if_pos hm],by rw[yH,if_pos hm,h],by rw[z9,if_pos hm,hn]⟩
theorem OM{D:List UInt8->List UInt8}(hD:∀x,(D x).length=4){cs:List XA}(h:qX 1 cs)(k:Nat)(s:Int)(hk:k<=(Q4 D cs).length)(hs:0<=s∧s<=(k:Int))(hl:(Q4 D cs).length<=200000):∃j,j<=cs.length∧(Q4 D (cs.take j)).length<=k∧(j<cs.length->k<(Q4 D (cs.take (j+1))).length)∧Es ⟨(Q4 D cs).take k,s⟩=0∧yH D ⟨(Q4 D cs).take k,s⟩=cs.take j∧z9 D ⟨(Q4 D cs).take k,s⟩=⟨Q4 D (cs.take j),if s>((Q4 D (cs.take j)).length:Int)then((Q4 D (cs.take j)).length:Int)else s⟩:=by
 obtain⟨j,h1,h2,h3,h4,h5⟩:=C6 hD h k;have hkl:((Q4 D cs).take k).length=k:=by simp;omega
 have hm:Gy ⟨(Q4 D cs).take k,s⟩=N:=(Kz _).2 ⟨by show((Q4 D cs).take k).length<=_;omega,by show 0<=s∧s<=(((Q4 D cs).take k).length:Int);omega⟩;have hn:Dy D ((Q4 D cs).take k)=(Q4 D (cs.take j)).length:=by rw[Dy,h2,hkl];show k-(((Q4 D cs).take k).drop _).length=_;rw[pQ,hkl];omega
 obtain⟨a,b,c⟩:=gE hm h2 hn;refine⟨j,h1,h3,h5,a,b,?_⟩;rw[c];have e:((Q4 D cs).take k).take (Q4 D (cs.take j)).length=Q4 D (cs.take j):=by rw[pX,pY h3];(conv=>lhs;rw[<-pJ j cs,Vz]);rw[show(cs.take j++cs.drop j).take j=cs.take j by rw[pJ]];exact List.take_left' rfl
 show(⟨((Q4 D cs).take k).take _,_⟩:V9)=_;rw[e]
def On:FL->Nat->List XA->Int|_,_,[]=>0|f,i,c::cs=>if Q9 c=0then(if c.turn=((i+1:Nat):Int)then(if QY f c.writes=0then On (Xq f c.writes) (i+1) cs else QY f c.writes)else 3)else Q9 c
def G9:FL->List XA->FL|f,[]=>f|f,c::cs=>G9 (Xq f c.writes) cs
theorem vX:∀(a b:List XA)(f:FL),G9 f (a++b)=G9 (G9 f a) b|[],_,_=>rfl|_::a,b,_=>vX a b _
theorem Sa(cs:List XA)(f:FL)(c:XA):G9 f (cs++[c])=Xq (G9 f cs) c.writes:=by
 rw[vX];rfl
def vL:FL->Nat->List XA->Prop|_,_,[]=>True|f,i,c::cs=>Q9 c=0∧c.turn=((i+1:Nat):Int)∧QY f c.writes=0∧vL (Xq f c.writes) (i+1) cs
theorem vL.take:∀{cs:List XA}{f:FL}{i:Nat}(_:vL f i cs)(j:Nat),vL f i (cs.take j)|[],_,_,_,j=>by rw[List.take_nil];trivial|_::_,_,_,_,0=>trivial|_::_,_,_,h,j+1=>⟨h.1,h.2.1,h.2.2.1,vL.take h.2.2.2 j⟩
theorem vL.at:∀{cs:List XA}{f:FL}{i:Nat}(_:vL f i cs)(j:Nat)(_:j<cs.length),Q9 (cs.getD j Zl)=0∧(cs.getD j Zl).turn=((i+j+1:Nat):Int)∧QY (G9 f (cs.take j)) (cs.getD j Zl).writes=0|[],_,_,_,j,hj=>by simp at hj|c::cs,f,i,h,0,_=>⟨h.1,h.2.1,h.2.2.1⟩|c::cs,f,i,h,j+1,hj=>by have:=vL.at h.2.2.2 j (by simpa using hj);rw[show i+(j+1)+1=i+1+j+1by omega];simpa[G9]using this
theorem FH{l:FL}(h:ZZ l)(ws:List Ze):ZZ (Xq l ws):=by
 unfold Xq;by_cases h0:QY l ws=0;·rw[if_pos h0];unfold QY at h0;rw[if_pos ((XH l).2 h)]at h0;by_cases h10:10<ws.length;(·rw[if_pos h10]at h0;omega);·rw[if_neg h10]at h0;exact vN ws l h h0
 ·rw[if_neg h0];exact VM
theorem qR:∀(cs:List XA)(f:FL),ZZ f->ZZ (G9 f cs)|[],_,h=>h|c::cs,_,h=>qR cs _ (FH h c.writes)
def ZX(n t:Int):Bool:=tR (0<=t∧t<=n∧n-t<6)
def Rb(a b:Ze):Prop:=a.name=b.name∧a.key=b.key
def Nr(l:List Ze):Prop:=l.Pairwise fun a b=>¬Rb a b
def XC(a b:Rd):Bool:=a.wide==b.wide&&(tR (a.name=b.name)&&(tR (a.key=b.key)&&tR (a.last=b.last)))
theorem qL(a b:Rd):XC a b=N↔a=b:=by
 obtain⟨n,k,w,l⟩:=a;obtain⟨n2,k2,w2,l2⟩:=b;simp only[XC,rM,decide_eq_true_iff,beq_iff_eq,Rd.mk.injEq];exact⟨fun⟨h1,h2,h3,h4⟩=>⟨h2,h3,h1,h4⟩,fun⟨h1,h2,h3,h4⟩=>⟨h3,h1,h2,h4⟩⟩
def ZK(a b:Ze):Bool:=tR (a.name=b.name)&&tR (a.key=b.key)
theorem qW(a b:Ze):ZK a b=N↔Rb a b:=by
 simp only[ZK,rM,decide_eq_true_iff];exact Iff.rfl
def GU:List Rd->List Rd->Int|_,[]=>0|p,r::rs=>if Xz r=0then(if p.any (fun q=>XC q r)=N then 3 else GU (p++[r]) rs)else Xz r
def xS:List Ze->List Ze->Int|_,[]=>0|p,w::ws=>if QC w=0then(if p.any (fun q=>ZK q w)=N then 3 else xS (p++[w]) ws)else QC w
theorem Tq:∀(rs p:List Rd),GU p rs=0↔(∀r∈rs,Xz r=0)∧(∀r∈rs,r∉p)∧rs.Nodup|[],p=>by simp[GU]|r::rs,p=>by have ih:=Tq rs (p++[r]);rw[GU];by_cases h1:Xz r=0;(·rw[if_pos h1];by_cases h2:p.any (fun q=>XC q r)=N;(·rw[if_pos h2];refine⟨fun h=>by omega,fun h=>?_⟩;obtain⟨q,hq,he⟩:=sZ.1 h2;rw[(qL q r).1 he]at hq;exact absurd hq (h.2.1 r (rH ..)));·rw[if_neg h2,ih];have hr:r∉p:=fun hm=>h2 (sZ.2 ⟨r,hm,(qL r r).2 rfl⟩);constructor;(·rintro⟨a,b,c⟩;refine⟨fun x hx=>?_,fun x hx=>?_,pV.2 ⟨fun hm=>b r hm (by simp),c⟩⟩;(·rcases tK.1 hx with rfl|hx;(·exact h1);·exact a x hx);·rcases tK.1 hx with rfl|hx;(·exact hr);·exact fun hm=>b x hx (tY.2 (.inl hm)));·rintro⟨a,b,c⟩;have c':=pV.1 c;refine⟨fun x hx=>a x (sU _ hx),fun x hx hm=>?_,c'.2⟩;rcases tY.1 hm with hm|hm;(·exact b x (sU _ hx) hm);·simp only[tK,tM,or_false]at hm;subst hm;exact c'.1 hx);·rw[if_neg h1];exact⟨fun h=>absurd h h1,fun h=>absurd (h.1 r (rH ..)) h1⟩
theorem Dh:∀(ws p:List Ze),xS p ws=0↔(∀w∈ws,QC w=0)∧(∀w∈ws,∀q∈p,¬Rb q w)∧Nr ws|[],p=>by simp[xS,Nr]|w::ws,p=>by have ih:=Dh ws (p++[w]);rw[xS];by_cases h1:QC w=0;(·rw[if_pos h1];by_cases h2:p.any (fun q=>ZK q w)=N;(·rw[if_pos h2];refine⟨fun h=>by omega,fun h=>?_⟩;obtain⟨q,hq,he⟩:=sZ.1 h2;exact absurd ((qW q w).1 he) (h.2.1 w (rH ..) q hq));·rw[if_neg h2,ih];have hr:∀q∈p,¬Rb q w:=fun q hm e=>h2 (sZ.2 ⟨q,hm,(qW q w).2 e⟩);constructor;(·rintro⟨a,b,c⟩;refine⟨fun x hx=>?_,fun x hx q hq=>?_,rI.2 ⟨fun x hx=>b x hx w (by simp),c⟩⟩;(·rcases tK.1 hx with rfl|hx;(·exact h1);·exact a x hx);·rcases tK.1 hx with rfl|hx;(·exact hr q hq);·exact b x hx q (tY.2 (.inl hq)));·rintro⟨a,b,c⟩;have c':=rI.1 c;refine⟨fun x hx=>a x (sU _ hx),fun x hx q hm=>?_,c'.2⟩;rcases tY.1 hm with hm|hm;(·exact b x (sU _ hx) q hm);·simp only[tK,tM,or_false]at hm;subst hm;exact c'.1 x hx);·rw[if_neg h1];exact⟨fun h=>absurd h h1,fun h=>absurd (h.1 w (rH ..)) h1⟩
structure Tx where
  start : Int
  reads : List Rd
  writes : List Ze
def FF:Tx:=⟨0,[],[]⟩
def Gk(t:Tx):Int:=if 0<=t.start∧t.start<=1048576then(if 20<t.reads.length∨10<t.writes.length then 1 else(if GU [] t.reads=0then xS [] t.writes else GU [] t.reads))else 2
structure qH (t : Tx) : Prop where
  start : 0 <= t.start ∧ t.start <= 1048576
  reads : t.reads.length <= 20
  writes : t.writes.length <= 10
  each : ∀ r ∈ t.reads, Xz r = 0
  once : t.reads.Nodup
  wrs : ∀ w ∈ t.writes, QC w = 0
  apart : Nr t.writes
theorem kZ(t:Tx):Gk t=0↔qH t:=by
 unfold Gk;by_cases h1:0<=t.start∧t.start<=1048576;·rw[if_pos h1];by_cases h2:20<t.reads.length∨10<t.writes.length;(·rw[if_pos h2];exact⟨fun h=>by omega,fun h=>by have:=h.reads;have:=h.writes;omega⟩);·rw[if_neg h2];by_cases h3:GU [] t.reads=0;(·rw[if_pos h3,Dh];have h3':=(Tq _ _).1 h3;exact⟨fun h=>⟨h1,by omega,by omega,h3'.1,h3'.2.2,h.1,h.2.2⟩,fun h=>⟨h.wrs,fun _ _ _ hq=>by simp at hq,h.apart⟩⟩);·rw[if_neg h3];exact⟨fun h=>absurd h h3,fun h=>absurd ((Tq _ _).2 ⟨h.each,fun _ _ hq=>by simp at hq,h.once⟩) h3⟩
 ·rw[if_neg h1];exact⟨fun h=>by omega,fun h=>absurd h.start h1⟩
def Er(t:Tx)(r:Rd):Bool:=t.reads.any (fun q=>XC q r)
theorem Ov(t:Tx)(r:Rd):Er t r=N↔r∈t.reads:=by
 unfold Er;rw[sZ];exact⟨fun⟨q,hq,e⟩=>(qL q r).1 e▸hq,fun h=>⟨r,h,(qL r r).2 rfl⟩⟩
def Xi(t:Tx)(r:Rd):Int:=if Gk t=0then(if Xz r=0then(if Er t r=N then 0 else(if t.reads.length=20then 11 else 0))else Xz r)else Gk t
def XZ(t:Tx)(r:Rd):Tx:=if Xi t r=0then(if Er t r=N then t else⟨t.start,t.reads++[r],t.writes⟩)else FF
theorem fK{t:Tx}(h:qH t){r:Rd}(hr:Xz r=0):Xi t r=if Er t r=N then 0 else(if t.reads.length=20then 11 else 0):=by
 rw[Xi,if_pos ((kZ t).2 h),if_pos hr]
theorem dZ{t:Tx}(h:qH t){r:Rd}(hr:Xz r=0)(he:Xi t r=0):qH (XZ t r):=by
 rw[XZ,if_pos he];by_cases hh:Er t r=N;·rw[if_pos hh];exact h
 ·rw[if_neg hh];rw[fK h hr,if_neg hh]at he;have hm:r∉t.reads:=fun e=>hh ((Ov t r).2 e);(have h20:t.reads.length≠20:=fun e=>by rw[if_pos e]at he;omega);refine⟨h.start,?_,h.writes,fun x hx=>?_,?_,h.wrs,h.apart⟩;(·have:=h.reads;simp;omega);(·rcases tY.1 hx with hx|hx;(·exact h.each x hx);·simp only[tK,tM,or_false]at hx;rw[hx];exact hr);·rw[pN];refine⟨h.once,by simp,fun a ha b hb e=>?_⟩;simp only[tK,tM,or_false]at hb;subst hb;subst e;exact hm ha
def Fz(l:List Ze)(w:Ze):Bool:=l.any (fun q=>ZK q w)
def z8:List Ze->Ze->List Ze|[],w=>[w]|a::l,w=>if ZK a w=N then w::l else a::z8 l w
def Xg(t:Tx)(w:Ze):Int:=if Gk t=0then(if QC w=0then(if Fz t.writes w=N then 0 else(if t.writes.length=10then 11 else 0))else QC w)else Gk t
def Yv(t:Tx)(w:Ze):Tx:=if Xg t w=0then⟨t.start,t.reads,z8 t.writes w⟩else FF
theorem DR:∀(l:List Ze)(w:Ze),(z8 l w).length=if Fz l w=N then l.length else l.length+1|[],w=>rfl|a::l,w=>by rw[z8,Fz,pC];by_cases h:ZK a w=N;(·rw[if_pos h,h];rfl);·rw[if_neg h,sM,DR l w];(have hf:ZK a w=O:=by simpa using h);rw[hf,Bool.false_or];show _=if Fz l w=N then _ else _;by_cases h2:Fz l w=N;(·rw[if_pos h2,if_pos h2];rfl);·rw[if_neg h2,if_neg h2];rfl
theorem TI:∀(l:List Ze)(w x:Ze),x∈z8 l w->x=w∨x∈l|[],w,x,h=>by simpa[z8]using h|a::l,w,x,h=>by rw[z8]at h;by_cases h1:ZK a w=N;(·rw[if_pos h1]at h;rcases tK.1 h with h|h;(·exact .inl h);·exact .inr (sU _ h));·rw[if_neg h1]at h;rcases tK.1 h with h|h;(·exact .inr (by rw[h];exact rH ..));·exact(TI l w x h).elim .inl fun h=>.inr (sU _ h)
theorem DU{a b c:Ze}(h:Rb a b)(k:Rb b c):Rb a c:=⟨h.1.trans k.1,h.2.trans k.2⟩
theorem Tl:∀(l:List Ze)(w:Ze),Nr l->Nr (z8 l w)|[],w,_=>List.pairwise_singleton ..|a::l,w,h=>by have h':=rI.1 h;rw[z8];by_cases h1:ZK a w=N;(·rw[if_pos h1];exact rI.2 ⟨fun x hx e=>h'.1 x hx (DU ((qW a w).1 h1) e),h'.2⟩);·rw[if_neg h1];refine rI.2 ⟨fun x hx e=>?_,Tl l w h'.2⟩;rcases TI l w x hx with rfl|hx;(·exact h1 ((qW _ _).2 e));·exact h'.1 x hx e
theorem OH{t:Tx}(h:qH t){w:Ze}(hw:QC w=0):Xg t w=if Fz t.writes w=N then 0 else(if t.writes.length=10then 11 else 0):=by
 rw[Xg,if_pos ((kZ t).2 h),if_pos hw]
theorem bU{t:Tx}(h:qH t){w:Ze}(hw:QC w=0)(he:Xg t w=0):qH (Yv t w):=by
 rw[Yv,if_pos he];rw[OH h hw]at he;refine⟨h.start,h.reads,?_,h.each,h.once,fun x hx=>?_,Tl _ _ h.apart⟩;·show(z8 t.writes w).length<=10;rw[DR];have:=h.writes;by_cases hh:Fz t.writes w=N;(·rw[if_pos hh];exact this);·rw[if_neg hh]at he⊢;(have h10:t.writes.length≠10:=fun e=>by rw[if_pos e]at he;omega);omega
 ·rcases TI _ _ _ hx with rfl|hx;(·exact hw);·exact h.wrs x hx
def iH(l:List Ze)(n k:List UInt8):Option Ze:=l.find? fun q=>tR (q.name=n)&&tR (q.key=k)
theorem Ot{l:List Ze}{n k:List UInt8}{w:Ze}(h:iH l n k=I w):w∈l∧w.name=n∧w.key=k:=by
 refine⟨List.mem_of_find?_eq_some h,?_⟩;have:=List.find?_some h;simpa using this
def iU(a b k:List UInt8):Bool:=!YD k a&&!YD b k
def KX(n a b:List UInt8)(l:PL)(w:Ze):PL:=if w.name=n∧iU a b w.key=N then(if w.gone=N then kH l w.key else Kd l (w.key,w.value))else l
def Sr(n a b:List UInt8):PL->List Ze->PL|l,[]=>l|l,w::ws=>Sr n a b (KX n a b l w) ws
def kX(n a b:List UInt8):PL->List Ze->Int|_,[]=>0|l,w::ws=>if 60<(KX n a b l w).length then 11 else kX n a b (KX n a b l w) ws
def XO(r:Rd)(w:Ze):Bool:=tR (r.name=w.name)&&(if r.wide=N then iU r.key r.last w.key else tR (r.key=w.key))
def lH(t:Tx)(ws:List Ze):Bool:=ws.any fun w=>t.reads.any fun r=>XO r w
def OQ(t:Tx)(l:List XA):Bool:=l.any fun c=>tR (t.start<c.turn)&&lH t c.writes
def Ts(t:Tx):Int:=Gk t
def UI(t:Tx)(l:List XA):Bool:=if Gk t=0then OQ t l else O
def zU(l:FL)(t:Tx):Int:=if Q6 l=0then Gk t else Q6 l
def Ku(l:FL)(t:Tx)(n k:List UInt8):Int:=if zU l t=0then(if Qt n.length=0then Qp k.length else Qt n.length)else zU l t
def VN(l:FL)(t:Tx)(n k:List UInt8):Bool:=if Ku l t n k=0then(iH t.writes n k).isSome else O
def Vb(l:FL)(t:Tx)(n k:List UInt8):Bool:=if Ku l t n k=0then(match iH t.writes n k with|I w=>!w.gone|none=>JW l n k)else O
def UZ(l:FL)(t:Tx)(n k:List UInt8):List UInt8:=if Ku l t n k=0then(match iH t.writes n k with|I w=>w.value|none=>J7 l n k)else[]
theorem S9{l:FL}{t:Tx}(hl:ZZ l)(ht:qH t){n k:List UInt8}(hn:1<=n.length∧n.length<=8)(hk:1<=k.length∧k.length<=16):Ku l t n k=0:=by
 rw[Ku,zU,if_pos ((XH l).2 hl),if_pos ((kZ t).2 ht),if_pos ((Zn _).2 hn),(Zw _).2 hk]
def Kw(l:FL)(t:Tx)(n a b:List UInt8):Int:=if zU l t=0then(if Qt n.length=0then(if Qp a.length=0then(if Qp b.length=0then kX n a b (Ve (YN l n) a b) t.writes else Qp b.length)else Qp a.length)else Qt n.length)else zU l t
def V3(l:FL)(t:Tx)(n a b:List UInt8):PL:=if Kw l t n a b=0then Sr n a b (Ve (YN l n) a b) t.writes else[]
structure Rp where
  sess : Int
  code : Int
  turn : Int
  found : Bool
  value : List UInt8
  pairs : PL
  pf : Option (FL × List UInt8 × List UInt8)
def Gv(s:Nat)(e:Int):Rp:=⟨(s:Int),e,0,O,[],[],G⟩
def cJ(s:Nat)(t:Int):Rp:=⟨(s:Int),0,t,O,[],[],G⟩
structure Sv where
  up : Bool
  tape : V9
  commits : List XA
  synced : Nat
  begun : Nat -> Bool
  waits : Nat -> Bool
  txns : Nat -> Tx
  queue : List Nat
  out : List Rp
def Vc{α:Type}(f:Nat->α)(i:Nat)(x:α):Nat->α:=fun j=>if j=i then x else f j
theorem Xf{α:Type}(f:Nat->α)(i:Nat)(x:α):Vc f i x i=x:=by
 simp[Vc]
theorem Zj{α:Type}(f:Nat->α){i j:Nat}(x:α)(h:j≠i):Vc f i x j=f j:=by
 simp[Vc,h]
def Gb(up:Bool)(t:V9)(cs:List XA)(o:List Rp):Sv:=⟨up,t,cs,cs.length,fun _=>O,fun _=>O,fun _=>FF,[],o⟩
def Wq:Sv:=Gb N Ge [] []
def ZW(v:Sv)(r:Rp):Sv:={v with out:=v.out++[r]}
def QH(v:Sv)(n:Nat):FL:=G9 [] (v.commits.take n)
def Vi(v:Sv)(s:Nat)(x:Rd)(o:Rp):Sv:=if Xi (v.txns s) x=0then ZW {v with txns:=Vc v.txns s (XZ (v.txns s) x)} o else ZW v (Gv s (Xi (v.txns s) x))
def yJ(v:Sv)(s:Nat)(w:Ze):Sv:=ZW (if Xg (v.txns s) w=0then{v with txns:=Vc v.txns s (Yv (v.txns s) w)}else v) (Gv s (Xg (v.txns s) w))
def Dg(v:Sv)(s:Nat)(r:Rq):Sv:=if VN (QH v (v.txns s).start.toNat) (v.txns s) r.name r.key=N then ZW v ⟨(s:Int),0,(v.txns s).start,Vb (QH v (v.txns s).start.toNat) (v.txns s) r.name r.key,UZ (QH v (v.txns s).start.toNat) (v.txns s) r.name r.key,[],G⟩else Vi v s (Zu r) ⟨(s:Int),0,(v.txns s).start,Vb (QH v (v.txns s).start.toNat) (v.txns s) r.name r.key,UZ (QH v (v.txns s).start.toNat) (v.txns s) r.name r.key,[],G⟩
def Fp(v:Sv)(s:Nat)(r:Rq):Sv:=if Kw (QH v (v.txns s).start.toNat) (v.txns s) r.name r.key r.last=0then Vi v s (Zu r) ⟨(s:Int),0,(v.txns s).start,O,[],V3 (QH v (v.txns s).start.toNat) (v.txns s) r.name r.key r.last,G⟩else ZW v (Gv s (Kw (QH v (v.txns s).start.toNat) (v.txns s) r.name r.key r.last))
def Fq(v:Sv)(s:Nat)(r:Rq):Sv:=if r.kind=4∨r.kind=5then yJ v s (Xu r)else if r.kind=2then Dg v s r else Fp v s r
def Jk(v:Sv)(s:Nat):XA:=⟨((v.commits.length+1:Nat):Int),(v.txns s).writes⟩
def XE(v:Sv)(s:Nat):Sv:={v with begun:=Vc v.begun s O}
def Kb(D:List UInt8->List UInt8)(v:Sv)(s:Nat):Sv:=if(v.txns s).writes.length=0then ZW (XE v s) (cJ s (v.txns s).start)else if v.queue.length=6∨v.commits.length=300then ZW v (Gv s 11)else if UI (v.txns s) v.commits=N then ZW (XE v s) (Gv s 9)else if QY (QH v v.commits.length) (v.txns s).writes≠0then ZW (XE v s) (Gv s (QY (QH v v.commits.length) (v.txns s).writes))else if Vu D v.tape (Jk v s)≠0then ZW (XE v s) (Gv s (Vu D v.tape (Jk v s)))else{XE v s with tape:=zQ D v.tape (Jk v s),commits:=v.commits++[Jk v s],queue:=v.queue++[s],waits:=Vc v.waits s N}
def Nj(v:Sv)(s:Nat)(r:Rq):Sv:=ZW v ⟨(s:Int),0,(v.synced:Int),JW (QH v v.synced) r.name r.key,J7 (QH v v.synced) r.name r.key,[],I (QH v v.synced,r.name,r.key)⟩
def QM(v:Sv)(s:Nat)(r:Rq):Bool:=v.waits s||(if r.kind=1then v.begun s else !v.begun s)
def Kc(D:List UInt8->List UInt8)(v:Sv)(s:Nat)(r:Rq):Sv:=if r.kind=8then Nj v s r else if QM v s r=N then ZW v (Gv s 6)else if r.kind=1then ZW {v with begun:=Vc v.begun s N,txns:=Vc v.txns s ⟨(v.synced:Int),[],[]⟩} (cJ s (v.synced:Int))else if r.kind=7then ZW (XE v s) (Gv s 0)else if ZX (v.synced:Int) (v.txns s).start=O then ZW (XE v s) (Gv s 10)else if r.kind=6then Kb D v s else Fq v s r
def Xm(D:List UInt8->List UInt8)(v:Sv)(s:Nat)(data:List UInt8):Sv:=if v.up=O then ZW v (Gv s 13)else if QK data=0then Kc D v s (Qu data)else ZW v (Gv s (QK data))
def VX:Nat->List Nat->List Rp|_,[]=>[]|n,s::q=>cJ s ((n+1:Nat):Int)::VX (n+1) q
def Vd(f:Nat->Bool)(q:List Nat):Nat->Bool:=fun j=>if j∈q then O else f j
def VH(v:Sv):Sv:={v with tape:=Kn v.tape,synced:=v.synced+v.queue.length,waits:=Vd v.waits v.queue,queue:=[],out:=v.out++VX v.synced v.queue}
def UQ(D:List UInt8->List UInt8)(v:Sv)(k:Int):Sv:=Gb O (z9 D (Xn v.tape k)) (yH D (Xn v.tape k)) v.out
def VS(D:List UInt8->List UInt8)(v:Sv)(a:Ac):Sv:=if a.kind=1then Xm D v a.sess.toNat a.data else if a.kind=2then(if v.up=N then VH v else v)else if a.kind=3then(if v.up=N then UQ D v a.keep else v)else{v with up:=N}
def JL(D:List UInt8->List UInt8)(l:List Ac):Sv:=l.foldl (VS D) Wq
theorem ER(D:List UInt8->List UInt8)(l:List Ac)(a:Ac):JL D (l++[a])=VS D (JL D l) a:=by
 simp[JL]
def G8(l:List Ac):Int:=Gi l
structure Oc where
  up : Bool
  turn : Int
  pending : Int
  forest : FL
  replies : List Rp
def En(v:Sv):Oc:=⟨v.up,(v.synced:Int),(v.queue.length:Int),QH v v.synced,v.out⟩
def WS:Oc:=⟨O,0,0,[],[]⟩
def xQ(D:List UInt8->List UInt8)(l:List Ac):Oc:=if G8 l=0then En (JL D l)else WS
section
theorem EX:∀{cs:List XA}{f:FL}{i:Nat},vL f i cs->qX (i+1) cs|[],_,_,_=>trivial|_::_,_,_,h=>⟨by rw[h.2.1],h.1,EX h.2.2.2⟩
theorem No:∀{cs:List XA}{f:FL}{i:Nat}{c:XA},vL f i cs->Q9 c=0->c.turn=((i+cs.length+1:Nat):Int)->QY (G9 f cs) c.writes=0->vL f i (cs++[c])|[],_,_,_,_,h1,h2,h3=>⟨h1,by rw[h2];rfl,h3,trivial⟩|d::cs,f,i,c,h,h1,h2,h3=>⟨h.1,h.2.1,h.2.2.1,No h.2.2.2 h1 (by rw[h2,sM];congr 1;omega) h3⟩
structure Zk (D : List UInt8 -> List UInt8) (v : Sv) : Prop where
  goes : vL [] 0 v.commits
  many : v.commits.length <= 300
  data : v.tape.data = Q4 D v.commits
  mark : v.tape.synced = ((Q4 D (v.commits.take v.synced)).length : Int)
  room : v.tape.data.length <= 200000
  turn : v.synced + v.queue.length = v.commits.length
  few : v.queue.length <= 6
  wait : ∀ s, v.waits s = N ↔ s ∈ v.queue
  once : v.queue.Nodup
  tx : ∀ s, v.begun s = N -> qH (v.txns s) ∧ (v.txns s).start <= (v.synced : Int)
  idle : ∀ s, v.waits s = N -> v.begun s = O
  down : v.up = O -> v.queue = [] ∧ ∀ s, v.begun s = O
variable{D:List UInt8->List UInt8}{v:Sv}
theorem Zk.tell(h:Zk D v)(r:Rp):Zk D (ZW v r):=⟨h.goes,h.many,h.data,h.mark,h.room,h.turn,h.few,h.wait,h.once,h.tx,h.idle,h.down⟩
theorem ET{f:Nat->Bool}{s j:Nat}(h:Vc f s O j=N):j≠s∧f j=N:=by
 by_cases e:j=s;·rw[e,Xf]at h;cases h
 ·exact⟨e,by rwa[Zj f _ e]at h⟩
theorem Zk.end(h:Zk D v)(s:Nat):Zk D (XE v s):=by
 refine⟨h.goes,h.many,h.data,h.mark,h.room,h.turn,h.few,h.wait,h.once,fun j hj=>h.tx j (ET hj).2,fun j hj=>?_,fun hu=>⟨(h.down hu).1,fun j=>?_⟩⟩;·show Vc v.begun s O j=O;by_cases e:j=s;(·rw[e,Xf]);·rw[Zj _ _ e];exact h.idle j hj
 ·show Vc v.begun s O j=O;by_cases e:j=s;(·rw[e,Xf]);·rw[Zj _ _ e];exact(h.down hu).2 j
theorem Zk.txn(h:Zk D v){s:Nat}{t:Tx}(ht:qH t)(hs:t.start<=(v.synced:Int)):Zk D {v with txns:=Vc v.txns s t}:=by
 refine⟨h.goes,h.many,h.data,h.mark,h.room,h.turn,h.few,h.wait,h.once,fun j hj=>?_,h.idle,h.down⟩;show qH (Vc v.txns s t j)∧(Vc v.txns s t j).start<=_;by_cases e:j=s;·rw[e,Xf];exact⟨ht,hs⟩
 ·rw[Zj _ _ e];exact h.tx j hj
theorem Zk.may(h:Zk D v):Gy v.tape=N:=by
 refine(Kz _).2 ⟨h.room,?_⟩;rw[h.mark,h.data];have:=UX D v.commits v.synced v.commits.length (by have:=h.turn;omega);rw[sC]at this;omega
theorem kW{t:Tx}{r:Rd}(h:Xi t r=0):(XZ t r).start=t.start:=by
 rw[XZ,if_pos h];split<;>rfl
theorem Cn{t:Tx}{w:Ze}(h:Xg t w=0):(Yv t w).start=t.start:=by
 rw[Yv,if_pos h]
theorem Zk.note(h:Zk D v){s:Nat}(hb:v.begun s=N){x:Rd}(hx:Xz x=0)(o:Rp):Zk D (Vi v s x o):=by
 obtain⟨h1,h2⟩:=h.tx s hb;unfold Vi;by_cases e:Xi (v.txns s) x=0;·rw[if_pos e];exact(h.txn (dZ h1 hx e) (by rw[kW e];exact h2)).tell _
 ·rw[if_neg e];exact h.tell _
theorem Zk.write(h:Zk D v){s:Nat}(hb:v.begun s=N){w:Ze}(hw:QC w=0):Zk D (yJ v s w):=by
 obtain⟨h1,h2⟩:=h.tx s hb;unfold yJ;by_cases e:Xg (v.txns s) w=0;·rw[if_pos e];exact(h.txn (bU h1 hw e) (by rw[Cn e];exact h2)).tell _
 ·rw[if_neg e];exact h.tell _
theorem uC{r:Rq}(h:Ys r)(hk:r.kind=2∨r.kind=3):Xz (Zu r)=0:=aN (by
 rw[(DH h).1,if_pos hk])
theorem Hy{r:Rq}(h:Ys r)(hk:r.kind=4∨r.kind=5):QC (Xu r)=0:=EM (by
 rw[(DH h).2,if_pos hk])
theorem Zk.work(h:Zk D v){s:Nat}(hb:v.begun s=N){r:Rq}(hr:Ys r)(hk:2<=r.kind∧r.kind<=5):Zk D (Fq v s r):=by
 unfold Fq;by_cases h1:r.kind=4∨r.kind=5;·rw[if_pos h1];exact h.write hb (Hy hr h1)
 ·rw[if_neg h1];by_cases h2:r.kind=2;(·rw[if_pos h2];unfold Dg;split;(·exact h.tell _);·exact h.note hb (uC hr (.inl h2)) _);·rw[if_neg h2];unfold Fp;split;(·exact h.note hb (uC hr (.inr (by omega))) _);·exact h.tell _
theorem Ci{t:Tx}(ht:qH t)(hw:¬t.writes.length=0)(n:Nat)(hn:n<=300):Q9 ⟨((n+1:Nat):Int),t.writes⟩=0:=(KT _).2 ⟨by
 show(1:Int)<=((n+1:Nat):Int)∧((n+1:Nat):Int)<=1048576;omega,⟨by
 show 1<=t.writes.length;omega,ht.writes⟩,ht.wrs⟩
theorem C4(h:Zk D v){s:Nat}(hb:v.begun s=N)(h1:¬(v.txns s).writes.length=0)(h2:¬(v.queue.length=6∨v.commits.length=300))(h4:QY (QH v v.commits.length) (v.txns s).writes=0)(h5:Vu D v.tape (Jk v s)=0):Zk D {XE v s with tape:=zQ D v.tape (Jk v s),commits:=v.commits++[Jk v s],queue:=v.queue++[s],waits:=Vc v.waits s N}:=by
 obtain⟨ht,hst⟩:=h.tx s hb;have hm:=h.many;have hc:Q9 (Jk v s)=0:=Ci ht h1 _ hm;have hmay:=h.may;have hroom:v.tape.data.length+(ZG D (Jk v s)).length<=200000:=by rw[Vu,if_pos hmay,if_pos hc]at h5;by_cases e:200000<v.tape.data.length+(ZG D (Jk v s)).length;(·rw[if_pos e]at h5;exact absurd h5 (by decide));·omega
 have hT:zQ D v.tape (Jk v s)=⟨v.tape.data++ZG D (Jk v s),v.tape.synced⟩:=by rw[zQ,if_pos h5]
 have hnw:v.waits s≠N:=fun e=>by have:=h.idle s e;rw[hb]at this;cases this
 have hnq:s∉v.queue:=fun e=>hnw ((h.wait s).2 e);have hup:v.up=N:=by cases hu:v.up with|true=>rfl|false=>have:=(h.down hu).2 s;rw[hb]at this;cases this
 have htn:=h.turn;rw[hT];refine⟨?_,?_,?_,?_,?_,?_,?_,?_,?_,?_,?_,?_⟩;·refine No h.goes hc (by show((v.commits.length+1:Nat):Int)=_;congr 1;omega) ?_;rw[QH,sC]at h4;exact h4
 ·show(v.commits++[Jk v s]).length<=300;rw[tC,tZ];omega
 ·show v.tape.data++ZG D (Jk v s)=Q4 D (v.commits++[Jk v s]);rw[Vz,Px,h.data]
 ·show v.tape.synced=((Q4 D ((v.commits++[Jk v s]).take v.synced)).length:Int);rw[List.take_append_of_le_length (by omega)];exact h.mark
 ·show(v.tape.data++ZG D (Jk v s)).length<=200000;rw[tC];exact hroom
 ·show v.synced+(v.queue++[s]).length=(v.commits++[Jk v s]).length;rw[tC,tC,tZ,tZ];omega
 ·show(v.queue++[s]).length<=6;have:=h.few;rw[tC,tZ];omega
 ·intro j;show Vc v.waits s N j=N↔j∈v.queue++[s];by_cases e:j=s;(·rw[e,Xf];simp);·rw[Zj _ _ e,h.wait j];simp[e]
 ·show(v.queue++[s]).Nodup;rw[pN];exact⟨h.once,by simp,fun a ha b hb e=>hnq (by simp at hb;rw[<-hb,<-e];exact ha)⟩
 ·intro j hj;exact h.tx j (ET hj).2
 ·intro j hj;show Vc v.begun s O j=O;by_cases e:j=s;(·rw[e,Xf]);·rw[Zj _ _ e];exact h.idle j (by have:Vc v.waits s N j=N:=hj;rwa[Zj _ _ e]at this)
 ·intro hu;have:v.up=O:=hu;rw[hup]at this;cases this
theorem Zk.commit(h:Zk D v){s:Nat}(hb:v.begun s=N):Zk D (Kb D v s):=by
 unfold Kb;by_cases h1:(v.txns s).writes.length=0;·rw[if_pos h1];exact(h.end s).tell _
 ·rw[if_neg h1];by_cases h2:v.queue.length=6∨v.commits.length=300;(·rw[if_pos h2];exact h.tell _);·rw[if_neg h2];by_cases h3:UI (v.txns s) v.commits=N;(·rw[if_pos h3];exact(h.end s).tell _);·rw[if_neg h3];by_cases h4:QY (QH v v.commits.length) (v.txns s).writes≠0;(·rw[if_pos h4];exact(h.end s).tell _);·rw[if_neg h4];by_cases h5:Vu D v.tape (Jk v s)≠0;(·rw[if_pos h5];exact(h.end s).tell _);·rw[if_neg h5];exact C4 h hb h1 h2 (sQ h4) (sQ h5)
theorem Zk.req(h:Zk D v)(hup:v.up=N)(s:Nat){r:Rq}(hr:Ys r):Zk D (Kc D v s r):=by
 unfold Kc;by_cases h1:r.kind=8;·rw[if_pos h1];exact h.tell _
 ·rw[if_neg h1];by_cases h2:QM v s r=N;(·rw[if_pos h2];exact h.tell _);·rw[if_neg h2];(have h2':v.waits s=O∧(if r.kind=1then v.begun s else !v.begun s)=O:=by unfold QM at h2;cases hw:v.waits s;(·rw[hw]at h2;exact⟨rfl,by simpa using h2⟩);·rw[hw]at h2;exact absurd rfl h2);by_cases h3:r.kind=1;(·rw[if_pos h3];refine Zk.tell ?_ _;have hm:=h.many;have htn:=h.turn;refine⟨h.goes,h.many,h.data,h.mark,h.room,h.turn,h.few,h.wait,h.once,fun j hj=>?_,fun j hj=>?_,fun hu=>?_⟩;(·show qH (Vc v.txns s _ j)∧(Vc v.txns s _ j).start<=_;by_cases e:j=s;(·rw[e,Xf];exact⟨⟨by show(0:Int)<=(v.synced:Int)∧(v.synced:Int)<=1048576;omega,by simp,by simp,by simp,by simp,by simp,by simp[Nr]⟩,Int.le_refl _⟩);·rw[Zj _ _ e];exact h.tx j (by have:Vc v.begun s N j=N:=hj;rwa[Zj _ _ e]at this));(·show Vc v.begun s N j=O;have hj':v.waits j=N:=hj;by_cases e:j=s;(·rw[e,h2'.1]at hj';cases hj');·rw[Zj _ _ e];exact h.idle j hj');·have:v.up=O:=hu;rw[hup]at this;cases this);·rw[if_neg h3];(have hb:v.begun s=N:=by have:=h2'.2;rw[if_neg h3]at this;simpa using this);by_cases h4:r.kind=7;(·rw[if_pos h4];exact(h.end s).tell _);·rw[if_neg h4];by_cases h5:ZX (v.synced:Int) (v.txns s).start=O;(·rw[if_pos h5];exact(h.end s).tell _);·rw[if_neg h5];by_cases h6:r.kind=6;(·rw[if_pos h6];exact h.commit hb);·rw[if_neg h6];have hk:=hr.kind;exact h.work hb hr (by omega)
theorem Zk.ask(h:Zk D v)(s:Nat)(d:List UInt8):Zk D (Xm D v s d):=by
 unfold Xm;by_cases h1:v.up=O;·rw[if_pos h1];exact h.tell _
 ·rw[if_neg h1];by_cases h2:QK d=0;(·rw[if_pos h2];exact h.req (by simpa using h1) s ((Yw _).1 (YI h2).1));·rw[if_neg h2];exact h.tell _
theorem Zk.sync(h:Zk D v):Zk D (VH v):=by
 have hm:=h.may;have htn:=h.turn;refine⟨h.goes,h.many,?_,?_,?_,?_,by simp[VH],?_,by simp[VH],?_,?_,?_⟩;·show(Kn v.tape).data=_;rw[Kn,if_pos hm];exact h.data
 ·show(Kn v.tape).synced=((Q4 D (v.commits.take (v.synced+v.queue.length))).length:Int);rw[Kn,if_pos hm,htn,sC,<-h.data]
 ·show(Kn v.tape).data.length<=_;rw[Kn,if_pos hm];exact h.room
 ·show v.synced+v.queue.length+([]:List Nat).length=v.commits.length;simpa using htn
 ·intro j;show Vd v.waits v.queue j=N↔j∈([]:List Nat);rw[Vd];constructor;(·intro e;split at e;(·cases e);·rename_i hq;exact absurd ((h.wait j).1 e) hq);·intro e;simp at e
 ·intro j hj;obtain⟨h1,h2⟩:=h.tx j hj;exact⟨h1,by show _<=((v.synced+v.queue.length:Nat):Int);have:(v.txns j).start<=(v.synced:Int):=h2;show(v.txns j).start<=_;omega⟩
 ·intro j hj;have:Vd v.waits v.queue j=N:=hj;rw[Vd]at this;split at this;(·cases this);·exact h.idle j this
 ·intro hu;exact⟨rfl,(h.down hu).2⟩
theorem LN{up:Bool}{t:V9}{cs:List XA}{o:List Rp}(hg:vL [] 0 cs)(hm:cs.length<=300)(hd:t=⟨Q4 D cs,((Q4 D cs).length:Int)⟩)(hr:(Q4 D cs).length<=200000):Zk D (Gb up t cs o):=by
 subst hd;refine⟨hg,hm,rfl,?_,hr,rfl,by simp[Gb],fun s=>by simp[Gb],by simp[Gb],fun s hs=>by simp[Gb]at hs,fun s hs=>by simp[Gb]at hs,fun _=>⟨rfl,fun _=>rfl⟩⟩;show((Q4 D cs).length:Int)=((Q4 D (cs.take cs.length)).length:Int);rw[sC]
theorem Ae(D:List UInt8->List UInt8):Zk D Wq:=LN trivial (by
 simp) rfl (by
 simp[Q4])
theorem qK(hD:∀x,(D x).length=4)(h:Zk D v){k:Int}(hk:0<=k):∃j,v.synced<=j∧j<=v.commits.length∧UQ D v k=Gb O ⟨Q4 D (v.commits.take j),((Q4 D (v.commits.take j)).length:Int)⟩ (v.commits.take j) v.out∧(k=0->j=v.synced):=by
 have hm:=h.may;obtain⟨m1,m2,m3⟩:=(Kz _).1 hm;have hit:qX 1 v.commits:=EX h.goes;have htn:=h.turn;have hce:Up v.tape k=0:=by rw[Up,if_pos hm,if_neg (by omega)]
 have hcn:Xr v.tape k<=v.tape.data.length∧v.tape.synced<=(Xr v.tape k:Int):=by rw[Xr];split<;>omega
 have hcT:Xn v.tape k=⟨(Q4 D v.commits).take (Xr v.tape k),(Xr v.tape k:Int)⟩:=by rw[Xn,if_pos hce,h.data]
 have hrl:(Q4 D v.commits).length<=200000:=by rw[<-h.data];exact h.room
 obtain⟨j,h1,h2,h3,_,h5,h6⟩:=OM hD hit (Xr v.tape k) (Xr v.tape k:Int) (by rw[<-h.data];exact hcn.1) (by omega) hrl;have hsj:v.synced<=j:=by refine Rv (D:=D) (cs:=v.commits) (k:=Xr v.tape k) (by omega) h3 ?_;have:=h.mark;omega
 have e:(if(Xr v.tape k:Int)>((Q4 D (v.commits.take j)).length:Int)then((Q4 D (v.commits.take j)).length:Int)else(Xr v.tape k:Int))=((Q4 D (v.commits.take j)).length:Int):=by split<;>omega
 refine⟨j,hsj,h1,?_,?_⟩;·rw[UQ,hcT,h5,h6,e]
 ·intro hk0;by_cases hj:j=v.synced;(·exact hj);·exfalso;(have hn:(Xr v.tape k:Int)=v.tape.synced:=by rw[Xr,hk0];split<;>omega);have g1:=UX D v.commits (v.synced+1) j (by omega);have g2:=Bw D v.commits v.synced (by omega);have hc:=(h.goes.at v.synced (by omega)).1;have g3:=(Ba hD hc).1;have hmk:=h.mark;rw[g2,tC]at g1;omega
theorem Zk.crash(hD:∀x,(D x).length=4)(h:Zk D v){k:Int}(hk:0<=k):Zk D (UQ D v k):=by
 obtain⟨j,h1,h2,h3,_⟩:=qK hD h hk;have hm:=h.many;have hle:=UX D v.commits j v.commits.length h2;rw[sC,<-h.data]at hle;have hr:=h.room;rw[h3];exact LN (h.goes.take j) (by rw[rX];omega) rfl (by omega)
theorem Zk.start(h:Zk D v):Zk D {v with up:=N}:=⟨h.goes,h.many,h.data,h.mark,h.room,h.turn,h.few,h.wait,h.once,h.tx,h.idle,fun hu=>by
 cases hu⟩
theorem Zk.act(hD:∀x,(D x).length=4)(h:Zk D v){a:Ac}(ha:Jc a):Zk D (VS D v a):=by
 unfold VS;by_cases h1:a.kind=1;·rw[if_pos h1];exact h.ask _ _
 ·rw[if_neg h1];by_cases h2:a.kind=2;(·rw[if_pos h2];split;(·exact h.sync);·exact h);·rw[if_neg h2];by_cases h3:a.kind=3;(·rw[if_pos h3];split;(·exact h.crash hD (ha.keep h3).1);·exact h);·rw[if_neg h3];exact h.start
theorem EO(hD:∀x,(D x).length=4):∀(l:List Ac)(v:Sv),Zk D v->(∀a∈l,Jc a)->Zk D (l.foldl (VS D) v)|[],_,h,_=>h|a::l,v,h,ha=>EO hD l _ (h.act hD (ha a (by simp))) (fun x hx=>ha x (by simp[hx]))
theorem Dz(hD:∀x,(D x).length=4)(l:List Ac)(h:∀a∈l,Jc a):Zk D (JL D l):=EO hD l Wq (Ae D) h
end
structure Same (v u : Sv) : Prop where
  up : u.up = v.up
  tape : u.tape = v.tape
  commits : u.commits = v.commits
  synced : u.synced = v.synced
  waits : u.waits = v.waits
  queue : u.queue = v.queue
structure eP (s : Nat) (v u : Sv) : Prop extends Same v u where
  out : ∃ r, u.out = v.out ++ [r] ∧ r.sess = (s : Int)
  begun : ∀ j, j ≠ s -> u.begun j = v.begun j
  txns : ∀ j, j ≠ s -> u.txns j = v.txns j
theorem Uf(v:Sv)(s:Nat)(r:Rp)(h:r.sess=(s:Int)):eP s v (ZW v r):=⟨⟨rfl,rfl,rfl,rfl,rfl,rfl⟩,⟨r,rfl,h⟩,fun _ _=>rfl,fun _ _=>rfl⟩
theorem yS(v:Sv)(s:Nat)(r:Rp)(h:r.sess=(s:Int)):eP s v (ZW (XE v s) r):=⟨⟨rfl,rfl,rfl,rfl,rfl,rfl⟩,⟨r,rfl,h⟩,fun _ hj=>Zj _ _ hj,fun _ _=>rfl⟩
theorem Ly(v:Sv)(s:Nat)(t:Tx)(r:Rp)(h:r.sess=(s:Int)):eP s v (ZW {v with txns:=Vc v.txns s t} r):=⟨⟨rfl,rfl,rfl,rfl,rfl,rfl⟩,⟨r,rfl,h⟩,fun _ _=>rfl,fun _ hj=>Zj _ _ hj⟩
theorem DA(v:Sv)(s:Nat)(x:Rd)(o:Rp)(h:o.sess=(s:Int)):eP s v (Vi v s x o):=by
 unfold Vi;split;·exact Ly v s _ _ h
 ·exact Uf v s _ rfl
theorem WI(v:Sv)(s:Nat)(w:Ze):eP s v (yJ v s w):=by
 unfold yJ;split;·exact Ly v s _ _ rfl
 ·exact Uf v s _ rfl
theorem Oa(v:Sv)(s:Nat)(r:Rq):eP s v (Fq v s r):=by
 unfold Fq;split;·exact WI v s _
 ·split;(·unfold Dg;split;(·exact Uf v s _ rfl);·exact DA v s _ _ rfl);·unfold Fp;split;(·exact DA v s _ _ rfl);·exact Uf v s _ rfl
structure OD (D : List UInt8 -> List UInt8) (s : Nat) (v u : Sv) : Prop where
  up : u.up = v.up
  tape : u.tape = zQ D v.tape (Jk v s)
  commits : u.commits = v.commits ++ [Jk v s]
  synced : u.synced = v.synced
  waits : u.waits = Vc v.waits s N
  queue : u.queue = v.queue ++ [s]
  out : u.out = v.out
  begun : u.begun = Vc v.begun s O
  txns : u.txns = v.txns
  full : (v.txns s).writes.length ≠ 0
  room : v.queue.length ≠ 6 ∧ v.commits.length ≠ 300
  clash : UI (v.txns s) v.commits = O
  fits : QY (QH v v.commits.length) (v.txns s).writes = 0
  app : Vu D v.tape (Jk v s) = 0
theorem Iz(D:List UInt8->List UInt8)(v:Sv)(s:Nat):eP s v (Kb D v s)∨OD D s v (Kb D v s):=by
 unfold Kb;by_cases h1:(v.txns s).writes.length=0;·rw[if_pos h1];exact .inl (yS v s _ rfl)
 ·rw[if_neg h1];by_cases h2:v.queue.length=6∨v.commits.length=300;(·rw[if_pos h2];exact .inl (Uf v s _ rfl));·rw[if_neg h2];by_cases h3:UI (v.txns s) v.commits=N;(·rw[if_pos h3];exact .inl (yS v s _ rfl));·rw[if_neg h3];by_cases h4:QY (QH v v.commits.length) (v.txns s).writes≠0;(·rw[if_pos h4];exact .inl (yS v s _ rfl));·rw[if_neg h4];by_cases h5:Vu D v.tape (Jk v s)≠0;(·rw[if_pos h5];exact .inl (yS v s _ rfl));·rw[if_neg h5];exact .inr ⟨rfl,rfl,rfl,rfl,rfl,rfl,rfl,rfl,rfl,h1,⟨fun e=>h2 (.inl e),fun e=>h2 (.inr e)⟩,by simpa using h3,sQ h4,sQ h5⟩
theorem gH(D:List UInt8->List UInt8)(v:Sv)(s:Nat)(r:Rq):eP s v (Kc D v s r)∨(r.kind=6∧QM v s r=O∧OD D s v (Kc D v s r)):=by
 unfold Kc;by_cases h1:r.kind=8;·rw[if_pos h1];exact .inl (Uf v s _ rfl)
 ·rw[if_neg h1];by_cases h2:QM v s r=N;(·rw[if_pos h2];exact .inl (Uf v s _ rfl));·rw[if_neg h2];by_cases h3:r.kind=1;(·rw[if_pos h3];exact .inl ⟨⟨rfl,rfl,rfl,rfl,rfl,rfl⟩,⟨_,rfl,rfl⟩,fun _ hj=>Zj _ _ hj,fun _ hj=>Zj _ _ hj⟩);·rw[if_neg h3];by_cases h4:r.kind=7;(·rw[if_pos h4];exact .inl (yS v s _ rfl));·rw[if_neg h4];by_cases h5:ZX (v.synced:Int) (v.txns s).start=O;(·rw[if_pos h5];exact .inl (yS v s _ rfl));·rw[if_neg h5];by_cases h6:r.kind=6;(·rw[if_pos h6];rcases Iz D v s with h|h;(·exact .inl h);·exact .inr ⟨h6,by simpa using h2,h⟩);·rw[if_neg h6];exact .inl (Oa v s r)
theorem gF(D:List UInt8->List UInt8)(v:Sv)(s:Nat)(d:List UInt8):eP s v (Xm D v s d)∨(v.up=N∧QK d=0∧(Qu d).kind=6∧v.waits s=O∧v.begun s=N∧OD D s v (Xm D v s d)):=by
 unfold Xm;by_cases h1:v.up=O;·rw[if_pos h1];exact .inl (Uf v s _ rfl)
 ·rw[if_neg h1];by_cases h2:QK d=0;(·rw[if_pos h2];rcases gH D v s (Qu d)with h|⟨h3,h4,h5⟩;(·exact .inl h);·right;unfold QM at h4;rw[if_neg (by omega)]at h4;simp only[rO,Bool.not_eq_false']at h4;exact⟨by simpa using h1,h2,h3,h4.1,h4.2,h5⟩);·rw[if_neg h2];exact .inl (Uf v s _ rfl)
theorem P8:∀(q:List Nat)(n:Nat),(VX n q).length=q.length|[],_=>rfl|_::q,n=>by rw[VX,sM,sM,P8 q]
structure Gr where
  kind : Int
  sess : Int
  name : Int
  key : Int
  value : Int
def kS:Gr:=⟨0,0,0,0,0⟩
def Y1(n:Int)(many:Nat):Nat:=if n<0then((-(n+1))%(many:Int)).toNat else(n%(many:Int)).toNat
theorem VT(n:Int){many:Nat}(h:0<many):Y1 n many<many:=by
 unfold Y1;split;·have b0:=pZ (-(n+1)) (show(many:Int)≠0 by omega);have b1:=pO (-(n+1)) (show(0:Int)<many by omega);omega
 ·have b0:=pZ n (show(many:Int)≠0 by omega);have b1:=pO n (show(0:Int)<many by omega);omega
def lC(n:Int):List UInt8:=[sR (97+Y1 n 3)]
def lA(n:Int):List UInt8:=[sR (107+Y1 n 5)]
def lV(n:Int):List UInt8:=[sR (Y1 n 50)]
def Pj(k:Nat)(a b c d:List UInt8):Rq:=if k<4then⟨1,[],[],[],[]⟩else if k<7then⟨2,a,b,[],[]⟩else if k=7then⟨3,a,b,c,[]⟩else if k<12then⟨4,a,b,[],d⟩else if k=12then⟨5,a,b,[],[]⟩else if k<17then⟨6,[],[],[],[]⟩else if k=17then⟨7,[],[],[],[]⟩else⟨8,a,b,[],[]⟩
def Vg(g:Gr):Rq:=Pj (Y1 g.kind 20) (lC g.name) (lA g.key) (lA g.value) (lV g.value)
theorem eJ(k:Nat){a b c d:List UInt8}(ha:a.length=1)(hb:b.length=1)(hc:c.length=1)(hd:d.length=1):Ys (Pj k a b c d):=by
 unfold Pj;repeat' split
 all_goals(refine⟨⟨?_,?_⟩,?_,?_,?_,?_,?_,?_,?_,?_⟩<;>simp[QV, *])
theorem LR(g:Gr):Ys (Vg g):=eJ _ rfl rfl rfl rfl
def Ei(g:Gr):Ac:=if Y1 g.kind 26=20∨Y1 g.kind 26=21∨Y1 g.kind 26=22then⟨2,0,0,[]⟩else if Y1 g.kind 26=23then⟨3,0,(Y1 g.value 80:Int),[]⟩else if Y1 g.kind 26=24then⟨4,0,0,[]⟩else if Y1 g.kind 26=25then⟨1,(Y1 g.sess 8:Int),0,[sR (r8.wrap g.value).toNat,sR (r8.wrap g.key).toNat]⟩else⟨1,(Y1 g.sess 8:Int),0,J4 (Vg g)⟩
def Ya(l:List Gr)(n:Nat):List Ac:=(l.take n).map Ei
theorem LS{r:Rq}(h:Ys r):J4 r=J9 r:=by
 rw[J4,if_pos ((Yw r).2 h)]
theorem bX{r:Rq}(h:Ys r):(J4 r).length<=78:=by
 rw[LS h];exact(uH h).1
theorem I9{s:Int}{d:List UInt8}(h0:0<=s)(h1:s<=7)(hd:d.length<=4000):Jc ⟨1,s,0,d⟩:=by
 refine⟨⟨by simp,by simp⟩,fun _=>⟨h0,h1⟩,fun h=>by simp at h,hd,fun h=>by simp at h,fun _=>rfl,fun h=>by simp at h⟩
theorem eM:Jc ⟨2,0,0,[]⟩:=⟨⟨by
 simp,by
 simp⟩,fun h=>by
 simp at h,fun h=>by
 simp at h,by
 simp,fun _=>rfl,fun _=>rfl,fun _=>rfl⟩
theorem aU:Jc ⟨4,0,0,[]⟩:=⟨⟨by
 simp,by
 simp⟩,fun h=>by
 simp at h,fun h=>by
 simp at h,by
 simp,fun _=>rfl,fun _=>rfl,fun _=>rfl⟩
theorem I1{k:Int}(h0:0<=k)(h1:k<=200000):Jc ⟨3,0,k,[]⟩:=⟨⟨by
 simp,by
 simp⟩,fun h=>by
 simp at h,fun _=>⟨h0,h1⟩,by
 simp,fun _=>rfl,fun h=>by
 simp at h,fun _=>rfl⟩
theorem fJ(g:Gr):Jc (Ei g):=by
 have h8:=VT g.sess (many:=8) (by decide);have h80:=VT g.value (many:=80) (by decide);have hr:=bX (LR g);unfold Ei;split;·exact eM
 ·split;(·exact I1 (by omega) (by omega));·split;(·exact aU);·split;(·exact I9 (by omega) (by omega) (by simp));·exact I9 (by omega) (by omega) (by omega)
theorem AM(l:List Gr)(n:Nat):∀a∈Ya l n,Jc a:=fun a ha=>by
 obtain⟨g,_,rfl⟩:=List.mem_map.1 ha;exact fJ g
structure Uz (l : FL) : Prop where
  many : l.length * 48 <= 140737488355328
  each : ∀ i, i < l.length -> (l.getD i ([], [])).1.length <= 140737488355328 ∧ uF (l.getD i ([], [])).2
theorem Uz.len{l:FL}(h:Uz l):l.length<=140737488355328:=by
 have:=h.many;omega
theorem ZZ.fits{l:FL}(h:ZZ l):Uz l:=by
 refine⟨by have:=h.room;omega,fun i hi=>?_⟩;have:=h.tens l[i] (sN hi);rw[show l[i]=l.getD i ([],[])by simp[hi]]at this;exact⟨by omega,this.2.2.fits⟩
def DJ(w:F)(b o:Nat)(t:Tn):Prop:=∃vn vp,w.cell? ⟨b,o,G⟩=I vn∧w.cell? ⟨b,o+1,G⟩=I vp∧Qe w vn t.1∧Qq w vp t.2
theorem DJ.grown{w w':F}{b o:Nat}{t:Tn}(h:DJ w b o t)(hg:L w w' G):DJ w' b o t:=by
 obtain⟨vn,vp,c1,c2,h1,h2⟩:=h;exact⟨vn,vp,hg.cell c1 (by simp),hg.cell c2 (by simp),h1.grown hg,h2.grown hg⟩
def Zf(w:F)(v:H)(l:FL):Prop:=∃a cap,v=J a l.length cap∧l.length<=cap∧((l=[]∧(a=G->cap=0))∨∃b o,a=I ⟨b,o,G⟩∧∀i,i<l.length->DJ w b (o+i*2) (l.getD i ([],[])))
theorem qO(w:F):Zf w (J G 0 0) []:=⟨G,0,rfl,sA _,.inl ⟨rfl,fun _=>rfl⟩⟩
theorem Zf.grown{w w':F}{v:H}{l:FL}(h:Zf w v l)(hg:L w w' G):Zf w' v l:=by
 obtain⟨a,cap,rfl,hc,h⟩:=h;refine⟨a,cap,rfl,hc,?_⟩;rcases h with h|⟨b,o,rfl,h⟩;·exact .inl h
 ·exact .inr ⟨b,o,rfl,fun i hi=>(h i hi).grown hg⟩
theorem Zf.shape{w:F}{v:H}{l:FL}(h:Zf w v l):∃a cap,v=J a l.length cap:=by
 obtain⟨a,cap,rfl,_⟩:=h;exact⟨a,cap,rfl⟩
theorem Zf.at{w:F}{a:Option rB}{n cap:Nat}{l:FL}(h:Zf w (J a n cap) l)(i:Nat)(hi:i<l.length):∃b o,a=I ⟨b,o,G⟩∧DJ w b (o+i*2) (l.getD i ([],[])):=by
 obtain⟨a',cap',e,hc,h⟩:=h;simp only[tH]at e;obtain⟨rfl,rfl,rfl⟩:=e;rcases h with⟨rfl,_⟩|⟨b,o,rfl,h⟩;·simp at hi
 ·exact⟨b,o,rfl,h i hi⟩
theorem fT:(64:Nat)≠5:=by
 decide
theorem fP:(64:Nat)≠44:=by
 decide
def Zz(base:Nat)(w:F)(v:H)(l:FL):Prop:=∃vs:List (H×H),vs.length=l.length∧w.ownsRow base 64 2 v l.length (flat vs)∧∀i,i<l.length->Qh 0 w (vs.getD i (sH,sH)).1 (l.getD i ([],[])).1∧QN 0 w (vs.getD i (sH,sH)).2 (l.getD i ([],[])).2
theorem yF(base:Nat)(w:F):Zz base w (J G 0 0) []:=⟨[],rfl,sJ _ _ _ _,fun i hi=>by
 simp at hi⟩
theorem Zz.row{base:Nat}{w:F}{v:H}{l:FL}(h:Zz base w v l):v.ownBlock=G∨∃g cur t fz,v.ownBlock=I g∧base<=g∧w.heap[g]?=I (S cur t fz)∧t≠5∧t≠44:=by
 obtain⟨vs,_,h,_⟩:=h;rcases h.2with⟨rfl,_⟩|⟨g,cap,cur,rfl,hb,hg,_⟩;·exact .inl rfl
 ·exact .inr ⟨g,cur,_,_,rfl,hb,hg,fT,fP⟩
theorem Zz.row0{base:Nat}{w:F}{v:H}{l:FL}(h:Zz base w v l):v.ownBlock=G∨∃g cur t fz,v.ownBlock=I g∧0<=g∧w.heap[g]?=I (S cur t fz)∧t≠5∧t≠44:=by
 rcases h.row with h|⟨g,cur,t,fz,h1,_,h3⟩;·exact .inl h
 ·exact .inr ⟨g,cur,t,fz,h1,tQ _,h3⟩
theorem iB{base:Nat}{w:F}{r:Option Nat}(h:r=G∨∃g cur t fz,r=I g∧base<=g∧w.heap[g]?=I (S cur t fz)∧t≠5∧t≠44):r=G∨∃g cur t fz,r=I g∧base<=g∧w.heap[g]?=I (S cur t fz)∧t≠5:=by
 rcases h with h|⟨g,cur,t,fz,h1,h2,h3,h4,_⟩;·exact .inl h
 ·exact .inr ⟨g,cur,t,fz,h1,h2,h3,h4⟩
theorem Zz.lt{base:Nat}{w:F}{v:H}{l:FL}(h:Zz base w v l):∀k,v.ownBlock=I k->base<=k∧k<w.heap.size:=by
 obtain⟨vs,_,h,_⟩:=h;exact sF h
theorem Zz.grownNone{base:Nat}{w w':F}{v:H}{l:FL}(h:Zz base w v l)(hg:L w w' G):Zz base w' v l:=by
 obtain⟨vs,h1,h2,h3⟩:=h;refine⟨vs,h1,tS h2 hg ?_,fun i hi=>⟨((h3 i hi).1).keptT hg (.inl rfl),((h3 i hi).2).kept hg (.inl rfl)⟩⟩;cases hv:v.ownBlock with|none=>exact .inl rfl|some k=>exact .inr (by simp)
theorem Zz.alloc{base:Nat}{w:F}{v:H}{l:FL}(h:Zz base w v l)(o:Obj):Zz base (w.alloc o) v l:=h.grownNone (sK _ _ _)
theorem Zz.shape{base:Nat}{w:F}{v:H}{l:FL}(h:Zz base w v l):∃a cap,v=J a l.length cap:=by
 obtain⟨vs,_,h,_⟩:=h;rcases h.2with⟨rfl,h0⟩|⟨g,cap,cur,rfl,_⟩;·exact⟨G,0,by rw[h0]⟩
 ·exact⟨_,cap,rfl⟩
theorem Zz.cells{base:Nat}{w:F}{g n cap:Nat}{vs:List (H×H)}{l:FL}(hr:w.ownsRow base 64 2 (J (I ⟨g,0,G⟩) n cap) l.length (flat vs)):∀j u,(flat vs)[j]?=I u->w.cell? ⟨g,j,G⟩=I u:=by
 intro j u hj;rcases hr.2with⟨e,_⟩|⟨g',cap',cur,e,hb,hg,hn,hm,hs,ht⟩;·cases e
 ·simp only[tH,tA,rK]at e;obtain⟨⟨rfl,_⟩,_,_⟩:=e;(have hlt:j<l.length*2:=by have:=(sG.1 hj).1;rw[hr.1]at this;exact this);(have e2:(cur.toList.take (l.length*2))[j]?=(flat vs)[j]?:=by rw[ht]);rw[sB,if_pos hlt,hj]at e2;simp[tU,hg];simpa using e2
theorem Zz.list{base:Nat}{w:F}{v:H}{l:FL}(h:Zz base w v l):Zf w v l:=by
 obtain⟨vs,hl,hr,h3⟩:=h;have hr':=hr;rcases hr.2with⟨rfl,h0⟩|⟨g,cap,cur,rfl,hb,hg,hn,hm,hs,ht⟩;·have:l=[]:=tJ h0;subst this;exact qO w
 ·refine⟨_,cap,rfl,hn,.inr ⟨g,0,rfl,fun i hi=>?_⟩⟩;have hf:=xO vs i (by omega);refine⟨(vs.getD i (sH,sH)).1,(vs.getD i (sH,sH)).2,?_,?_,(h3 i hi).1.1,(h3 i hi).2.list⟩;(·have:=Zz.cells hr' _ _ hf.1;rw[sL];exact this);·have:=Zz.cells hr' _ _ hf.2;rw[sL];exact this
theorem TP{base:Nat}{w W w1:F}{v:H}{l:FL}(h:L w W G)(ho:Zz base W v l)(hb:w.heap.size<=base)(hg:L W w1 v.ownBlock):L w w1 G:=⟨hg.os.trans h.os,hg.tape.trans h.tape,hg.output.trans h.output,tP h.size hg.size,fun i hi hn=>(hg.block i (tG hi h.size) (fun e=>by
 have:=(ho.lt i e.symm).1;omega)).trans (h.block i hi hn)⟩
theorem F2:(M.info? 64).map (fun i=>(i.zero,i.size,i.bytes))=I (I (sO #[J G 0 0,J G 0 0]),2,48):=by
 kernel_rfl
theorem j8{w:F}{o:rF}{a:Act}{K:Act->F->Prop}{Q:Exit->Act->F->Prop}(s x:rC)(ho:o.op=.call {callee:=.builtin .append,args:=#[s,x],argTypes:=#[31,31]})(base:Nat)(v:H)(l:FL)(hs:a.eval s=v)(hown:Zz base w v l)(vn vp:H)(t:Tn)(hk:Qh 0 w vn t.1)(hv:QN 0 w vp t.2)(nb:Nat)(hb:w.heap[nb]?=I (S #[vn,vp] 64))(hx:a.eval x=J (I ⟨nb,0,G⟩) 1 1)(hl:(l.length+1)*48<=140737488355328)(hbase:base<=w.heap.size)(h:∀v' w',Zz base w' v' (l++[t])->L w w' v.ownBlock->K (a.put o.dst v') w'):o.wp M a w K Q:=by
 obtain⟨i0,hi,hz0,hz1,hz2⟩:=rV F2;have hrow:=hown.row0;obtain⟨vs,hvl,hr,hp⟩:=hown;refine wp_append_lies w s x 31 ho base 64 i0 (sO #[J G 0 0,J G 0 0]) 2 48 Tryz.underlying31 hi hz0 hz1 hz2 rfl (by decide) v l.length (flat vs) hs hr ⟨nb,0,G⟩ 1 1 (flat [(vn,vp)]) hx rfl (sY (cs:=#[vn,vp]) hb) ?_ (by omega) (by unfold pF;omega) hl hbase _ rfl ?_;·intro u hu;simp only[flat,tN,rA,rG,tK,tM,or_false]at hu;rcases hu with rfl|rfl;(·exact Zx hk);·exact yB hv
 ·intro g cap w' h1 h2 _ _;refine h _ w' ⟨vs++[(vn,vp)],by simp[hvl],?_,?_⟩ h2;(·rw[JU,tC];exact h1);·intro i hi;rw[Jh,Jh,hvl];by_cases hil:i<l.length;(·rw[if_pos hil,if_pos hil];exact⟨(hp i hil).1.keptT h2 (iB hrow),(hp i hil).2.kept h2 hrow⟩);·rw[if_neg hil,if_neg hil];(obtain rfl:i=l.length:=by simp at hi;omega);rw[oD];exact⟨hk.keptT h2 (iB hrow),hv.kept h2 hrow⟩
theorem FU{w:F}{ops:Array rF}{o:rF}{a:Act}{K:Act->F->Prop}{Q:Exit->Act->F->Prop}{E:Prop}(hgd:o.guard=G)(s x:rC)(ho:o.op=.call {callee:=.builtin .append,args:=#[s,x],argTypes:=#[31,31]})(base:Nat)(v:H)(l:FL)(hs:a.eval s=v)(hown:Zz base w v l)(vn vp:H)(t:Tn)(hk:Qh 0 w vn t.1)(hv:QN 0 w vp t.2)(nb:Nat)(hb:w.heap[nb]?=I (S #[vn,vp] 64))(hx:a.eval x=J (I ⟨nb,0,G⟩) 1 1)(hl:(l.length+1)*48<=140737488355328)(hbase:base<=w.heap.size)(h:∀v' w',Zz base w' v' (l++[t])->L w w' v.ownBlock->K (a.put o.dst v') w'):if sD o (pA ops a.tmps)=N then Oper.wp M o a w K Q else E:=by
 have hw:sD o (pA ops a.tmps)=N:=by simp[sD,hgd]
 rw[if_pos hw];exact j8 s x ho base v l hs hown vn vp t hk hv nb hb hx hl hbase h
theorem uS{w:F}{ops:Array rF}{rest:List rF}{o:rF}{a:Act}{Q:Exit->Act->F->Prop}(hgd:o.guard=G)(s x:rC)(ho:o.op=.call {callee:=.builtin .append,args:=#[s,x],argTypes:=#[31,31]})(base:Nat)(v:H)(l:FL)(hs:a.eval s=v)(hown:Zz base w v l)(vn vp:H)(t:Tn)(hk:Qh 0 w vn t.1)(hv:QN 0 w vp t.2)(nb:Nat)(hb:w.heap[nb]?=I (S #[vn,vp] 64))(hx:a.eval x=J (I ⟨nb,0,G⟩) 1 1)(hl:(l.length+1)*48<=140737488355328)(hbase:base<=w.heap.size)(h:∀v' w',Zz base w' v' (l++[t])->L w w' v.ownBlock->wpList M ops Q rest (a.put o.dst v') w'):wpList M ops Q (o::rest) a w:=wpList_plain hgd fun _ hK=>j8 s x ho base v l hs hown vn vp t hk hv nb hb hx hl hbase fun v' w' h1 h2=>hK _ _ (h v' w' h1 h2)
theorem Qk{w:F}{b i:Nat}{cs:Array H}{t:tX}{fz:Nat×Nat}{u:H}(h:w.heap[b]?=I (S cs t fz)):(tE w ⟨b,i,G⟩ u).heap[b]?=I (S (cs.setIfInBounds i u) t fz):=by
 simp only[tE,tV,if_true,h,rN];rfl
theorem Qx{w:F}{b c i:Nat}{o:Obj}{u:H}(h:w.heap[b]?=I o)(hne:b≠c):(tE w ⟨c,i,G⟩ u).heap[b]?=I o:=by
 simp only[tE,tV];rw[if_neg (fun e=>hne e.symm)];exact h
theorem YF(w:F)(b i:Nat)(u:H):L w (tE w ⟨b,i,G⟩ u) (I b):=Qi (Qb w _) i u
theorem Qh.setOther{base:Nat}{w:F}{v:H}{bs:List UInt8}(h:Qh base w v bs){b i:Nat}{cs:Array H}{t:tX}{fz:Nat×Nat}(hb:w.heap[b]?=I (S cs t fz))(ht:t≠5)(hbb:base<=b)(u:H):Qh base (tE w ⟨b,i,G⟩ u) v bs:=h.keptT (YF w b i u) (.inr ⟨b,cs,t,fz,rfl,hbb,hb,ht⟩)
def QZ(rb pb:Nat)(w:F)(v:H)(l:List Ze):Prop:=∃us:List WV,us.map (·.1)=l∧w.ownsRow rb 178 4 v l.length (Y5 us)∧∀x∈us,Qh pb w x.2.1 x.1.name∧Qh pb w x.2.2.1 x.1.key∧Qh pb w x.2.2.2 x.1.value
theorem Xs(rb pb:Nat)(w:F):QZ rb pb w (J G 0 0) []:=⟨[],rfl,sJ _ _ _ _,fun x hx=>by
 simp at hx⟩
theorem QZ.row{rb pb:Nat}{w:F}{v:H}{l:List Ze}(h:QZ rb pb w v l):v.ownBlock=G∨∃g cur fz,v.ownBlock=I g∧rb<=g∧w.heap[g]?=I (S cur 178 fz):=by
 obtain⟨us,_,h,_⟩:=h;rcases h.2with⟨rfl,_⟩|⟨g,cap,cur,rfl,hb,hg,_⟩;·exact .inl rfl
 ·exact .inr ⟨g,cur,_,rfl,hb,hg⟩
theorem QZ.lt{rb pb:Nat}{w:F}{v:H}{l:List Ze}(h:QZ rb pb w v l):∀k,v.ownBlock=I k->rb<=k∧k<w.heap.size:=by
 obtain⟨us,_,h,_⟩:=h;exact sF h
theorem QZ.ne{rb pb:Nat}{w:F}{v:H}{l:List Ze}(h:QZ rb pb w v l){b:Nat}{cs:Array H}{t:tX}{fz:Nat×Nat}(hb:w.heap[b]?=I (S cs t fz))(ht:t≠178):v.ownBlock≠I b:=by
 intro e;rcases h.row with h0|⟨g,cur,fz2,h1,_,h2⟩;·rw[h0]at e;cases e
 ·rw[h1]at e;cases e;rw[hb]at h2;simp only[tA,tW]at h2;exact ht h2.2.1
theorem QZ.kept{rb pb:Nat}{w w':F}{v:H}{l:List Ze}(h:QZ rb pb w v l){row:Option Nat}(hg:L w w' row)(hne:v.ownBlock=G∨v.ownBlock≠row)(hrow:row=G∨∃g cur t fz,row=I g∧pb<=g∧w.heap[g]?=I (S cur t fz)∧t≠5):QZ rb pb w' v l:=by
 obtain⟨us,h1,h2,h3⟩:=h;exact⟨us,h1,tS h2 hg hne,fun x hx=>⟨(h3 x hx).1.keptT hg hrow,(h3 x hx).2.1.keptT hg hrow,(h3 x hx).2.2.keptT hg hrow⟩⟩
theorem QZ.grownNone{rb pb:Nat}{w w':F}{v:H}{l:List Ze}(h:QZ rb pb w v l)(hg:L w w' G):QZ rb pb w' v l:=h.kept hg (by
 cases hv:v.ownBlock with|none=>exact .inl rfl|some k=>exact .inr (by simp)) (.inl rfl)
theorem QZ.setOther{rb pb:Nat}{w:F}{v:H}{l:List Ze}(h:QZ rb pb w v l){b i:Nat}{cs:Array H}{t:tX}{fz:Nat×Nat}(hb:w.heap[b]?=I (S cs t fz))(ht:t≠5)(ht2:t≠178)(hbb:pb<=b)(u:H):QZ rb pb (tE w ⟨b,i,G⟩ u) v l:=h.kept (YF w b i u) (.inr (h.ne hb ht2)) (.inr ⟨b,cs,t,fz,rfl,hbb,hb,ht⟩)
theorem QZ.shape{rb pb:Nat}{w:F}{v:H}{l:List Ze}(h:QZ rb pb w v l):∃a cap,v=J a l.length cap:=by
 obtain⟨us,_,h,_⟩:=h;rcases h.2with⟨rfl,h0⟩|⟨g,cap,cur,rfl,_⟩;·exact⟨G,0,by rw[h0]⟩
 ·exact⟨_,cap,rfl⟩
theorem QZ.any{rb pb:Nat}{w:F}{v:H}{l:List Ze}(h:QZ rb pb w v l):∃a n cap,v=J a n cap:=by
 obtain⟨a,cap,e⟩:=h.shape;exact⟨a,_,cap,e⟩
theorem QZ.down{rb pb:Nat}{w:F}{v:H}{l:List Ze}(h:QZ rb pb w v l)(rb':Nat)(hb:rb'<=rb):QZ rb' pb w v l:=by
 obtain⟨us,h1,h2,h3⟩:=h;refine⟨us,h1,⟨h2.1,?_⟩,h3⟩;rcases h2.2with h|⟨g,cap,cur,e,hb2,rest⟩;·exact .inl h
 ·exact .inr ⟨g,cap,cur,e,tP hb hb2,rest⟩
theorem QZ.writesB{rb pb:Nat}{w:F}{v:H}{l:List Ze}(h:QZ rb pb w v l):Xk pb w v l:=by
 obtain⟨us,hl,hr,h3⟩:=h;rcases hr.2with⟨rfl,h0⟩|⟨g,cap,cur,rfl,hb,hg,hn,hm,hs,ht⟩;·have:l=[]:=tJ h0;rw[this];exact DY pb w
 ·(have hcell:∀j u,(Y5 us)[j]?=I u->w.cell? ⟨g,j,G⟩=I u:=by intro j u hj;(have hlt:j<l.length*4:=by have:=(sG.1 hj).1;rw[hr.1]at this;exact this);(have e2:(cur.toList.take (l.length*4))[j]?=(Y5 us)[j]?:=by rw[ht]);rw[sB,if_pos hlt,hj]at e2;simp[tU,hg];simpa using e2);refine⟨_,cap,rfl,hn,.inr ⟨g,0,rfl,.inr ⟨_,_,hg⟩,fun i hi=>?_⟩⟩;obtain⟨e1,e2⟩:=Wa hl i hi;(have hlen:us.length=l.length:=by rw[<-hl];simp);obtain⟨c1,c2,c3,c4⟩:=NQ us i (by omega);have hp:=h3 _ e2;rw[e1]at c3 hp;rw[sL];exact⟨_,_,_,hcell _ _ c1,hcell _ _ c2,hcell _ _ c3,hcell _ _ c4,hp.1,hp.2.1,hp.2.2⟩
theorem QZ.list{rb pb:Nat}{w:F}{v:H}{l:List Ze}(h:QZ rb pb w v l):QQ w v l:=h.writesB.list
theorem V6{rb pb:Nat}{w W w1:F}{v:H}{l:List Ze}(h:L w W G)(ho:QZ rb pb W v l)(hb:w.heap.size<=rb)(hg:L W w1 v.ownBlock):L w w1 G:=⟨hg.os.trans h.os,hg.tape.trans h.tape,hg.output.trans h.output,tP h.size hg.size,fun i hi hn=>(hg.block i (tG hi h.size) (fun e=>by
 have:=(ho.lt i e.symm).1;omega)).trans (h.block i hi hn)⟩
def Rl(w:F)(b o:Nat)(r:Rd):Prop:=∃vn vk vl,w.cell? ⟨b,o,G⟩=I vn∧w.cell? ⟨b,o+1,G⟩=I vk∧w.cell? ⟨b,o+2,G⟩=I (tL r.wide)∧w.cell? ⟨b,o+3,G⟩=I vl∧Qe w vn r.name∧Qe w vk r.key∧Qe w vl r.last
theorem Rl.grown{w w':F}{b o:Nat}{r:Rd}(h:Rl w b o r)(hg:L w w' G):Rl w' b o r:=by
 obtain⟨vn,vk,vl,c1,c2,c3,c4,h1,h2,h3⟩:=h;exact⟨vn,vk,vl,hg.cell c1 (by simp),hg.cell c2 (by simp),hg.cell c3 (by simp),hg.cell c4 (by simp),h1.grown hg,h2.grown hg,h3.grown hg⟩
def Z7(w:F)(v:H)(l:List Rd):Prop:=∃a cap,v=J a l.length cap∧l.length<=cap∧((l=[]∧(a=G->cap=0))∨∃b o,a=I ⟨b,o,G⟩∧∀i,i<l.length->Rl w b (o+i*4) (l.getD i Zd))
theorem CZ(w:F):Z7 w (J G 0 0) []:=⟨G,0,rfl,sA _,.inl ⟨rfl,fun _=>rfl⟩⟩
theorem Z7.shape{w:F}{v:H}{l:List Rd}(h:Z7 w v l):∃a cap,v=J a l.length cap:=by
 obtain⟨a,cap,rfl,_⟩:=h;exact⟨a,cap,rfl⟩
theorem Z7.grown{w w':F}{v:H}{l:List Rd}(h:Z7 w v l)(hg:L w w' G):Z7 w' v l:=by
 obtain⟨a,cap,rfl,hc,h⟩:=h;refine⟨a,cap,rfl,hc,?_⟩;rcases h with h|⟨b,o,rfl,h⟩;·exact .inl h
 ·exact .inr ⟨b,o,rfl,fun i hi=>(h i hi).grown hg⟩
theorem Z7.at{w:F}{a:Option rB}{n cap:Nat}{l:List Rd}(h:Z7 w (J a n cap) l)(i:Nat)(hi:i<l.length):∃b o,a=I ⟨b,o,G⟩∧Rl w b (o+i*4) (l.getD i Zd):=by
 obtain⟨a',cap',e,hc,h⟩:=h;simp only[tH]at e;obtain⟨rfl,rfl,rfl⟩:=e;rcases h with⟨rfl,_⟩|⟨b,o,rfl,h⟩;·simp at hi
 ·exact⟨b,o,rfl,h i hi⟩
structure i6 (l : List Rd) : Prop where
  many : l.length * 80 <= 140737488355328
  each : ∀ i, i < l.length -> P5 (l.getD i Zd)
structure xI (t : Tx) : Prop where
  start : -9223372036854775808 <= t.start ∧ t.start <= 9223372036854775807
  reads : i6 t.reads
  writes : uJ t.writes
def GW(w:F)(v:H)(t:Tx):Prop:=∃vr vw,v=sO #[Y tB t.start,vr,vw]∧Z7 w vr t.reads∧QQ w vw t.writes
theorem GW.grown{w w':F}{v:H}{t:Tx}(h:GW w v t)(hg:L w w' G):GW w' v t:=by
 obtain⟨vr,vw,rfl,h1,h2⟩:=h;exact⟨vr,vw,rfl,h1.grown hg,h2.grown hg⟩
theorem GW.agg{w:F}{v:H}{t:Tx}(h:GW w v t):∃ra rc wa wc,v=sO #[Y tB t.start,J ra t.reads.length rc,J wa t.writes.length wc]:=by
 obtain⟨vr,vw,rfl,h1,h2⟩:=h;obtain⟨ra,rc,rfl⟩:=h1.shape;obtain⟨wa,wc,rfl⟩:=h2.shape;exact⟨ra,rc,wa,wc,rfl⟩
theorem GW.parts{w:F}{t:Tx}{x y z:H}(h:GW w (sO #[x,y,z]) t):x=Y tB t.start∧Z7 w y t.reads∧QQ w z t.writes:=by
 obtain⟨vr,vw,e,h1,h2⟩:=h;simp only[Value.agg.injEq,Array.mk.injEq,List.cons.injEq,and_true]at e;obtain⟨rfl,rfl,rfl⟩:=e;exact⟨rfl,h1,h2⟩
theorem PA{r:Rd}(h:Xz r=0):P5 r:=by
 obtain⟨h1,h2,h3⟩:=(Ez r).1 h;refine⟨by omega,by omega,?_⟩;split at h3;·omega
 ·rw[h3];simp
abbrev RV:=Rd×H×H×H
def Bv:RV:=(Zd,sH,sH,sH)
def Gs(us:List RV):List H:=us.flatMap fun x=>[x.2.1,x.2.2.1,tL x.1.wide,x.2.2.2]
theorem N8(a b:List RV):Gs (a++b)=Gs a++Gs b:=by
 simp[Gs]
theorem Nf:∀(us:List RV)(i:Nat),i<us.length->(Gs us)[i*4]?=I (us.getD i Bv).2.1∧(Gs us)[i*4+1]?=I (us.getD i Bv).2.2.1∧(Gs us)[i*4+2]?=I (tL (us.getD i Bv).1.wide)∧(Gs us)[i*4+3]?=I (us.getD i Bv).2.2.2|[],i,h=>by simp at h|x::us,0,_=>⟨rfl,rfl,rfl,rfl⟩|x::us,i+1,h=>by have:=Nf us i (by simpa using h);rw[show(i+1)*4=i*4+4by omega];exact this
theorem iF:(198:Nat)≠5:=by
 decide
theorem iS:(198:Nat)≠178:=by
 decide
def ZI(rb pb:Nat)(w:F)(v:H)(l:List Rd):Prop:=∃us:List RV,us.map (·.1)=l∧w.ownsRow rb 198 4 v l.length (Gs us)∧∀x∈us,Qh pb w x.2.1 x.1.name∧Qh pb w x.2.2.1 x.1.key∧Qh pb w x.2.2.2 x.1.last
theorem Uo(rb pb:Nat)(w:F):ZI rb pb w (J G 0 0) []:=⟨[],rfl,sJ _ _ _ _,fun x hx=>by
 simp at hx⟩
theorem ZI.row{rb pb:Nat}{w:F}{v:H}{l:List Rd}(h:ZI rb pb w v l):v.ownBlock=G∨∃g cur fz,v.ownBlock=I g∧rb<=g∧w.heap[g]?=I (S cur 198 fz):=by
 obtain⟨us,_,h,_⟩:=h;rcases h.2with⟨rfl,_⟩|⟨g,cap,cur,rfl,hb,hg,_⟩;·exact .inl rfl
 ·exact .inr ⟨g,cur,_,rfl,hb,hg⟩
theorem ZI.lt{rb pb:Nat}{w:F}{v:H}{l:List Rd}(h:ZI rb pb w v l):∀k,v.ownBlock=I k->rb<=k∧k<w.heap.size:=by
 obtain⟨us,_,h,_⟩:=h;exact sF h
theorem ZI.ne{rb pb:Nat}{w:F}{v:H}{l:List Rd}(h:ZI rb pb w v l){b:Nat}{cs:Array H}{t:tX}{fz:Nat×Nat}(hb:w.heap[b]?=I (S cs t fz))(ht:t≠198):v.ownBlock≠I b:=by
 intro e;rcases h.row with h0|⟨g,cur,fz2,h1,_,h2⟩;·rw[h0]at e;cases e
 ·rw[h1]at e;cases e;rw[hb]at h2;simp only[tA,tW]at h2;exact ht h2.2.1
theorem ZI.kept{rb pb:Nat}{w w':F}{v:H}{l:List Rd}(h:ZI rb pb w v l){row:Option Nat}(hg:L w w' row)(hne:v.ownBlock=G∨v.ownBlock≠row)(hrow:row=G∨∃g cur t fz,row=I g∧pb<=g∧w.heap[g]?=I (S cur t fz)∧t≠5):ZI rb pb w' v l:=by
 obtain⟨us,h1,h2,h3⟩:=h;exact⟨us,h1,tS h2 hg hne,fun x hx=>⟨(h3 x hx).1.keptT hg hrow,(h3 x hx).2.1.keptT hg hrow,(h3 x hx).2.2.keptT hg hrow⟩⟩
theorem ZI.grownNone{rb pb:Nat}{w w':F}{v:H}{l:List Rd}(h:ZI rb pb w v l)(hg:L w w' G):ZI rb pb w' v l:=h.kept hg (by
 cases hv:v.ownBlock with|none=>exact .inl rfl|some k=>exact .inr (by simp)) (.inl rfl)
theorem ZI.setOther{rb pb:Nat}{w:F}{v:H}{l:List Rd}(h:ZI rb pb w v l){b i:Nat}{cs:Array H}{t:tX}{fz:Nat×Nat}(hb:w.heap[b]?=I (S cs t fz))(ht:t≠5)(ht2:t≠198)(hbb:pb<=b)(u:H):ZI rb pb (tE w ⟨b,i,G⟩ u) v l:=h.kept (YF w b i u) (.inr (h.ne hb ht2)) (.inr ⟨b,cs,t,fz,rfl,hbb,hb,ht⟩)
theorem ZI.down{rb pb:Nat}{w:F}{v:H}{l:List Rd}(h:ZI rb pb w v l)(rb':Nat)(hb:rb'<=rb):ZI rb' pb w v l:=by
 obtain⟨us,h1,h2,h3⟩:=h;refine⟨us,h1,⟨h2.1,?_⟩,h3⟩;rcases h2.2with h|⟨g,cap,cur,e,hb2,rest⟩;·exact .inl h
 ·exact .inr ⟨g,cap,cur,e,tP hb hb2,rest⟩
theorem ZI.shape{rb pb:Nat}{w:F}{v:H}{l:List Rd}(h:ZI rb pb w v l):∃a cap,v=J a l.length cap:=by
 obtain⟨us,_,h,_⟩:=h;rcases h.2with⟨rfl,h0⟩|⟨g,cap,cur,rfl,_⟩;·exact⟨G,0,by rw[h0]⟩
 ·exact⟨_,cap,rfl⟩
theorem If{us:List RV}{l:List Rd}(h:us.map (·.1)=l)(i:Nat)(hi:i<l.length):(us.getD i Bv).1=l.getD i Zd∧us.getD i Bv∈us:=by
 subst h;have hi':i<us.length:=by simpa using hi
 refine⟨by simp[hi'],?_⟩;rw[show us.getD i Bv=us[i]by simp[hi']];exact sN hi'
theorem ZI.list{rb pb:Nat}{w:F}{v:H}{l:List Rd}(h:ZI rb pb w v l):Z7 w v l:=by
 obtain⟨us,hl,hr,h3⟩:=h;rcases hr.2with⟨rfl,h0⟩|⟨g,cap,cur,rfl,hb,hg,hn,hm,hs,ht⟩;·have:l=[]:=tJ h0;rw[this];exact CZ w
 ·(have hcell:∀j u,(Gs us)[j]?=I u->w.cell? ⟨g,j,G⟩=I u:=by intro j u hj;(have hlt:j<l.length*4:=by have:=(sG.1 hj).1;rw[hr.1]at this;exact this);(have e2:(cur.toList.take (l.length*4))[j]?=(Gs us)[j]?:=by rw[ht]);rw[sB,if_pos hlt,hj]at e2;simp[tU,hg];simpa using e2);refine⟨_,cap,rfl,hn,.inr ⟨g,0,rfl,fun i hi=>?_⟩⟩;obtain⟨e1,e2⟩:=If hl i hi;(have hlen:us.length=l.length:=by rw[<-hl];simp);obtain⟨c1,c2,c3,c4⟩:=Nf us i (by omega);have hp:=h3 _ e2;rw[e1]at c3 hp;rw[sL];exact⟨_,_,_,hcell _ _ c1,hcell _ _ c2,hcell _ _ c3,hcell _ _ c4,hp.1.1,hp.2.1.1,hp.2.2.1⟩
theorem TH{rb pb:Nat}{w W w1:F}{v:H}{l:List Rd}(h:L w W G)(ho:ZI rb pb W v l)(hb:w.heap.size<=rb)(hg:L W w1 v.ownBlock):L w w1 G:=⟨hg.os.trans h.os,hg.tape.trans h.tape,hg.output.trans h.output,tP h.size hg.size,fun i hi hn=>(hg.block i (tG hi h.size) (fun e=>by
 have:=(ho.lt i e.symm).1;omega)).trans (h.block i hi hn)⟩
theorem iD:(M.info? 198).map (fun i=>(i.zero,i.size,i.bytes))=I (I (sO #[J G 0 0,J G 0 0,tL O,J G 0 0]),4,80):=by
 kernel_rfl
def GO(w:F)(v:H)(t:Tx):Prop:=∃vr vw,v=sO #[Y tB t.start,vr,vw]∧ZI 0 0 w vr t.reads∧QZ 0 0 w vw t.writes
theorem GO.is{w:F}{v:H}{t:Tx}(h:GO w v t):GW w v t:=by
 obtain⟨vr,vw,rfl,h1,h2⟩:=h;exact⟨vr,vw,rfl,h1.list,h2.list⟩
theorem xG(w:F):GO w (sO #[Y tB 0,J G 0 0,J G 0 0]) FF:=⟨_,_,rfl,Uo 0 0 w,Xs 0 0 w⟩
def MR(w:F)(b o:Nat)(s:uB):Prop:=∃vo,w.cell? ⟨b,o,G⟩=I (Y tB s.bit)∧w.cell? ⟨b,o+1,G⟩=I (tL s.right)∧w.cell? ⟨b,o+2,G⟩=I vo∧Qe w vo s.other
theorem MR.grown{w w':F}{b o:Nat}{s:uB}(h:MR w b o s)(hg:L w w' G):MR w' b o s:=by
 obtain⟨vo,c1,c2,c3,h1⟩:=h;exact⟨vo,hg.cell c1 (by simp),hg.cell c2 (by simp),hg.cell c3 (by simp),h1.grown hg⟩
def Gm(w:F)(v:H)(l:List uB):Prop:=∃a cap,v=J a l.length cap∧l.length<=cap∧((l=[]∧(a=G->cap=0))∨∃b o,a=I ⟨b,o,G⟩∧∀i,i<l.length->MR w b (o+i*3) (l.getD i Lo))
theorem CO(w:F):Gm w (J G 0 0) []:=⟨G,0,rfl,sA _,.inl ⟨rfl,fun _=>rfl⟩⟩
theorem Gm.grown{w w':F}{v:H}{l:List uB}(h:Gm w v l)(hg:L w w' G):Gm w' v l:=by
 obtain⟨a,cap,rfl,hc,h⟩:=h;refine⟨a,cap,rfl,hc,?_⟩;rcases h with h|⟨b,o,rfl,h⟩;·exact .inl h
 ·exact .inr ⟨b,o,rfl,fun i hi=>(h i hi).grown hg⟩
theorem Gm.shape{w:F}{v:H}{l:List uB}(h:Gm w v l):∃a cap,v=J a l.length cap:=by
 obtain⟨a,cap,rfl,_⟩:=h;exact⟨a,cap,rfl⟩
def KJ(w:F)(v:H)(p:D4):Prop:=∃vs vk vv,v=sO #[tL p.empty,vs,vk,vv]∧Gm w vs p.steps∧Qe w vk p.pair.1∧Qe w vv p.pair.2
theorem KJ.grown{w w':F}{v:H}{p:D4}(h:KJ w v p)(hg:L w w' G):KJ w' v p:=by
 obtain⟨vs,vk,vv,rfl,h0,h1,h2⟩:=h;exact⟨vs,vk,vv,rfl,h0.grown hg,h1.grown hg,h2.grown hg⟩
theorem KZ{w:F}{b:Nat}{x y:H}{t:tX}(h:w.heap[b]?=I (S #[x,y] t)):w.cell? ⟨b,0,G⟩=I x∧w.cell? ⟨b,1,G⟩=I y∧w.frozen? ⟨b,0,G⟩=O∧w.frozen? ⟨b,1,G⟩=O:=by
 refine⟨?_,?_,?_,?_⟩<;>simp[tU,rW,h]
theorem cR{w:F}{b:Nat}{x y:H}{t:tX}(h:w.heap[b]?=I (S #[x,y] t))(u v:H):((tE w ⟨b,0,G⟩ u).setCell ⟨b,1,G⟩ v).heap[b]?=I (S #[u,v] t):=by
 have h0:(tE w ⟨b,0,G⟩ u).heap[b]?=I (S #[u,y] t):=by simp only[tE,tV,if_true,h,rN];first|rfl|simp
 rw[tE,tV,if_pos rfl,h0];first|rfl|simp
theorem Gj{w:F}{b:Nat}{x y z:H}{t:tX}(h:w.heap[b]?=I (S #[x,y,z] t)):(w.cell? ⟨b,0,G⟩=I x∧w.cell? ⟨b,1,G⟩=I y∧w.cell? ⟨b,2,G⟩=I z)∧w.frozen? ⟨b,0,G⟩=O∧w.frozen? ⟨b,1,G⟩=O∧w.frozen? ⟨b,2,G⟩=O:=by
 refine⟨⟨?_,?_,?_⟩,?_,?_,?_⟩<;>simp[tU,rW,h]
theorem E0{w:F}{b:Nat}{x y z:H}{t:tX}(h:w.heap[b]?=I (S #[x,y,z] t))(x' y' z':H):(((tE w ⟨b,0,G⟩ x').setCell ⟨b,1,G⟩ y').setCell ⟨b,2,G⟩ z').heap[b]?=I (S #[x',y',z'] t):=by
 have h0:(tE w ⟨b,0,G⟩ x').heap[b]?=I (S #[x',y,z] t):=by simp only[tE,tV,if_true,h,rN];first|rfl|simp
 have h1:((tE w ⟨b,0,G⟩ x').setCell ⟨b,1,G⟩ y').heap[b]?=I (S #[x',y',z] t):=by rw[tE,tV,if_pos rfl,h0];first|rfl|simp
 rw[tE,tV,if_pos rfl,h1];first|rfl|simp
theorem Fh{w w1:F}(h:L w w1 G)(b:Nat)(hb:w.heap.size<=b)(x y z:H):L w (((tE w1 ⟨b,0,G⟩ x).setCell ⟨b,1,G⟩ y).setCell ⟨b,2,G⟩ z) G:=Qc (Qc (Qc h _ hb _ _) _ hb _ _) _ hb _ _
def gU(w:F)(b:Nat):Prop:=∃cur t fz,w.heap[b]?=I (S cur t fz)∧(t=5∨∃q,cur[0]?=I (Y r8 q))
def jJ(w:F)(b:Nat):Prop:=∃cur t fz,w.heap[b]?=I (S cur t fz)∧t≠5∧∀q,cur[0]?≠I (Y r8 q)
theorem gU.ne{w:F}{a b:Nat}(h:gU w a)(h':jJ w b):a≠b:=by
 rintro rfl;obtain⟨cur,t,fz,h1,h2⟩:=h;obtain⟨cur',t',fz',h3,h4,h5⟩:=h';rw[h1]at h3;simp only[tA,tW]at h3;obtain⟨rfl,rfl,_⟩:=h3;rcases h2 with h2|⟨q,h2⟩;·exact h4 h2
 ·exact h5 q h2
theorem jJ.grown{w w':F}{b:Nat}(h:jJ w b)(hg:L w w' G):jJ w' b:=by
 obtain⟨cur,t,fz,h1,h2⟩:=h;exact⟨cur,t,fz,by rw[hg.block b (tI.1 h1).1 (by simp)];exact h1,h2⟩
theorem jJ.set{w:F}{c:Nat}(h:jJ w c)(i:Nat)(u:H)(hu:∀q,u≠Y r8 q):jJ (tE w ⟨c,i,G⟩ u) c:=by
 obtain⟨cur,t,fz,h1,h2,h3⟩:=h;refine⟨cur.setIfInBounds i u,t,fz,?_,h2,fun q hq=>?_⟩;·simp only[tE,tV,if_true,h1,rN];first|rfl|simp
 ·rw[Array.getElem?_setIfInBounds]at hq;split at hq;(·split at hq;(·simp at hq;exact hu q hq);·cases hq);·exact h3 q hq
theorem MX{w:F}{c:Nat}{x:H}{xs:List H}{t:tX}{fz:Nat×Nat}(h:w.heap[c]?=I (S ⟨x::xs⟩ t fz))(ht:t≠5)(hx:∀q,x≠Y r8 q):jJ w c:=⟨_,t,fz,h,ht,fun q hq=>by
 simp at hq;exact hx q hq⟩
def XS(w:F)(v:H)(bs:List UInt8):Prop:=Qe w v bs∧(bs=[]∨∃b,v.ownBlock=I b∧b<w.heap.size∧gU w b)
theorem iL:(124:Nat)≠5:=by
 decide
theorem UA(w:F):XS w (J G 0 0) []:=⟨QD _,.inl rfl⟩
theorem Q8.partS{base':Nat}{w:F}{v:H}{bs:List UInt8}(h:Q8 base' w v bs):XS w v bs:=by
 refine⟨h.slice,?_⟩;rcases h.2with⟨rfl,h0⟩|⟨g,cap,cur,rfl,hb,hg,_⟩;·exact .inl (tJ h0)
 ·exact .inr ⟨g,rfl,(tI.1 hg).1,cur,_,_,hg,.inl rfl⟩
theorem ZH.partS{w:F}{nb:Nat}{bs:List UInt8}(h:ZH w nb bs)(hl:bs.length=32):XS w (J (I ⟨nb,0,G⟩) 32 32) bs:=by
 refine⟨h.slice32 hl,.inr ⟨nb,rfl,VA (h.cell 0 (by omega)),?_⟩⟩;have hc:=h.cell 0 (by omega);obtain⟨t,hb⟩:=h;refine⟨_,t,_,hb,.inr ⟨((bs.getD 0 0).toNat:Int),?_⟩⟩;·simpa[tU,hb]using hc
theorem Eu{w:F}{v:H}{bs:List UInt8}(h:XS w v bs):v.oneCell'=N:=by
 obtain⟨⟨a,cap,rfl,_⟩,_⟩:=h;rfl
def iV(w:F)(row:Option Nat):Prop:=row=G∨∃g,row=I g∧jJ w g
theorem XS.kept{w w':F}{v:H}{bs:List UInt8}(h:XS w v bs){row:Option Nat}(hg:L w w' row)(hrow:iV w row):XS w' v bs:=by
 obtain⟨hs,ho⟩:=h;rcases ho with rfl|⟨b,hb,hlt,hc⟩;·obtain⟨a,cap,rfl,hc,h⟩:=hs;refine⟨⟨a,cap,rfl,hc,?_⟩,.inl rfl⟩;rcases h with h|⟨b,o,rfl,h⟩;(·exact .inl h);·exact .inr ⟨b,o,rfl,fun i hi=>by simp at hi⟩
 ·(have hne:I b≠row:=by intro e;rcases hrow with rfl|⟨g,rfl,hg'⟩;(·cases e);·cases e;exact hc.ne hg' rfl);have hblk:=hg.block b hlt hne;refine⟨?_,.inr ⟨b,hb,tG hlt hg.size,?_⟩⟩;(·obtain⟨a,cap,rfl,hcp,h⟩:=hs;refine⟨a,cap,rfl,hcp,?_⟩;rcases h with h|⟨b',o,rfl,h⟩;(·exact .inl h);·refine .inr ⟨b',o,rfl,fun i hi=>?_⟩;simp[pG]at hb;subst hb;exact hg.cell (h i hi) (by simpa using hne));·obtain⟨cur,t,fz,hc,hc2⟩:=hc;exact⟨cur,t,fz,by rw[hblk];exact hc,hc2⟩
theorem XS.grown{w w':F}{v:H}{bs:List UInt8}(h:XS w v bs)(hg:L w w' G):XS w' v bs:=h.kept hg (.inl rfl)
theorem XS.set{w:F}{v:H}{bs:List UInt8}(h:XS w v bs){c:Nat}(hc:jJ w c)(i:Nat)(u:H):XS (tE w ⟨c,i,G⟩ u) v bs:=h.kept (Qi (Qb _ (I c)) i u) (.inr ⟨c,rfl,hc⟩)
abbrev SV:=uB×H
def Hx:SV:=(Lo,sH)
def Ul(us:List SV):List H:=us.flatMap fun x=>[Y tB x.1.bit,tL x.1.right,x.2]
theorem M2(a b:List SV):Ul (a++b)=Ul a++Ul b:=by
 simp[Ul]
theorem N4:∀(us:List SV)(i:Nat),i<us.length->(Ul us)[i*3]?=I (Y tB (us.getD i Hx).1.bit)∧(Ul us)[i*3+1]?=I (tL (us.getD i Hx).1.right)∧(Ul us)[i*3+2]?=I (us.getD i Hx).2|[],i,h=>by simp at h|x::r,0,_=>by simp[Ul]|x::r,i+1,h=>by have:=N4 r i (by simpa using h);rw[show(i+1)*3=i*3+3by omega,show i*3+3+1=(i*3+1)+3by omega,show i*3+3+2=(i*3+2)+3by omega];simpa[Ul]using this
theorem Wh(us:List SV):∀u∈Ul us,(∀x∈us,x.2.oneCell'=N)->u.oneCell'=N:=by
 intro u hu h;obtain⟨x,hx,hu⟩:=List.mem_flatMap.1 hu;simp only[tK,tM,or_false]at hu;rcases hu with rfl|rfl|rfl;·rfl
 ·rfl
 ·exact h x hx
def JK(base:Nat)(w:F)(v:H)(l:List uB):Prop:=∃us:List SV,us.map (·.1)=l∧w.ownsRow base 124 3 v l.length (Ul us)∧(∀x∈us,XS w x.2 x.1.other)∧(l=[]->v=J G 0 0)
theorem uW(base:Nat)(w:F):JK base w (J G 0 0) []:=⟨[],rfl,sJ _ _ _ _,fun x hx=>by
 simp at hx,fun _=>rfl⟩
theorem JK.row{base:Nat}{w:F}{v:H}{l:List uB}(h:JK base w v l):iV w v.ownBlock:=by
 obtain⟨us,hm,h,_,h0⟩:=h;cases l with|nil=>rw[h0 rfl];exact .inl rfl|cons x r=>rcases h.2with⟨rfl,_⟩|⟨g,cap,cur,rfl,hb,hg,hn,_,_,ht⟩;(·exact .inl rfl);·refine .inr ⟨g,rfl,cur,_,_,hg,iL,fun q=>?_⟩;cases us with|nil=>simp at hm|cons u us=>simp only[List.map_cons,List.cons.injEq]at hm;(have e:(cur.toList.take ((x::r).length*3))[0]?=(Ul (u::us))[0]?:=by rw[ht]);rw[sB,if_pos (by simp)]at e;rw[<-r7,e];simp[Ul]
theorem JK.lt{base:Nat}{w:F}{v:H}{l:List uB}(h:JK base w v l):∀k,v.ownBlock=I k->base<=k∧k<w.heap.size:=by
 obtain⟨us,_,h,_⟩:=h;exact sF h
theorem JK.grownNone{base:Nat}{w w':F}{v:H}{l:List uB}(h:JK base w v l)(hg:L w w' G):JK base w' v l:=by
 obtain⟨us,h1,h2,h3,h4⟩:=h;refine⟨us,h1,tS h2 hg ?_,fun x hx=>(h3 x hx).grown hg,h4⟩;cases hv:v.ownBlock with|none=>exact .inl rfl|some k=>exact .inr (by simp)
theorem JK.alloc{base:Nat}{w:F}{v:H}{l:List uB}(h:JK base w v l)(o:Obj):JK base (w.alloc o) v l:=h.grownNone (sK _ _ _)
theorem JK.shape{base:Nat}{w:F}{v:H}{l:List uB}(h:JK base w v l):∃a cap,v=J a l.length cap:=by
 obtain⟨us,_,h,_⟩:=h;rcases h.2with⟨rfl,h0⟩|⟨g,cap,cur,rfl,_⟩;·exact⟨G,0,by rw[h0]⟩
 ·exact⟨_,cap,rfl⟩
theorem JK.cells{base:Nat}{w:F}{g n cap:Nat}{us:List SV}{k:Nat}(hr:w.ownsRow base 124 3 (J (I ⟨g,0,G⟩) n cap) k (Ul us)):∀j u,(Ul us)[j]?=I u->w.cell? ⟨g,j,G⟩=I u:=by
 intro j u hj;rcases hr.2with⟨e,_⟩|⟨g',cap',cur,e,hb,hg,hn,hm,hs,ht⟩;·cases e
 ·simp only[tH,tA,rK]at e;obtain⟨⟨rfl,_⟩,_,_⟩:=e;(have hlt:j<k*3:=by have:=(sG.1 hj).1;rw[hr.1]at this;exact this);(have e2:(cur.toList.take (k*3))[j]?=(Ul us)[j]?:=by rw[ht]);rw[sB,if_pos hlt,hj]at e2;simp[tU,hg];simpa using e2
theorem aM{us:List SV}{l:List uB}(h:us.map (·.1)=l)(i:Nat)(hi:i<l.length):(us.getD i Hx).1=l.getD i Lo∧us.getD i Hx∈us:=by
 subst h;have hi':i<us.length:=by simpa using hi
 constructor;·simp[hi']
 ·rw[show us.getD i Hx=us[i]by simp[hi']];exact sN _
theorem JK.list{base:Nat}{w:F}{v:H}{l:List uB}(h:JK base w v l):Gm w v l:=by
 obtain⟨us,hl,hr,h3,_⟩:=h;have hul:us.length=l.length:=by rw[<-hl];simp
 rcases hr.2with⟨rfl,h0⟩|⟨g,cap,cur,rfl,hb,hg,hn,hm,hs,ht⟩;·have:l=[]:=tJ h0;subst this;exact CO w
 ·refine⟨_,cap,rfl,hn,.inr ⟨g,0,rfl,fun i hi=>?_⟩⟩;obtain⟨e1,e2⟩:=aM hl i hi;obtain⟨c1,c2,c3⟩:=N4 us i (by omega);have hp:=h3 _ e2;rw[e1]at c1 c2 hp;rw[sL];exact⟨_,JK.cells hr _ _ c1,JK.cells hr _ _ c2,JK.cells hr _ _ c3,hp.1⟩
theorem JK.set{base:Nat}{w:F}{v:H}{l:List uB}(h:JK base w v l){c:Nat}(hc:jJ w c)(hne:c<base)(i:Nat)(u:H):JK base (tE w ⟨c,i,G⟩ u) v l:=by
 have hlt:=h.lt;obtain⟨us,h1,h2,h3,h4⟩:=h;refine⟨us,h1,tS h2 (Qi (Qb _ (I c)) i u) ?_,fun x hx=>(h3 x hx).set hc i u,h4⟩;cases hv:v.ownBlock with|none=>exact .inl rfl|some k=>exact .inr (by have:=(hlt k hv).1;simp;omega)
theorem gK:(46:Nat)≠5:=by
 decide
theorem i5:(44:Nat)≠5:=by
 decide
theorem Vs{W:F}{pb:Nat}{x y:H}(h:W.heap[pb]?=I (S #[x,y] 44))(hx:∀q,x≠Y r8 q)(ua va:Option rB)(un uc vn vc:Nat){z:H}{bs:List UInt8}(hz:XS W z bs):XS ((tE W ⟨pb,0,G⟩ (J ua un uc)).setCell ⟨pb,1,G⟩ (J va vn vc)) z bs:=have h0:jJ W pb:=MX (xs:=[y]) h i5 hx;have h1:=h0.set 0 (J ua un uc) (fun q=>by
 simp);(hz.set h0 0 _).set h1 1 _
theorem XS.quad{w:F}{v:H}{bs:List UInt8}(h:XS w v bs){c:Nat}(hc:jJ w c){e:Bool}{sa:Option rB}{sn sc:Nat}{ka va:Option rB}{kn kc vn vc:Nat}:XS ((((tE w ⟨c,0,G⟩ (tL e)).setCell ⟨c,1,G⟩ (J sa sn sc)).setCell ⟨c,2,G⟩ (J ka kn kc)).setCell ⟨c,3,G⟩ (J va vn vc)) v bs:=have h1:=hc.set 0 (tL e) (fun q=>by
 simp);have h2:=h1.set 1 (J sa sn sc) (fun q=>by
 simp);have h3:=h2.set 2 (J ka kn kc) (fun q=>by
 simp);(((h.set hc 0 _).set h1 1 _).set h2 2 _).set h3 3 _
theorem JK.quad{base:Nat}{w:F}{v:H}{l:List uB}(h:JK base w v l){c:Nat}(hc:jJ w c)(hne:c<base){e:Bool}{sa:Option rB}{sn sc:Nat}{ka va:Option rB}{kn kc vn vc:Nat}:JK base ((((tE w ⟨c,0,G⟩ (tL e)).setCell ⟨c,1,G⟩ (J sa sn sc)).setCell ⟨c,2,G⟩ (J ka kn kc)).setCell ⟨c,3,G⟩ (J va vn vc)) v l:=have h1:=hc.set 0 (tL e) (fun q=>by
 simp);have h2:=h1.set 1 (J sa sn sc) (fun q=>by
 simp);have h3:=h2.set 2 (J ka kn kc) (fun q=>by
 simp);(((h.set hc hne 0 _).set h1 hne 1 _).set h2 hne 2 _).set h3 hne 3 _
def Zy(n:Nat)(w:F)(v:H)(p:D4):Prop:=∃base vs vk vv,v=sO #[tL p.empty,vs,vk,vv]∧n<=base∧base<=w.heap.size∧JK base w vs p.steps∧XS w vk p.pair.1∧XS w vv p.pair.2
theorem Zy.is{n:Nat}{w:F}{v:H}{p:D4}(h:Zy n w v p):KJ w v p:=by
 obtain⟨base,vs,vk,vv,rfl,_,_,h1,h2,h3⟩:=h;exact⟨vs,vk,vv,rfl,h1.list,h2.1,h3.1⟩
theorem Sd{base:Nat}{w W w1:F}{v:H}{l:List uB}(h:L w W G)(ho:JK base W v l)(hb:w.heap.size<=base)(hg:L W w1 v.ownBlock):L w w1 G:=⟨hg.os.trans h.os,hg.tape.trans h.tape,hg.output.trans h.output,tP h.size hg.size,fun i hi hn=>(hg.block i (tG hi h.size) (fun e=>by
 have:=(ho.lt i e.symm).1;omega)).trans (h.block i hi hn)⟩
theorem OC:(M.info? 124).map (fun i=>(i.zero,i.size,i.bytes))=I (I (sO #[Y tB 0,tL O,J G 0 0]),3,40):=by
 kernel_rfl
theorem Rk{w:F}{o:rF}{a:Act}{K:Act->F->Prop}{Q:Exit->Act->F->Prop}(s x:rC)(ho:o.op=.call {callee:=.builtin .append,args:=#[s,x],argTypes:=#[42,42]})(base:Nat)(v:H)(l:List uB)(hs:a.eval s=v)(hown:JK base w v l)(vo:H)(p:uB)(hk:XS w vo p.other)(nb:Nat)(hb:∀j u,[Y tB p.bit,tL p.right,vo][j]?=I u->w.cell? ⟨nb,j,G⟩=I u)(hx:a.eval x=J (I ⟨nb,0,G⟩) 1 1)(hl:(l.length+1)*40<=140737488355328)(hbase:base<=w.heap.size)(h:∀v' w',JK base w' v' (l++[p])->L w w' v.ownBlock->K (a.put o.dst v') w'):o.wp M a w K Q:=by
 obtain⟨i0,hi,hz0,hz1,hz2⟩:=rV OC;have hrow:=hown.row;obtain⟨us,hul,hr,hp,_⟩:=hown;refine wp_append_own w s x 42 ho base 124 i0 (sO #[Y tB 0,tL O,J G 0 0]) 3 40 Tryz.underlying42 hi hz0 hz1 hz2 rfl (by decide) v l.length (Ul us) hs hr ⟨nb,0,G⟩ 1 1 (Ul [(p,vo)]) hx rfl ?_ ?_ (by unfold pF;omega) hl hbase ?_;·intro j u hj;rw[Z4,sL];exact hb j u (by simpa[Ul]using hj)
 ·intro u hu;exact Wh _ u hu fun y hy=>by simp at hy;subst hy;exact Eu hk
 ·intro v' w' h1 h2 _;refine h _ w' ⟨us++[(p,vo)],by simp[hul],?_,?_,fun e=>by simp at e⟩ h2;(·rw[M2,tC];exact h1);·intro y hy;rcases tY.1 hy with hy|hy;(·exact(hp y hy).kept h2 hrow);·simp at hy;subst hy;exact hk.kept h2 hrow
theorem kR{w:F}{ops:Array rF}{rest:List rF}{o:rF}{a:Act}{Q:Exit->Act->F->Prop}(hgd:o.guard=G)(s x:rC)(ho:o.op=.call {callee:=.builtin .append,args:=#[s,x],argTypes:=#[42,42]})(base:Nat)(v:H)(l:List uB)(hs:a.eval s=v)(hown:JK base w v l)(vo:H)(p:uB)(hk:XS w vo p.other)(nb:Nat)(hb:∀j u,[Y tB p.bit,tL p.right,vo][j]?=I u->w.cell? ⟨nb,j,G⟩=I u)(hx:a.eval x=J (I ⟨nb,0,G⟩) 1 1)(hl:(l.length+1)*40<=140737488355328)(hbase:base<=w.heap.size)(h:∀v' w',JK base w' v' (l++[p])->L w w' v.ownBlock->wpList M ops Q rest (a.put o.dst v') w'):wpList M ops Q (o::rest) a w:=wpList_plain hgd fun _ hK=>Rk s x ho base v l hs hown vo p hk nb hb hx hl hbase fun v' w' h1 h2=>hK _ _ (h v' w' h1 h2)
theorem Wl{w:F}{nb:Nat}{p:uB}{vo:H}{t:tX}(h:w.heap[nb]?=I (S #[Y tB p.bit,tL p.right,vo] t)):∀j u,[Y tB p.bit,tL p.right,vo][j]?=I u->w.cell? ⟨nb,j,G⟩=I u:=by
 intro j u hj;simp[tU,h];simpa using hj
def fY:H->Nat|J _ n _=>n|_=>0
def Po(t:tX):Prop:=t=90∨t=48∨t=188∨t=31∨t=3
def Lp(B:Nat)(w:F)(i:Nat):Prop:=i<B∨∀cs t fz,w.heap[i]?=I (S cs t fz)->(¬Po t∨∃q,cs[0]?=I (Y r8 q))
structure Kp (B : Nat) (w w' : F) : Prop where
  os : w'.os = w.os
  tape : w'.tape = w.tape
  output : w'.output = w.output
  size : w.heap.size <= w'.heap.size
  keep : ∀ i, i < w.heap.size -> Lp B w i -> w'.heap[i]? = w.heap[i]?
theorem Kp.refl(B:Nat)(w:F):Kp B w w:=⟨rfl,rfl,rfl,sA _,fun _ _ _=>rfl⟩
theorem Lp.same{B:Nat}{w w':F}{i:Nat}(h:Lp B w i)(e:w'.heap[i]?=w.heap[i]?):Lp B w' i:=by
 rcases h with h|h;·exact .inl h
 ·exact .inr fun cs t fz hc=>h cs t fz (by rw[<-e];exact hc)
theorem Kp.trans{B:Nat}{w w1 w2:F}(h:Kp B w w1)(k:Kp B w1 w2):Kp B w w2:=⟨k.os.trans h.os,k.tape.trans h.tape,k.output.trans h.output,tP h.size k.size,fun i hi hs=>by
 have e:=h.keep i hi hs;exact(k.keep i (tG hi h.size) (hs.same e)).trans e⟩
theorem Kp.grown{B:Nat}{w w':F}(h:L w w' G):Kp B w w':=⟨h.os,h.tape,h.output,h.size,fun i hi _=>h.block i hi (by
 simp)⟩
theorem Kp.turn{B:Nat}{w w':F}{g:Nat}{cs:Array H}{t:tX}{fz:Nat×Nat}(h:L w w' (I g))(hB:B<=g)(hb:w.heap[g]?=I (S cs t fz))(ht:Po t)(h0:∀q,cs[0]?≠I (Y r8 q)):Kp B w w':=⟨h.os,h.tape,h.output,h.size,fun i hi hs=>by
 refine h.block i hi fun e=>?_;cases e;rcases hs with hs|hs;·omega
 ·rcases hs cs t fz hb with h1|⟨q,h1⟩;(·exact h1 ht);·exact h0 q h1⟩
theorem Kp.low{B:Nat}{w w':F}(h:Kp B w w')(w0:F)(hg:L w0 w G)(hB:w0.heap.size<=B):L w0 w' G:=⟨h.os.trans hg.os,h.tape.trans hg.tape,h.output.trans hg.output,tP hg.size h.size,fun i hi hn=>(h.keep i (tG hi hg.size) (.inl (by
 omega))).trans (hg.block i hi hn)⟩
def VZ(t:tX):Prop:=t=5∨t=44∨t=64∨t=178∨t=198∨t=124
def zP(t:tX):Prop:=¬VZ t
theorem Po.two{t:tX}(h:Po t):zP t:=by
 rcases h with rfl|rfl|rfl|rfl|rfl<;>simp[zP,VZ]
def MJ(B:Nat)(w:F)(i:Nat):Prop:=i<B∨∀cs t fz,w.heap[i]?=I (S cs t fz)->(¬zP t∨∃q,cs[0]?=I (Y r8 q))
structure Bu (B : Nat) (w w' : F) : Prop where
  os : w'.os = w.os
  tape : w'.tape = w.tape
  output : w'.output = w.output
  size : w.heap.size <= w'.heap.size
  keep : ∀ i, i < w.heap.size -> MJ B w i -> w'.heap[i]? = w.heap[i]?
theorem Kp.two{B C:Nat}{w w':F}(h:Kp B w w')(hC:C<=B):Bu C w w':=⟨h.os,h.tape,h.output,h.size,fun i hi hs=>h.keep i hi (by
 rcases hs with hs|hs;·exact .inl (tG hs hC)
 ·exact .inr fun cs t fz hc=>(hs cs t fz hc).imp (fun h1 h2=>h1 h2.two) id)⟩
theorem Bu.refl(B:Nat)(w:F):Bu B w w:=⟨rfl,rfl,rfl,sA _,fun _ _ _=>rfl⟩
theorem MJ.same{B:Nat}{w w':F}{i:Nat}(h:MJ B w i)(e:w'.heap[i]?=w.heap[i]?):MJ B w' i:=by
 rcases h with h|h;·exact .inl h
 ·exact .inr fun cs t fz hc=>h cs t fz (by rw[<-e];exact hc)
theorem Bu.trans{B:Nat}{w w1 w2:F}(h:Bu B w w1)(k:Bu B w1 w2):Bu B w w2:=⟨k.os.trans h.os,k.tape.trans h.tape,k.output.trans h.output,tP h.size k.size,fun i hi hs=>by
 have e:=h.keep i hi hs;exact(k.keep i (tG hi h.size) (hs.same e)).trans e⟩
theorem Bu.grown{B:Nat}{w w':F}(h:L w w' G):Bu B w w':=⟨h.os,h.tape,h.output,h.size,fun i hi _=>h.block i hi (by
 simp)⟩
def LI(w:F)(i:Nat):Prop:=∀cs t fz,w.heap[i]?=I (S cs t fz)->(VZ t∨t=48∨∃q,cs[0]?=I (Y r8 q))
structure KL (w w' : F) : Prop where
  os : w'.os = w.os
  tape : w'.tape = w.tape
  output : w'.output = w.output
  size : w.heap.size <= w'.heap.size
  keep : ∀ i, i < w.heap.size -> LI w i -> w'.heap[i]? = w.heap[i]?
theorem KL.two{w w':F}(h:KL w w'):Bu 0 w w':=⟨h.os,h.tape,h.output,h.size,fun i hi hs=>h.keep i hi fun cs t fz hc=>by
 rcases hs with hs|hs;·omega
 ·rcases hs cs t fz hc with h1|h1;(·exact .inl (sQ h1));·exact .inr (.inr h1)⟩
theorem KL.refl(w:F):KL w w:=⟨rfl,rfl,rfl,sA _,fun _ _ _=>rfl⟩
theorem LI.same{w w':F}{i:Nat}(h:LI w i)(e:w'.heap[i]?=w.heap[i]?):LI w' i:=fun cs t fz hc=>h cs t fz (by
 rw[<-e];exact hc)
theorem KL.trans{w w1 w2:F}(h:KL w w1)(k:KL w1 w2):KL w w2:=⟨k.os.trans h.os,k.tape.trans h.tape,k.output.trans h.output,tP h.size k.size,fun i hi hs=>by
 have e:=h.keep i hi hs;exact(k.keep i (tG hi h.size) (hs.same e)).trans e⟩
theorem KL.grown{w w':F}(h:L w w' G):KL w w':=⟨h.os,h.tape,h.output,h.size,fun i hi _=>h.block i hi (by
 simp)⟩
theorem KL.turn{w w':F}{row:Option Nat}(h:L w w' row)(hr:∀g,row=I g->∃cs t fz,w.heap[g]?=I (S cs t fz)∧¬VZ t∧t≠48∧∀q,cs[0]?≠I (Y r8 q)):KL w w':=⟨h.os,h.tape,h.output,h.size,fun i hi hs=>by
 refine h.block i hi fun e=>?_;obtain⟨cs,t,fz,hb,h1,h2,h3⟩:=hr i e.symm;rcases hs cs t fz hb with h4|h4|⟨q,h4⟩;·exact h1 h4
 ·exact h2 h4
 ·exact h3 q h4⟩
def YA(w:F)(P:F->Prop):Prop:=∀w',KL w w'->P w'
theorem YA.now{w:F}{P:F->Prop}(h:YA w P):P w:=h w (KL.refl w)
theorem YA.later{w w':F}{P:F->Prop}(h:YA w P)(k:KL w w'):YA w' P:=fun w2 k2=>h w2 (k.trans k2)
theorem YA.grown{w w':F}{P:F->Prop}(h:YA w P)(k:L w w' G):YA w' P:=h.later (KL.grown k)
def Jn(w:F)(P:F->Prop):Prop:=∀w',L w w' G->P w'
theorem Jn.now{w:F}{P:F->Prop}(h:Jn w P):P w:=h w (Qb w G)
theorem Jn.grown{w w':F}{P:F->Prop}(h:Jn w P)(k:L w w' G):Jn w' P:=fun w2 k2=>h w2 (Qa k k2)
def Zb(B:Nat)(w:F)(P:F->Prop):Prop:=∀w',Bu B w w'->P w'
theorem Zb.now{B:Nat}{w:F}{P:F->Prop}(h:Zb B w P):P w:=h w (Bu.refl B w)
theorem Zb.later{B C:Nat}{w w':F}{P:F->Prop}(h:Zb C w P)(k:Kp B w w')(hC:C<=B:=by
 first|exact Nat.zero_le _|exact Nat.le_refl _):Zb C w' P:=fun w2 k2=>h w2 ((k.two hC).trans k2)
theorem Zb.later2{C:Nat}{w w':F}{P:F->Prop}(h:Zb C w P)(k:Bu C w w'):Zb C w' P:=fun w2 k2=>h w2 (k.trans k2)
theorem Zb.grown{C:Nat}{w w':F}{P:F->Prop}(h:Zb C w P)(k:L w w' G):Zb C w' P:=h.later2 (Bu.grown k)
theorem Zb.mono{B:Nat}{w:F}{P Q:F->Prop}(h:Zb B w P)(k:∀w',P w'->Q w'):Zb B w Q:=fun w' h'=>k w' (h w' h')
theorem Vq{w w':F}{v:H}{bs:List UInt8}(h:Qe w v bs)(hb:bs=[]∨∃b,v.ownBlock=I b∧w'.heap[b]?=w.heap[b]?):Qe w' v bs:=by
 obtain⟨a,cap,rfl,hc,h⟩:=h;refine⟨a,cap,rfl,hc,?_⟩;rcases h with h|⟨b,o,rfl,h⟩;·exact .inl h
 ·refine .inr ⟨b,o,rfl,fun i hi=>?_⟩;rcases hb with rfl|⟨b',e,hb⟩;(·simp at hi);·simp[pG]at e;subst e;rw[sI hb];exact h i hi
theorem iW:¬zP 5:=by
 simp[zP,VZ]
theorem ZS{B:Nat}{w:F}{v:H}{bs:List UInt8}(h:Qh 0 w v bs):Zb B w (fun w=>Qh 0 w v bs):=fun w' k=>by
 obtain⟨h1,h2⟩:=h;rcases h2 with h2|⟨b,e,hl,h2⟩;·exact⟨Vq h1 (.inl h2),.inl h2⟩
 ·(obtain⟨cur,fz,h2⟩:∃cur fz,w.heap[b]?=I (S cur 5 fz):=by rcases h2 with h2|h2;(·omega);·exact h2);have hs:w'.heap[b]?=w.heap[b]?:=k.keep b hl (.inr fun cs t f hc=>.inl (by rw[h2]at hc;simp only[tA,tW]at hc;rw[<-hc.2.1];exact iW));exact⟨Vq h1 (.inr ⟨b,e,hs⟩),.inr ⟨b,e,tG hl k.size,.inr ⟨cur,fz,by rw[hs];exact h2⟩⟩⟩
theorem Gt{B:Nat}{w:F}{v:H}{bs:List UInt8}(h:XS w v bs):Zb B w (fun w=>XS w v bs):=fun w' k=>by
 obtain⟨h1,h2⟩:=h;rcases h2 with h2|⟨b,e,hl,cur,t,fz,h2,h3⟩;·exact⟨Vq h1 (.inl h2),.inl h2⟩
 ·have hs:w'.heap[b]?=w.heap[b]?:=k.keep b hl (.inr fun cs t' f hc=>by rw[h2]at hc;simp only[tA,tW]at hc;obtain⟨rfl,rfl,_⟩:=hc;rcases h3 with rfl|h3;(·exact .inl iW);·exact .inr h3);exact⟨Vq h1 (.inr ⟨b,e,hs⟩),.inr ⟨b,e,tG hl k.size,cur,t,fz,by rw[hs];exact h2,h3⟩⟩
theorem US{B base:Nat}{w:F}{t:tX}{n m:Nat}{v:H}{xs:List H}(h:w.ownsRow base t n v m xs)(ht:¬zP t):Zb B w (fun w=>w.ownsRow base t n v m xs):=fun w' k=>by
 refine⟨h.1,?_⟩;rcases h.2with h|⟨g,cap,cur,e,hb,hg,rest⟩;·exact .inl h
 ·refine .inr ⟨g,cap,cur,e,hb,?_,rest⟩;rw[k.keep g (tI.1 hg).1 (.inr fun cs t' f hc=>.inl (by rw[hg]at hc;simp only[tA,tW]at hc;rw[<-hc.2.1];exact ht))];exact hg
theorem AQ{B rb:Nat}{w:F}{v:H}{l:List Rd}(h:ZI rb 0 w v l):Zb B w (fun w=>ZI rb 0 w v l):=fun w' k=>by
 obtain⟨us,h1,h2,h3⟩:=h;exact⟨us,h1,US h2 (by simp[zP,VZ]) w' k,fun x hx=>⟨ZS (h3 x hx).1 w' k,ZS (h3 x hx).2.1 w' k,ZS (h3 x hx).2.2 w' k⟩⟩
theorem Af{B rb:Nat}{w:F}{v:H}{l:List Ze}(h:QZ rb 0 w v l):Zb B w (fun w=>QZ rb 0 w v l):=fun w' k=>by
 obtain⟨us,h1,h2,h3⟩:=h;exact⟨us,h1,US h2 (by simp[zP,VZ]) w' k,fun x hx=>⟨ZS (h3 x hx).1 w' k,ZS (h3 x hx).2.1 w' k,ZS (h3 x hx).2.2 w' k⟩⟩
theorem Vt{B:Nat}{w:F}{v:H}{l:PL}(h:QN 0 w v l):Zb B w (fun w=>QN 0 w v l):=fun w' k=>by
 obtain⟨a,cap,rfl,hc,h⟩:=h;refine⟨a,cap,rfl,hc,?_⟩;rcases h with h|⟨b,o,rfl,hb,h⟩;·exact .inl h
 ·(obtain⟨cur,fz,hb⟩:∃cur fz,w.heap[b]?=I (S cur 44 fz):=by rcases hb with hb|hb;(·omega);·exact hb);have hs:w'.heap[b]?=w.heap[b]?:=k.keep b (tI.1 hb).1 (.inr fun cs t f hc=>.inl (by rw[hb]at hc;simp only[tA,tW]at hc;rw[<-hc.2.1];simp[zP,VZ]));refine .inr ⟨b,o,rfl,.inr ⟨cur,fz,by rw[hs];exact hb⟩,fun i hi=>?_⟩;obtain⟨vk,vv,c1,c2,h1,h2⟩:=h i hi;exact⟨vk,vv,by rw[sI hs];exact c1,by rw[sI hs];exact c2,ZS h1 w' k,ZS h2 w' k⟩
theorem An{B rb:Nat}{w:F}{v:H}{l:FL}(h:Zz rb w v l):Zb B w (fun w=>Zz rb w v l):=fun w' k=>by
 obtain⟨vs,h1,h2,h3⟩:=h;exact⟨vs,h1,US h2 (by simp[zP,VZ]) w' k,fun i hi=>⟨ZS (h3 i hi).1 w' k,Vt (h3 i hi).2 w' k⟩⟩
theorem Ee{B:Nat}{w:F}{v:H}{l:List Ze}(h:Xk 0 w v l):Zb B w (fun w=>Xk 0 w v l):=fun w' k=>by
 obtain⟨a,cap,rfl,hc,h⟩:=h;refine⟨a,cap,rfl,hc,?_⟩;rcases h with h|⟨b,o,rfl,hb,h⟩;·exact .inl h
 ·(obtain⟨cur,fz,hb⟩:∃cur fz,w.heap[b]?=I (S cur 178 fz):=by rcases hb with hb|hb;(·omega);·exact hb);have hs:w'.heap[b]?=w.heap[b]?:=k.keep b (tI.1 hb).1 (.inr fun cs t f hc=>.inl (by rw[hb]at hc;simp only[tA,tW]at hc;rw[<-hc.2.1];simp[zP,VZ]));refine .inr ⟨b,o,rfl,.inr ⟨cur,fz,by rw[hs];exact hb⟩,fun i hi=>?_⟩;obtain⟨vn,vk,vv,c1,c2,c3,c4,h1,h2,h3⟩:=h i hi;exact⟨vn,vk,vv,by rw[sI hs];exact c1,by rw[sI hs];exact c2,by rw[sI hs];exact c3,by rw[sI hs];exact c4,ZS h1 w' k,ZS h2 w' k,ZS h3 w' k⟩
theorem Pq{B:Nat}{w:F}{v:H}{t:Tx}(h:GO w v t):Zb B w (fun w=>GO w v t):=fun w' k=>by
 obtain⟨vr,vw,rfl,h1,h2⟩:=h;exact⟨vr,vw,rfl,AQ h1 w' k,Af h2 w' k⟩
theorem Ss{B base:Nat}{w:F}{v:H}{l:List uB}(h:JK base w v l):Zb B w (fun w=>JK base w v l):=fun w' k=>by
 obtain⟨us,h1,h2,h3,h4⟩:=h;exact⟨us,h1,US h2 (by simp[zP,VZ]) w' k,fun x hx=>Gt (h3 x hx) w' k,h4⟩
theorem yD{B n:Nat}{w:F}{v:H}{p:D4}(h:Zy n w v p):Zb B w (fun w=>KJ w v p):=fun w' k=>by
 obtain⟨base,vs,vk,vv,rfl,_,_,h1,h2,h3⟩:=h;exact⟨vs,vk,vv,rfl,(Ss h1 w' k).list,(Gt h2 w' k).1,(Gt h3 w' k).1⟩
section
section
variable{α:Type}{T:tX}{k:Nat}{P:F->List H->α->Prop}{B:Nat}{w w':F}{v:H}{l:List α}
def JB(T:tX)(k:Nat)(P:F->List H->α->Prop)(B:Nat)(w:F)(v:H)(l:List α):Prop:=∃us:List (List H×α),us.map (·.2)=l∧w.ownsRow B T k v l.length (us.flatMap (·.1))∧(l=[]->v=J G 0 0)∧∀x∈us,x.1.length=k∧(∀u∈x.1,u.oneCell'=N)∧(∀q,x.1[0]?≠I (Y r8 q))∧Zb 0 w (fun w=>P w x.1 x.2)
theorem vR(T:tX)(k:Nat)(P:F->List H->α->Prop)(B:Nat)(w:F):JB T k P B w (J G 0 0) []:=⟨[],rfl,sJ _ _ _ _,fun _=>rfl,fun x hx=>by
 simp at hx⟩
theorem JB.kept(h:JB T k P B w v l)(hk:Kp B w w')(hs:∀g,v.ownBlock=I g->w'.heap[g]?=w.heap[g]?):JB T k P B w' v l:=by
 obtain⟨us,h1,h2,h3,h4⟩:=h;refine⟨us,h1,⟨h2.1,?_⟩,h3,fun x hx=>⟨(h4 x hx).1,(h4 x hx).2.1,(h4 x hx).2.2.1,(h4 x hx).2.2.2.later hk⟩⟩;rcases h2.2with h|⟨g,cap,cur,rfl,hb,hg,rest⟩;·exact .inl h
 ·exact .inr ⟨g,cap,cur,rfl,hb,by rw[hs g rfl];exact hg,rest⟩
theorem JB.kept2(h:JB T k P B w v l)(hk:Bu 0 w w')(hs:∀g,v.ownBlock=I g->w'.heap[g]?=w.heap[g]?):JB T k P B w' v l:=by
 obtain⟨us,h1,h2,h3,h4⟩:=h;refine⟨us,h1,⟨h2.1,?_⟩,h3,fun x hx=>⟨(h4 x hx).1,(h4 x hx).2.1,(h4 x hx).2.2.1,(h4 x hx).2.2.2.later2 hk⟩⟩;rcases h2.2with h|⟨g,cap,cur,rfl,hb,hg,rest⟩;·exact .inl h
 ·exact .inr ⟨g,cap,cur,rfl,hb,by rw[hs g rfl];exact hg,rest⟩
theorem JB.lt(h:JB T k P B w v l):∀g,v.ownBlock=I g->B<=g∧g<w.heap.size:=by
 obtain⟨us,h1,h2,h3,h4⟩:=h;exact sF h2
theorem JB.grown(h:JB T k P B w v l)(hg:L w w' G):JB T k P B w' v l:=h.kept (Kp.grown hg) fun g e=>hg.block g (h.lt g e).2 (by
 simp)
theorem JB.shape(h:JB T k P B w v l):∃a cap,v=J a l.length cap:=by
 obtain⟨us,_,h,_⟩:=h;rcases h.2with⟨rfl,h0⟩|⟨g,cap,cur,rfl,_⟩;·exact⟨G,0,by rw[h0]⟩
 ·exact⟨_,cap,rfl⟩
theorem LD{k:Nat}:∀(us:List (List H×α))(_:∀x∈us,x.1.length=k)(i:Nat)(hi:i<us.length)(j:Nat),j<k->(us.flatMap (·.1))[i*k+j]?=us[i].1[j]?|[],_,i,hi,_,_=>by simp at hi|x::us,hk,0,_,j,hj=>by have:=hk x (by simp);simp[pI (show j<x.1.length by omega)]|x::us,hk,i+1,hi,j,hj=>by have hx:=hk x (by simp);have:=LD us (fun y hy=>hk y (by simp[hy])) i (by simpa using hi) j hj;rw[tN,List.getElem?_append_right (by rw[hx,rY];omega),hx,show(i+1)*k+j-k=i*k+j by rw[rY];omega,this];simp
theorem JB.blk(hk0:0<k)(h:JB T k P B w v l):v.ownBlock=G∨∃g cs,v.ownBlock=I g∧B<=g∧w.heap[g]?=I (S cs T (0,0))∧∀q,cs[0]?≠I (Y r8 q):=by
 obtain⟨us,h1,h2,h3,h4⟩:=h;rcases h2.2with⟨rfl,_⟩|⟨g,cap,cur,rfl,hb,hg,hn,_,hcs,ht⟩;·exact .inl rfl
 ·refine .inr ⟨g,cur,rfl,hb,hg,fun q hq=>?_⟩;cases us with|nil=>subst h1;have:=h3 rfl;cases this|cons x us=>(have hl:l.length=us.length+1:=by rw[<-h1];simp);(have e:(cur.toList.take (l.length*k))[0]?=((x::us).flatMap (·.1))[0]?:=by rw[ht]);have hx:=(h4 x (by simp)).1;rw[sB,if_pos (by rw[hl,rY];omega),tN,pI (by omega),r7,hq]at e;exact(h4 x (by simp)).2.2.1 q e.symm
theorem JB.turn(hk0:0<k)(hT:Po T)(h:JB T k P B w v l)(hg:L w w' v.ownBlock):Kp B w w':=by
 rcases h.blk hk0 with e|⟨g,cs,e,hb,hc,h0⟩;·rw[e]at hg;exact Kp.grown hg
 ·rw[e]at hg;exact Kp.turn hg hb hc hT h0
theorem JB.other(hk0:0<k)(h:JB T k P B w v l){row:Option Nat}(hk:Kp B w w')(hg:L w w' row)(hr:row=G∨∃g cs t fz,row=I g∧w.heap[g]?=I (S cs t fz)∧t≠T):JB T k P B w' v l:=by
 refine h.kept hk fun g e=>?_;refine hg.block g (h.lt g e).2 fun e2=>?_;rcases hr with rfl|⟨g',cs,t,fz,rfl,hc,ht⟩;·cases e2
 ·cases e2;rcases h.blk hk0 with e3|⟨g2,cs2,e3,_,hc2,_⟩;(·rw[e3]at e;cases e);·rw[e3]at e;cases e;rw[hc]at hc2;simp only[tA,tW]at hc2;exact ht hc2.2.1
theorem JB.at(h:JB T k P B w v l)(d:α)(i:Nat)(hi:i<l.length):∃g cap cs,v=J (I ⟨g,0,G⟩) l.length cap∧cs.length=k∧l.length<=cap∧(∀j,j<k->w.cell? ⟨g,i*k+j,G⟩=cs[j]?)∧Zb 0 w (fun w=>P w cs (l.getD i d)):=by
 obtain⟨us,h1,h2,h3,h4⟩:=h;have hul:us.length=l.length:=by rw[<-h1];simp
 rcases h2.2with⟨rfl,h0⟩|⟨g,cap,cur,rfl,hb,hg,hn,_,hcs,ht⟩;·omega
 ·have hx:=h4 us[i] (sN (by omega));refine⟨g,cap,us[i].1,rfl,hx.1,hn,fun j hj=>?_,?_⟩;(·(have e:(cur.toList.take (l.length*k))[i*k+j]?=(us.flatMap (·.1))[i*k+j]?:=by rw[ht]);(have hlt:i*k+j<l.length*k:=by have:(i+1)*k<=l.length*k:=pB k hi;rw[rY]at this;omega);rw[LD us (fun x hx=>(h4 x hx).1) i (by omega) j hj,sB,if_pos hlt,r7]at e;simp[tU,hg,e]);·(have e:l.getD i d=us[i].2:=by subst h1;simp[List.getD,show i<us.length by omega]);rw[e];exact hx.2.2.2
theorem yC{o:rF}{a:Act}{K:Act->F->Prop}{Q:Exit->Act->F->Prop}(s x:rC)(t:tX)(ho:o.op=.call {callee:=.builtin .append,args:=#[s,x],argTypes:=#[t,t]})(i:TypeInfo)(z:H)(bytes:Nat)(ht:M.underlying t=I (.slice T))(hi:M.info? T=I i)(hz:i.zero=I z)(hsize:i.size=k)(hby:i.bytes=bytes)(hzs:z.cells.size=k)(hsz:0<k)(hT:Po T)(hs:a.eval s=v)(hown:JB T k P B w v l)(nb:Nat)(cs:List H)(y:α)(hx:a.eval x=J (I ⟨nb,0,G⟩) 1 1)(hcl:cs.length=k)(hc:∀j u,cs[j]?=I u->w.cell? ⟨nb,j,G⟩=I u)(h1:∀u∈cs,u.oneCell'=N)(h0:∀q,cs[0]?≠I (Y r8 q))(hP:Zb 0 w (fun w=>P w cs y))(h63:l.length+1<=pF)(hbytes:(l.length+1)*bytes<=140737488355328)(hbase:B<=w.heap.size)(h:∀v' w',JB T k P B w' v' (l++[y])->Kp B w w'->L w w' v.ownBlock->K (a.put o.dst v') w'):o.wp M a w K Q:=by
 have hown0:=hown;obtain⟨us,e1,h2,h3,h4⟩:=hown;refine wp_append_lies w s x t ho B T i z k bytes ht hi hz hsize hby hzs hsz v l.length (us.flatMap (·.1)) hs h2 ⟨nb,0,G⟩ 1 1 cs hx (by omega) (fun j u hj=>by rw[Z4,sL];exact hc j u hj) h1 (by omega) h63 hbytes hbase _ rfl ?_;intro g cap w' hr hg hgg hlt;have hk:=hown0.turn hsz hT hg;refine h _ w' ⟨us++[(cs,y)],by simp[e1],?_,fun e=>by simp at e,fun x hx=>?_⟩ hk hg;·simpa[List.flatMap_append]using hr
 ·rcases tY.1 hx with hx|hx;(·exact⟨(h4 x hx).1,(h4 x hx).2.1,(h4 x hx).2.2.1,(h4 x hx).2.2.2.later hk⟩);·(obtain rfl:x=(cs,y):=by simpa using hx);exact⟨hcl,h1,h0,hP.later hk⟩
theorem JB.take(h:JB T k P B w v l){a:Option rB}{n cap:Nat}(hv:v=J a n cap)(m:Nat)(hm:m<=l.length)(h0:0<m):JB T k P B w (J a m cap) (l.take m):=by
 subst hv;obtain⟨us,h1,h2,h3,h4⟩:=h;have hul:us.length=l.length:=by rw[<-h1];simp
 have hlm:(l.take m).length=m:=by simp;omega
 rcases h2.2with⟨e,h0'⟩|⟨g,cp,cur,e,hb,hg,hn,hmx,hcs,ht⟩;·omega
 ·simp only[tH]at e;obtain⟨rfl,rfl,rfl⟩:=e;(have hfl:(us.take m).flatMap (·.1)=(us.flatMap (·.1)).take (m*k):=by(have hk:∀(vs:List (List H×α)),(∀x∈vs,x.1.length=k)->∀m,(vs.take m).flatMap (·.1)=(vs.flatMap (·.1)).take (m*k):=by intro vs;induction vs with|nil=>intro _ m;simp|cons x vs ih=>intro hx m;cases m with|zero=>simp|succ m=>have:=hx x (by simp);rw[rD,tN,tN,ih (fun y hy=>hx y (by simp[hy])) m,List.take_append,this,rY,show m*k+k-k=m*k by omega,List.take_of_length_le (l:=x.1) (by omega)]);exact hk us (fun x hx=>(h4 x hx).1) m);refine⟨us.take m,by rw[<-h1,List.map_take],⟨?_,.inr ⟨g,cap,cur,by rw[hlm],hb,hg,by omega,hmx,hcs,?_⟩⟩,fun e=>?_,fun x hx=>h4 x (List.mem_of_mem_take hx)⟩;(·rw[hfl,rX,h2.1,hlm];have:m*k<=l.length*k:=pB k hm;omega);(·rw[hlm,hfl,<-ht,pX];have:m*k<=l.length*k:=pB k hm;rw[pY this]);·rw[e]at hlm;simp at hlm;omega
end
end
theorem Fm:(188:Nat)≠5:=by
 decide
theorem jP:(188:Nat)≠178:=by
 decide
def D7(w:F)(b o:Nat)(c:XA):Prop:=∃vs,w.cell? ⟨b,o,G⟩=I (Y tB c.turn)∧w.cell? ⟨b,o+1,G⟩=I vs∧QQ w vs c.writes
theorem D7.grown{w w':F}{b o:Nat}{c:XA}(h:D7 w b o c)(hg:L w w' G):D7 w' b o c:=by
 obtain⟨vs,c1,c2,h⟩:=h;exact⟨vs,hg.cell c1 (by simp),hg.cell c2 (by simp),h.grown hg⟩
def Ja(w:F)(v:H)(l:List XA):Prop:=∃a cap,v=J a l.length cap∧l.length<=cap∧((l=[]∧(a=G->cap=0))∨∃b o,a=I ⟨b,o,G⟩∧∀i,i<l.length->D7 w b (o+i*2) (l.getD i Zl))
theorem Eo(w:F):Ja w (J G 0 0) []:=⟨G,0,rfl,sA _,.inl ⟨rfl,fun _=>rfl⟩⟩
theorem Ja.shape{w:F}{v:H}{l:List XA}(h:Ja w v l):∃a cap,v=J a l.length cap:=by
 obtain⟨a,cap,rfl,_⟩:=h;exact⟨a,cap,rfl⟩
theorem Ja.grown{w w':F}{v:H}{l:List XA}(h:Ja w v l)(hg:L w w' G):Ja w' v l:=by
 obtain⟨a,cap,rfl,hc,h⟩:=h;refine⟨a,cap,rfl,hc,?_⟩;rcases h with h|⟨b,o,rfl,h⟩;·exact .inl h
 ·exact .inr ⟨b,o,rfl,fun i hi=>(h i hi).grown hg⟩
theorem Ja.at{w:F}{a:Option rB}{n cap:Nat}{l:List XA}(h:Ja w (J a n cap) l)(i:Nat)(hi:i<l.length):∃b o,a=I ⟨b,o,G⟩∧D7 w b (o+i*2) (l.getD i Zl):=by
 obtain⟨a',cap',e,hc,h⟩:=h;simp only[tH]at e;obtain⟨rfl,rfl,rfl⟩:=e;rcases h with⟨rfl,_⟩|⟨b,o,rfl,h⟩;·simp at hi
 ·exact⟨b,o,rfl,h i hi⟩
structure Ag (l : List XA) : Prop where
  many : l.length * 32 <= 140737488355328
  each : ∀ i, i < l.length -> Nt (l.getD i Zl)
abbrev CV:=XA×H
def jZ(us:List CV):List H:=us.flatMap fun x=>[Y tB x.1.turn,x.2]
theorem Mb(a b:List CV):jZ (a++b)=jZ a++jZ b:=by
 simp[jZ]
theorem eR:(M.info? 188).map (fun i=>(i.zero,i.size,i.bytes))=I (I (sO #[Y tB 0,J G 0 0]),2,32):=by
 kernel_rfl
def Y6(base:Nat)(w:F)(v:H)(l:List XA):Prop:=∃us:List CV,us.map (·.1)=l∧w.ownsRow base 188 2 v l.length (jZ us)∧(l=[]->v=J G 0 0)∧∀x∈us,Xk 0 w x.2 x.1.writes
theorem Ca(base:Nat)(w:F):Y6 base w (J G 0 0) []:=⟨[],rfl,sJ _ _ _ _,fun _=>rfl,fun x hx=>by
 simp at hx⟩
theorem Y6.row{base:Nat}{w:F}{v:H}{l:List XA}(h:Y6 base w v l):v.ownBlock=G∨∃g cur t fz,v.ownBlock=I g∧base<=g∧w.heap[g]?=I (S cur t fz)∧t≠5∧t≠178:=by
 obtain⟨us,_,h,_⟩:=h;rcases h.2with⟨rfl,_⟩|⟨g,cap,cur,rfl,hb,hg,_⟩;·exact .inl rfl
 ·exact .inr ⟨g,cur,_,_,rfl,hb,hg,Fm,jP⟩
theorem Y6.row0{base:Nat}{w:F}{v:H}{l:List XA}(h:Y6 base w v l):v.ownBlock=G∨∃g cur t fz,v.ownBlock=I g∧0<=g∧w.heap[g]?=I (S cur t fz)∧t≠5∧t≠178:=by
 rcases h.row with h|⟨g,cur,t,fz,h1,_,h2⟩;·exact .inl h
 ·exact .inr ⟨g,cur,t,fz,h1,tQ _,h2⟩
theorem Y6.lt{base:Nat}{w:F}{v:H}{l:List XA}(h:Y6 base w v l):∀k,v.ownBlock=I k->base<=k∧k<w.heap.size:=by
 obtain⟨us,_,h,_⟩:=h;exact sF h
theorem Y6.grownNone{base:Nat}{w w':F}{v:H}{l:List XA}(h:Y6 base w v l)(hg:L w w' G):Y6 base w' v l:=by
 obtain⟨us,h1,h2,h0,h3⟩:=h;refine⟨us,h1,tS h2 hg ?_,h0,fun x hx=>(h3 x hx).kept hg (.inl rfl)⟩;cases hv:v.ownBlock with|none=>exact .inl rfl|some k=>exact .inr (by simp)
theorem Y6.shape{base:Nat}{w:F}{v:H}{l:List XA}(h:Y6 base w v l):∃a cap,v=J a l.length cap:=by
 obtain⟨us,_,h,_⟩:=h;rcases h.2with⟨rfl,h0⟩|⟨g,cap,cur,rfl,_⟩;·exact⟨G,0,by rw[h0]⟩
 ·exact⟨_,cap,rfl⟩
theorem Ax{base:Nat}{w W w1:F}{v:H}{l:List XA}(h:L w W G)(ho:Y6 base W v l)(hb:w.heap.size<=base)(hg:L W w1 v.ownBlock):L w w1 G:=⟨hg.os.trans h.os,hg.tape.trans h.tape,hg.output.trans h.output,tP h.size hg.size,fun i hi hn=>(hg.block i (tG hi h.size) (fun e=>by
 have:=(ho.lt i e.symm).1;omega)).trans (h.block i hi hn)⟩
theorem RK{w:F}{o:rF}{a:Act}{K:Act->F->Prop}{Q:Exit->Act->F->Prop}(s x:rC)(ho:o.op=.call {callee:=.builtin .append,args:=#[s,x],argTypes:=#[81,81]})(base:Nat)(v:H)(l:List XA)(hs:a.eval s=v)(hown:Y6 base w v l)(vw:H)(c:XA)(hw:Xk 0 w vw c.writes)(nb:Nat)(hb:w.heap[nb]?=I (S #[Y tB c.turn,vw] 188))(hx:a.eval x=J (I ⟨nb,0,G⟩) 1 1)(hl:(l.length+1)*32<=140737488355328)(hbase:base<=w.heap.size)(h:∀v' w',Y6 base w' v' (l++[c])->L w w' v.ownBlock->K (a.put o.dst v') w'):o.wp M a w K Q:=by
 obtain⟨i0,hi,hz0,hz1,hz2⟩:=rV eR;have hrow:=hown.row0;obtain⟨us,hul,hr,_,hp⟩:=hown;refine wp_append_lies w s x 81 ho base 188 i0 (sO #[Y tB 0,J G 0 0]) 2 32 Tryz.underlying81 hi hz0 hz1 hz2 rfl (by decide) v l.length (jZ us) hs hr ⟨nb,0,G⟩ 1 1 (jZ [(c,vw)]) hx rfl (sY (cs:=#[Y tB c.turn,vw]) hb) ?_ (by omega) (by unfold pF;omega) hl hbase _ rfl ?_;·intro u hu;simp only[jZ,tN,rA,rG,tK,tM,or_false]at hu;rcases hu with rfl|rfl;(·rfl);·exact hw.oneCell
 ·intro g cap w' q1 q2 _ _;refine h _ w' ⟨us++[(c,vw)],by simp[hul],?_,fun e=>by simp at e,?_⟩ q2;(·rw[Mb,tC];exact q1);·intro y hy;rcases tY.1 hy with hy|hy;(·exact(hp y hy).kept q2 hrow);·simp only[tK,tM,or_false]at hy;subst hy;exact hw.kept q2 hrow
theorem kM{w:F}{ops:Array rF}{rest:List rF}{o:rF}{a:Act}{Q:Exit->Act->F->Prop}(hgd:o.guard=G)(s x:rC)(ho:o.op=.call {callee:=.builtin .append,args:=#[s,x],argTypes:=#[81,81]})(base:Nat)(v:H)(l:List XA)(hs:a.eval s=v)(hown:Y6 base w v l)(vw:H)(c:XA)(hw:Xk 0 w vw c.writes)(nb:Nat)(hb:w.heap[nb]?=I (S #[Y tB c.turn,vw] 188))(hx:a.eval x=J (I ⟨nb,0,G⟩) 1 1)(hl:(l.length+1)*32<=140737488355328)(hbase:base<=w.heap.size)(h:∀v' w',Y6 base w' v' (l++[c])->L w w' v.ownBlock->wpList M ops Q rest (a.put o.dst v') w'):wpList M ops Q (o::rest) a w:=wpList_plain hgd fun _ hK=>RK s x ho base v l hs hown vw c hw nb hb hx hl hbase fun v' w' h1 h2=>hK _ _ (h v' w' h1 h2)
theorem Y6.ne{base:Nat}{w:F}{v:H}{l:List XA}(h:Y6 base w v l){b:Nat}{cs:Array H}{t:tX}{fz:Nat×Nat}(hb:w.heap[b]?=I (S cs t fz))(ht:t≠188):v.ownBlock≠I b:=by
 intro e;obtain⟨us,_,h,_⟩:=h;rcases h.2with⟨rfl,_⟩|⟨g,cap,cur,rfl,_,hg,_⟩;·cases e
 ·cases e;rw[hb]at hg;simp only[tA,tW]at hg;exact ht hg.2.1
theorem Y6.setOther{base:Nat}{w:F}{v:H}{l:List XA}(h:Y6 base w v l){b i:Nat}{cs:Array H}{t:tX}{fz:Nat×Nat}(hb:w.heap[b]?=I (S cs t fz))(ht:t≠5)(ht2:t≠178)(ht3:t≠188)(u:H):Y6 base (tE w ⟨b,i,G⟩ u) v l:=by
 have hne:=h.ne hb ht3;obtain⟨us,h1,h2,h0,h3⟩:=h;exact⟨us,h1,tS h2 (YF w b i u) (.inr hne),h0,fun x hx=>(h3 x hx).kept (YF w b i u) (.inr ⟨b,cs,t,fz,rfl,tQ _,hb,ht,ht2⟩)⟩
theorem Y6.other{base:Nat}{w w':F}{v:H}{l:List XA}(h:Y6 base w v l)(hg:L w w' v.ownBlock){b:Nat}{cs:Array H}{t:tX}{fz:Nat×Nat}(hb:w.heap[b]?=I (S cs t fz))(ht:t≠188):w'.heap[b]?=I (S cs t fz):=by
 rw[hg.block b (tI.1 hb).1 (fun e=>h.ne hb ht e.symm)];exact hb
def Ii:Prop:=∀(w:F)(v u:H)(t:Tx)(r:Rd),GW w v t->xI t->Yk w u r->P5 r->sV M 107 #[v,u] w fun e w'=>∃x,e=tD (sE #[x,Y tB (Xi t r)])∧GO w' x (XZ t r)∧L w w' G
theorem Qf(w:F)(o:Obj):∃W:F,Hid (W=w.alloc o)∧L w W G∧Hid (W.heap[w.heap.size]?=I o):=⟨w.alloc o,rfl,sK _ _ _,oE w o⟩
theorem ZU{x y:Int}(h:x=y):tD (Y tB y)=tD (Y tB x):=by
 rw[h]
theorem YJ{x y:Bool}(h:x=y):tD (tL y)=tD (tL x):=by
 rw[h]
theorem Xx{W w:F}{b:Nat}{x y z:H}{t:tX}(hg:L W w G)(h:W.heap[b]?=I (S #[x,y,z] t)):w.cell? ⟨b,0,G⟩=I x∧w.cell? ⟨b,1,G⟩=I y∧w.cell? ⟨b,2,G⟩=I z:=by
 have hb:w.heap[b]?=I (S #[x,y,z] t):=by rw[hg.block b (tI.1 h).1 (by simp)];exact h
 refine⟨?_,?_,?_⟩<;>simp[tU,hb]
def Mn(p:List Rd)(r:Rd):Int:=if Xz r=0then(if p.any (fun q=>XC q r)=N then 3 else 0)else Xz r
def M3(p:List Ze)(w:Ze):Int:=if QC w=0then(if p.any (fun q=>ZK q w)=N then 3 else 0)else QC w
theorem bH(l:List Rd)(m:Nat)(h:m<l.length):GU (l.take m) (l.drop m)=if Mn (l.take m) (l.getD m Zd)=0then GU (l.take (m+1)) (l.drop (m+1))else Mn (l.take m) (l.getD m Zd):=by
 rw[sS h,GU,sX h,show l[m]=l.getD m Zd by simp[h]];unfold Mn;by_cases h1:Xz (l.getD m Zd)=0;·rw[if_pos h1,if_pos h1];by_cases h2:(l.take m).any (fun q=>XC q (l.getD m Zd))=N;(·rw[if_pos h2,if_pos h2,if_neg (by omega)]);·rw[if_neg h2,if_neg h2,if_pos rfl]
 ·rw[if_neg h1,if_neg h1,if_neg h1]
theorem bV(l:List Ze)(m:Nat)(h:m<l.length):xS (l.take m) (l.drop m)=if M3 (l.take m) (l.getD m Qr)=0then xS (l.take (m+1)) (l.drop (m+1))else M3 (l.take m) (l.getD m Qr):=by
 rw[sS h,xS,sX h,show l[m]=l.getD m Qr by simp[h]];unfold M3;by_cases h1:QC (l.getD m Qr)=0;·rw[if_pos h1,if_pos h1];by_cases h2:(l.take m).any (fun q=>ZK q (l.getD m Qr))=N;(·rw[if_pos h2,if_pos h2,if_neg (by omega)]);·rw[if_neg h2,if_neg h2,if_pos rfl]
 ·rw[if_neg h1,if_neg h1,if_neg h1]
theorem P0{α:Type}(d:α)(f:α->Bool)(l:List α)(k:Nat)(h:k<l.length):(l.take (k+1)).any f=((l.take k).any f||f (l.getD k d)):=by
 rw[sX h,List.any_append,show l[k]=l.getD k d by simp[h]];simp
theorem EH{α:Type}(d:α)(f:α->Bool)(l:List α)(k m:Nat)(hk:k<m)(hm:m<=l.length)(h:f (l.getD k d)=N):(l.take m).any f=N:=by
 rw[sZ];refine⟨l.getD k d,?_,h⟩;rw[show l.getD k d=(l.take m)[k]'(by rw[rX];omega)by rw[List.getElem_take];simp[show k<l.length by omega]];exact sN _
theorem zV{w:F}{a:Option rB}{n cap:Nat}{l:List Rd}(h:Z7 w (J a n cap) l)(i:Nat)(hi:i<l.length):∃b o,a=I ⟨b,o,G⟩∧∃u1 u2 u3 u4 u5 u6,(w.cell? ⟨b,o+i*4,G⟩=I (J u1 (l.getD i Zd).name.length u2)∧w.cell? ⟨b,o+i*4+1,G⟩=I (J u3 (l.getD i Zd).key.length u4)∧w.cell? ⟨b,o+i*4+2,G⟩=I (tL (l.getD i Zd).wide)∧w.cell? ⟨b,o+i*4+3,G⟩=I (J u5 (l.getD i Zd).last.length u6))∧Yk w (sO #[J u1 (l.getD i Zd).name.length u2,J u3 (l.getD i Zd).key.length u4,tL (l.getD i Zd).wide,J u5 (l.getD i Zd).last.length u6]) (l.getD i Zd):=by
 obtain⟨b,o,rfl,hat⟩:=h.at i hi;obtain⟨vn,vk,vl,c1,c2,c3,c4,s1,s2,s3⟩:=hat;obtain⟨u1,u2,rfl⟩:=s1.shape;obtain⟨u3,u4,rfl⟩:=s2.shape;obtain⟨u5,u6,rfl⟩:=s3.shape;exact⟨b,o,rfl,u1,u2,u3,u4,u5,u6,⟨c1,c2,c3,c4⟩,⟨_,_,_,rfl,s1,s2,s3⟩⟩
theorem X6{w:F}{a:Option rB}{n cap:Nat}{l:List Ze}(h:QQ w (J a n cap) l)(i:Nat)(hi:i<l.length):∃b o,a=I ⟨b,o,G⟩∧∃u1 u2 u3 u4 u5 u6,(w.cell? ⟨b,o+i*4,G⟩=I (J u1 (l.getD i Qr).name.length u2)∧w.cell? ⟨b,o+i*4+1,G⟩=I (J u3 (l.getD i Qr).key.length u4)∧w.cell? ⟨b,o+i*4+2,G⟩=I (tL (l.getD i Qr).gone)∧w.cell? ⟨b,o+i*4+3,G⟩=I (J u5 (l.getD i Qr).value.length u6))∧Z8 w (sO #[J u1 (l.getD i Qr).name.length u2,J u3 (l.getD i Qr).key.length u4,tL (l.getD i Qr).gone,J u5 (l.getD i Qr).value.length u6]) (l.getD i Qr):=by
 obtain⟨b,o,rfl,hat⟩:=h.at i hi;obtain⟨vn,vk,vl,c1,c2,c3,c4,s1,s2,s3⟩:=hat;obtain⟨u1,u2,rfl⟩:=s1.shape;obtain⟨u3,u4,rfl⟩:=s2.shape;obtain⟨u5,u6,rfl⟩:=s3.shape;exact⟨b,o,rfl,u1,u2,u3,u4,u5,u6,⟨c1,c2,c3,c4⟩,⟨_,_,_,rfl,s1,s2,s3⟩⟩
theorem R9{x y:Bool}{a b:Int}(h:x=y)(k:a=b):tD (sE #[tL y,Y tB b])=tD (sE #[tL x,Y tB a]):=by
 rw[h,k]
theorem Ow{α:Type}(f:α->Bool)(l:List α)(d:α)(i:Nat)(hi:i<l.length)(h:f (l.getD i d)=N):l.any f=N:=by
 have:=EH d f l i l.length hi (sA _) h;rw[sC]at this;exact this
theorem zC:(85:Nat)≠5:=by
 decide
theorem kA:(85:Nat)≠198:=by
 decide
theorem G2:(85:Nat)≠178:=by
 decide
theorem ZI.block{rb pb:Nat}{W w':F}{v:H}{l:List Rd}(ho:ZI rb pb W v l)(hg:L W w' v.ownBlock){b:Nat}{cs:Array H}{t:tX}{fz:Nat×Nat}(h:W.heap[b]?=I (S cs t fz))(ht:t≠198):w'.heap[b]?=I (S cs t fz):=by
 rw[hg.block b (tI.1 h).1 (fun e=>ho.ne h ht e.symm)];exact h
theorem QZ.block{rb pb:Nat}{W w':F}{v:H}{l:List Ze}(ho:QZ rb pb W v l)(hg:L W w' v.ownBlock){b:Nat}{cs:Array H}{t:tX}{fz:Nat×Nat}(h:W.heap[b]?=I (S cs t fz))(ht:t≠178):w'.heap[b]?=I (S cs t fz):=by
 rw[hg.block b (tI.1 h).1 (fun e=>ho.ne h ht e.symm)];exact h
theorem ZI.keptV{rb rb':Nat}{W w':F}{v u:H}{l:List Rd}{k:List Ze}(hR:ZI rb 0 W v l)(hV:QZ rb' 0 W u k)(hg:L W w' u.ownBlock):ZI rb 0 w' v l:=by
 refine hR.kept hg ?_ ?_;·rcases hR.row with h|⟨g,cur,fz,e,_,h⟩;(·exact .inl h);·refine .inr ?_;rw[e];exact fun e2=>hV.ne h (fun e=>iS e) e2.symm
 ·rcases hV.row with h|⟨g,cur,fz,e,_,h⟩;(·exact .inl h);·exact .inr ⟨g,cur,_,fz,e,tQ _,h,uD⟩
theorem QI{w:F}{b:Nat}{x y z:H}{t:tX}(h:w.heap[b]?=I (S #[x,y,z] t)):(w.cell? ⟨b,0,G⟩=I x∧w.cell? ⟨b,1,G⟩=I y∧w.cell? ⟨b,2,G⟩=I z)∧w.frozen? ⟨b,0,G⟩=O∧w.frozen? ⟨b,1,G⟩=O∧w.frozen? ⟨b,2,G⟩=O:=by
 refine⟨⟨?_,?_,?_⟩,?_,?_,?_⟩<;>simp[tU,rW,h]
theorem UV{rb:Nat}{w wr:F}{RB:Nat}{x y z:H}{st:Int}{va ua:Option rB}{n m vc uc:Nat}{R:List Rd}{V:List Ze}(h:wr.heap[RB]?=I (S #[x,y,z] 85))(hR:ZI rb 0 wr (J va n vc) R)(hV:QZ rb 0 wr (J ua m uc) V)(hg:L w wr G)(hw:w.heap.size<=RB):((((tE wr ⟨RB,0,G⟩ (Y tB st)).setCell ⟨RB,1,G⟩ (J va n vc)).setCell ⟨RB,2,G⟩ (J ua m uc)).cell? ⟨RB,0,G⟩=I (Y tB st)∧(((tE wr ⟨RB,0,G⟩ (Y tB st)).setCell ⟨RB,1,G⟩ (J va n vc)).setCell ⟨RB,2,G⟩ (J ua m uc)).cell? ⟨RB,1,G⟩=I (J va n vc)∧(((tE wr ⟨RB,0,G⟩ (Y tB st)).setCell ⟨RB,1,G⟩ (J va n vc)).setCell ⟨RB,2,G⟩ (J ua m uc)).cell? ⟨RB,2,G⟩=I (J ua m uc))∧ZI rb 0 (((tE wr ⟨RB,0,G⟩ (Y tB st)).setCell ⟨RB,1,G⟩ (J va n vc)).setCell ⟨RB,2,G⟩ (J ua m uc)) (J va n vc) R∧QZ rb 0 (((tE wr ⟨RB,0,G⟩ (Y tB st)).setCell ⟨RB,1,G⟩ (J va n vc)).setCell ⟨RB,2,G⟩ (J ua m uc)) (J ua m uc) V∧L w (((tE wr ⟨RB,0,G⟩ (Y tB st)).setCell ⟨RB,1,G⟩ (J va n vc)).setCell ⟨RB,2,G⟩ (J ua m uc)) G:=by
 have b1:=Qk (i:=0) (u:=Y tB st) h;have b2:=Qk (i:=1) (u:=J va n vc) b1;have b3:=Qk (i:=2) (u:=J ua m uc) b2;exact⟨(QI (x:=Y tB st) (y:=J va n vc) (z:=J ua m uc) b3).1,((hR.setOther h zC kA (tQ _) _).setOther b1 zC kA (tQ _) _).setOther b2 zC kA (tQ _) _,((hV.setOther h zC G2 (tQ _) _).setOther b1 zC G2 (tQ _) _).setOther b2 zC G2 (tQ _) _,Qc (Qc (Qc hg _ hw _ _) _ hw _ _) _ hw _ _⟩
theorem QZ.keptR{rb rb':Nat}{W w':F}{v u:H}{l:List Ze}{k:List Rd}(hV:QZ rb 0 W v l)(hR:ZI rb' 0 W u k)(hg:L W w' u.ownBlock):QZ rb 0 w' v l:=by
 refine hV.kept hg ?_ ?_;·rcases hV.row with h|⟨g,cur,fz,e,_,h⟩;(·exact .inl h);·refine .inr ?_;rw[e];exact fun e2=>hR.ne h (fun e=>iS e.symm) e2.symm
 ·rcases hR.row with h|⟨g,cur,fz,e,_,h⟩;(·exact .inl h);·exact .inr ⟨g,cur,_,fz,e,tQ _,h,iF⟩
theorem GF{w:F}{v1 v2:H}{st:Int}{R:List Rd}{V:List Ze}{rb:Nat}{t:Tx}(e:t=⟨st,R,V⟩)(h1:ZI rb 0 w v1 R)(h2:QZ rb 0 w v2 V):GO w (sO #[Y tB st,v1,v2]) t:=by
 subst e;exact⟨_,_,rfl,h1.down 0 (tQ _),h2.down 0 (tQ _)⟩
theorem UT{v:H}{a b:Int}(h:a=b):tD (sE #[v,Y tB b])=tD (sE #[v,Y tB a]):=by
 rw[h]
theorem LL:∀(l:List Ze)(w:Ze)(m:Nat),m<l.length->(l.take m).any (fun q=>ZK q w)=O->ZK (l.getD m Qr) w=N->z8 l w=l.set m w|[],_,_,h,_,_=>by simp at h|a::l,w,0,_,_,h=>by have h':ZK a w=N:=h;rw[z8,if_pos h'];rfl|a::l,w,m+1,h0,h1,h2=>by rw[rD,pC,rO]at h1;rw[z8,if_neg (by rw[h1.1];decide),pM,LL l w m (by simpa using h0) h1.2 (by simpa using h2)]
theorem Di:∀(l:List Ze)(w:Ze),l.any (fun q=>ZK q w)=O->z8 l w=l++[w]|[],_,_=>rfl|a::l,w,h=>by rw[pC,rO]at h;rw[z8,if_neg (by rw[h.1];decide),Di l w h.2];rfl
theorem QZ.zero{rb:Nat}{w:F}{b o n cap:Nat}{l:List Ze}(h:QZ rb 0 w (J (I ⟨b,o,G⟩) n cap) l):o=0:=by
 obtain⟨us,hl,hr,h3⟩:=h;rcases hr.2with⟨e,_⟩|⟨g',cap',cur,e,_⟩;·cases e
 ·simp only[tH,tA,rK]at e;exact e.1.2.1
theorem QZ.frozenT{rb:Nat}{w:F}{g n cap:Nat}{l:List Ze}(h:QZ rb 0 w (J (I ⟨g,0,G⟩) n cap) l)(j:Nat):w.frozen? ⟨g,j,G⟩=O:=by
 obtain⟨us,hl,hr,h3⟩:=h;rcases hr.2with⟨e,_⟩|⟨g',cap',cur,e,hb,hg,_⟩;·cases e
 ·simp only[tH,tA,rK]at e;obtain⟨⟨rfl,_⟩,_⟩:=e;simp[rW,hg]
theorem Eb:∀(us:List WV)(i:Nat)(x:WV),Y5 (us.set i x)=((((Y5 us).set (i*4) x.2.1).set (i*4+1) x.2.2.1).set (i*4+2) (tL x.1.gone)).set (i*4+3) x.2.2.2|[],i,x=>by simp[Y5]|y::us,0,x=>by simp[Y5]|y::us,i+1,x=>by have ih:=Eb us i x;(have e:∀us:List WV,Y5 (y::us)=y.2.1::y.2.2.1::tL y.1.gone::y.2.2.2::Y5 us:=fun us=>by simp[Y5]);rw[pM,e,e,ih,show(i+1)*4=i*4+4by omega];rfl
theorem QZ.setT{rb:Nat}{w:F}{g n cap:Nat}{l:List Ze}(h:QZ rb 0 w (J (I ⟨g,0,G⟩) n cap) l)(i:Nat)(vn vk vv:H)(p:Ze)(h1:Qh 0 w vn p.name)(h2:Qh 0 w vk p.key)(h3:Qh 0 w vv p.value):QZ rb 0 ((((tE w ⟨g,i*4,G⟩ vn).setCell ⟨g,i*4+1,G⟩ vk).setCell ⟨g,i*4+2,G⟩ (tL p.gone)).setCell ⟨g,i*4+3,G⟩ vv) (J (I ⟨g,0,G⟩) n cap) (l.set i p):=by
 obtain⟨us,hul,hr,hp⟩:=h;have hgr:L w ((((tE w ⟨g,i*4,G⟩ vn).setCell ⟨g,i*4+1,G⟩ vk).setCell ⟨g,i*4+2,G⟩ (tL p.gone)).setCell ⟨g,i*4+3,G⟩ vv) (I g):=Qi (Qi (Qi (Qi (Qb _ _) _ _) _ _) _ _) _ _;rcases hr.2with⟨e,_⟩|⟨g',cap',cur,e,hb,hg,hn,hm,hs,ht⟩;·cases e
 ·simp only[tH,tA,rK]at e;obtain⟨⟨rfl,_⟩,rfl,rfl⟩:=e;have hrow:(I g:Option Nat)=G∨∃g' cur t fz,(I g:Option Nat)=I g'∧0<=g'∧w.heap[g']?=I (S cur t fz)∧t≠5:=.inr ⟨g,cur,_,_,rfl,tQ _,hg,uD⟩;(have hus:us.length=l.length:=by rw[<-hul];simp);refine⟨us.set i (p,vn,vk,vv),by rw[List.map_set,hul],⟨by rw[Wb,rP,rP,hus],.inr ⟨g,cap,_,by rw[rP],hb,Qk (Qk (Qk (Qk hg))),by rw[rP];exact hn,hm,by simpa using hs,?_⟩⟩,?_⟩;(·rw[Eb,rP];simp only[Array.toList_setIfInBounds];rw[pD,pD,pD,pD,ht]);·intro x hx;rcases List.mem_or_eq_of_mem_set hx with hx|rfl;(·exact⟨(hp x hx).1.keptT hgr hrow,(hp x hx).2.1.keptT hgr hrow,(hp x hx).2.2.keptT hgr hrow⟩);·exact⟨h1.keptT hgr hrow,h2.keptT hgr hrow,h3.keptT hgr hrow⟩
def Uc(n k:List UInt8)(q:Ze):Bool:=tR (q.name=n)&&tR (q.key=k)
theorem Bh{α:Type}(p:α->Bool)(d:α):∀(l:List α)(m:Nat),m<l.length->(l.take m).any p=O->p (l.getD m d)=N->l.find? p=I (l.getD m d)|[],_,h,_,_=>by simp at h|a::l,0,_,_,h=>by have h':p a=N:=h;rw[List.find?_cons_of_pos h'];rfl|a::l,m+1,h0,h1,h2=>by rw[rD,pC,rO]at h1;rw[List.find?_cons_of_neg (by rw[h1.1];decide),Bh p d l m (by simpa using h0) h1.2 (by simpa using h2)];simp
theorem LZ{α:Type}(p:α->Bool)(l:List α)(h:l.any p=O):l.find? p=G:=by
 rw[List.find?_eq_none];intro x hx hp;rw[List.any_eq_false]at h;exact h x hx hp
theorem gO{l:List Ze}{n k:List UInt8}{m:Nat}(h:m<l.length)(h1:(l.take m).any (Uc n k)=O)(h2:Uc n k (l.getD m Qr)=N):iH l n k=I (l.getD m Qr):=Bh (Uc n k) Qr l m h h1 h2
theorem dE{l:List Ze}{n k:List UInt8}(h:l.any (Uc n k)=O):iH l n k=G:=LZ (Uc n k) l h
theorem Od{l:FL}{t:Tx}{n k:List UInt8}(h:Ku l t n k≠0):VN l t n k=O∧Vb l t n k=O∧UZ l t n k=[]:=by
 rw[VN,Vb,UZ,if_neg h,if_neg h,if_neg h];exact⟨rfl,rfl,rfl⟩
theorem eA{l:FL}{t:Tx}{n k:List UInt8}(h:zU l t≠0):Ku l t n k=zU l t:=by
 rw[Ku,if_neg h]
theorem Dq{l:FL}{t:Tx}(h:zU l t=0):ZZ l∧qH t:=by
 unfold zU at h;by_cases hf:Q6 l=0;·rw[if_pos hf]at h;exact⟨(XH l).1 hf,(kZ t).1 h⟩
 ·rw[if_neg hf]at h;exact absurd h hf
theorem bC{l:FL}{t:Tx}{n k:List UInt8}(h:zU l t=0){m:Nat}(hm:m<t.writes.length)(h1:(t.writes.take m).any (Uc n k)=O)(h2:Uc n k (t.writes.getD m Qr)=N):Ku l t n k=0∧VN l t n k=N∧Vb l t n k=!(t.writes.getD m Qr).gone∧UZ l t n k=(t.writes.getD m Qr).value:=by
 obtain⟨hf,ht⟩:=Dq h;have ha:=gO hm h1 h2;have hs:=Ot ha;have hw:=(XG _).1 (ht.wrs _ hs.1);rw[hs.2.1,hs.2.2]at hw;have h0:=S9 hf ht hw.1 hw.2.1;refine⟨h0,?_,?_,?_⟩;·rw[VN,if_pos h0,ha];rfl
 ·rw[Vb,if_pos h0,ha]
 ·rw[UZ,if_pos h0,ha]
theorem aZ{l:FL}{t:Tx}{n k:List UInt8}(h:zU l t=0)(h1:t.writes.any (Uc n k)=O):Ku l t n k=Uy l n k∧VN l t n k=O∧Vb l t n k=JW l n k∧UZ l t n k=J7 l n k:=by
 obtain⟨hf,ht⟩:=Dq h;have ha:=dE h1;have hfo:=(XH l).2 hf;have hE:Ku l t n k=Uy l n k:=by rw[Ku,if_pos h,Uy,GH,if_pos hfo];by_cases hn:Qt n.length=0;(·rw[if_pos hn,if_pos hn,Z9,if_pos ((YL _).2 (KH hf n))]);·rw[if_neg hn,if_neg hn]
 refine⟨hE,?_,?_,?_⟩;·rw[VN,ha];by_cases h0:Ku l t n k=0;(·rw[if_pos h0];rfl);·rw[if_neg h0]
 ·rw[Vb,ha];by_cases h0:Ku l t n k=0;(·rw[if_pos h0]);·rw[if_neg h0];rw[hE]at h0;rw[JW];by_cases hn:GH l n=0;(·rw[Uy,if_pos hn]at h0;rw[if_pos hn,Tv];simp[h0]);·rw[if_neg hn]
 ·rw[UZ,ha];by_cases h0:Ku l t n k=0;(·rw[if_pos h0]);·rw[if_neg h0];rw[hE]at h0;rw[J7];by_cases hn:GH l n=0;(·rw[Uy,if_pos hn]at h0;rw[if_pos hn,T5,if_neg h0]);·rw[if_neg hn]
theorem ID{X:PL}(h:ZA X)(k:List UInt8):ZA (kH X k):=⟨tP (Le X k) h.room,fun p hp=>h.pairs p (pW.1 hp).1,Nq X k h.rises⟩
theorem Dj{X:PL}(h:ZA X)(f u:List UInt8):ZA (Ve X f u):=⟨tP (WL X f u) h.room,fun p hp=>h.pairs p (pW.1 hp).1,C7 X f u h.rises⟩
theorem Ha{X:PL}(h:ZA X){p:Pr}(hp:(1<=p.1.length∧p.1.length<=16)∧p.2.length<=32)(hl:(Kd X p).length<=60):ZA (Kd X p):=⟨hl,EV X p h.pairs hp,Pm X p h.rises⟩
theorem kB(n a b:List UInt8)(w:Ze):XO ⟨n,a,N,b⟩ w=N↔w.name=n∧iU a b w.key=N:=by
 show(tR (n=w.name)&&iU a b w.key)=N↔_;rw[rM,decide_eq_true_iff];exact⟨fun h=>⟨h.1.symm,h.2⟩,fun h=>⟨h.1.symm,h.2⟩⟩
theorem IW{n a b:List UInt8}{w:Ze}(h:XO ⟨n,a,N,b⟩ w=O)(X:PL):KX n a b X w=X:=by
 rw[KX,if_neg];intro e;rw[(kB n a b w).2 e]at h;cases h
theorem aG{n a b:List UInt8}{w:Ze}(h:XO ⟨n,a,N,b⟩ w=N)(hg:w.gone=N){X:PL}(hX:ZA X)(hw:QC w=0):Z9 X w.key=0∧zT X w.key=KX n a b X w∧ZA (KX n a b X w):=by
 have hk:=((XG w).1 hw).2.1;have h0:=jE hX hk;have e:KX n a b X w=kH X w.key:=by rw[KX,if_pos ((kB n a b w).1 h),if_pos hg]
 refine⟨h0,by rw[e,zT,if_pos h0],by rw[e];exact ID hX _⟩
theorem aX{n a b:List UInt8}{w:Ze}(h:XO ⟨n,a,N,b⟩ w=N)(hg:w.gone=O){X:PL}(hX:ZA X)(hw:QC w=0):KX n a b X w=Kd X (w.key,w.value)∧(60<(KX n a b X w).length->Ki X (w.key,w.value)=11)∧(¬60<(KX n a b X w).length->Ki X (w.key,w.value)=0∧Vn X (w.key,w.value)=KX n a b X w∧ZA (KX n a b X w)):=by
 have hk:=(XG w).1 hw;have hv:w.value.length<=32:=by have:=hk.2.2;rw[hg,if_neg (by decide)]at this;exact this
 have e:KX n a b X w=Kd X (w.key,w.value):=by rw[KX,if_pos ((kB n a b w).1 h),hg,if_neg (by decide)]
 have h0:V4 X (w.key,w.value)=0:=by rw[V4,if_pos ((YL X).2 hX)];exact(JA _).2 ⟨hk.2.1,hv⟩
 refine⟨e,fun hl=>?_,fun hl=>?_⟩;·rw[e]at hl;rw[Ki,if_pos h0,if_pos hl]
 ·rw[e]at hl;(have h1:Ki X (w.key,w.value)=0:=by rw[Ki,if_pos h0,if_neg hl]);refine⟨h1,by rw[e,Vn,if_pos h1],?_⟩;rw[e];exact Ha hX ⟨hk.2.1,hv⟩ (by omega)
def JD(n a b:List UInt8)(X:PL)(ws:List Ze):Int×PL:=(kX n a b X ws,if kX n a b X ws=0then Sr n a b X ws else[])
theorem SS(n a b:List UInt8)(X:PL):JD n a b X []=(0,X):=rfl
theorem Pw{n a b:List UInt8}{X:PL}{ws:List Ze}{m:Nat}(hm:m<ws.length)(h:¬60<(KX n a b X (ws.getD m Qr)).length):JD n a b X (ws.drop m)=JD n a b (KX n a b X (ws.getD m Qr)) (ws.drop (m+1)):=by
 rw[sS hm,show ws[m]=ws.getD m Qr by simp[hm]];rw[JD,JD,kX,if_neg h];rfl
theorem Cb{n a b:List UInt8}{X:PL}{ws:List Ze}{m:Nat}(hm:m<ws.length)(h:60<(KX n a b X (ws.getD m Qr)).length):JD n a b X (ws.drop m)=(11,[]):=by
 rw[sS hm,show ws[m]=ws.getD m Qr by simp[hm]];rw[JD,kX,if_pos h,if_neg (by decide)]
theorem dA{l:FL}{t:Tx}{n a b:List UInt8}(h:zU l t≠0):Kw l t n a b=zU l t∧V3 l t n a b=[]:=by
 have e:Kw l t n a b=zU l t:=by rw[Kw,if_neg h]
 exact⟨e,by rw[V3,e,if_neg h]⟩
theorem Si{l:FL}{t:Tx}{n a b:List UInt8}(h:zU l t=0)(h1:Yu l n a b≠0):Kw l t n a b=Yu l n a b∧V3 l t n a b=[]:=by
 obtain⟨hf,ht⟩:=Dq h;have hfo:=(XH l).2 hf;have e:Kw l t n a b=Yu l n a b:=by(have hE:Yu l n a b=if Qt n.length=0then(if Qp a.length=0then Qp b.length else Qp a.length)else Qt n.length:=by rw[Yu,GH,if_pos hfo];by_cases hn:Qt n.length=0;(·rw[if_pos hn,if_pos hn,Yr,Z9,if_pos ((YL _).2 (KH hf n))]);·rw[if_neg hn,if_neg hn]);rw[Kw,if_pos h,hE];by_cases hn:Qt n.length=0;(·rw[if_pos hn,if_pos hn];by_cases ha:Qp a.length=0;(·rw[if_pos ha,if_pos ha];by_cases hb:Qp b.length=0;(·rw[hE,if_pos hn,if_pos ha]at h1;exact absurd hb h1);·rw[if_neg hb]);·rw[if_neg ha,if_neg ha]);·rw[if_neg hn,if_neg hn]
 exact⟨e,by rw[V3,e,if_neg h1]⟩
theorem Am{l:FL}{t:Tx}{n a b:List UInt8}(h:zU l t=0)(h1:Yu l n a b=0):JD n a b (Kk l n a b) t.writes=(Kw l t n a b,V3 l t n a b)∧ZA (Kk l n a b):=by
 obtain⟨hf,ht⟩:=Dq h;have hfo:=(XH l).2 hf;have hn:GH l n=0:=by by_cases hn:GH l n=0;(·exact hn);·rw[Yu,if_neg hn]at h1;exact absurd h1 hn
 have hr:Yr (YN l n) a b=0:=by rw[Yu,if_pos hn]at h1;exact h1
 have hg:=BA hr;have hb:Qp b.length=0:=by rw[Yr,if_pos hg]at hr;exact hr
 have ha:Qp a.length=0:=(Zw _).2 (OI hg);have hnn:Qt n.length=0:=(Zn _).2 (qU hn).2;have e:Kk l n a b=Ve (YN l n) a b:=by rw[Kk,if_pos hn,KQ,if_pos hr]
 have eE:Kw l t n a b=kX n a b (Ve (YN l n) a b) t.writes:=by rw[Kw,if_pos h,if_pos hnn,if_pos ha,if_pos hb]
 refine⟨?_,by rw[e];exact Dj (KH hf n) a b⟩;rw[e,JD,V3,eE]
def WK:Prop:=∀(w:F)(v:H)(t:Tx),GW w v t->xI t->sV M 111 #[v] w fun e w'=>e=tD (Y tB (Gk t))∧L w w' G
def IS:Prop:=∀(w:F)(v:H)(l:PL),Qq w v l->uF l->sV M 44 #[v] w fun e w'=>e=tD (Y tB (QA l))∧L w w' G
theorem FQ{w:F}{o:rF}{a:Act}{K:Act->F->Prop}{Q:Exit->Act->F->Prop}(s x:rC)(ho:o.op=.call {callee:=.builtin .append,args:=#[s,x],argTypes:=#[41,41]})(rb base:Nat)(hrb:base<=rb)(v:H)(l:PL)(hs:a.eval s=v)(hown:Ko rb base w v l)(vk vv:H)(p:Pr)(hk:Qh base w vk p.1)(hv:Qh base w vv p.2)(nb:Nat)(hb:w.heap[nb]?=I (S #[vk,vv] 44))(hx:a.eval x=J (I ⟨nb,0,G⟩) 1 1)(hl:(l.length+1)*48<=140737488355328)(hbase:rb<=w.heap.size)(h:∀v' w',Ko rb base w' v' (l++[p])->L w w' v.ownBlock->K (a.put o.dst v') w'):o.wp M a w K Q:=by
 obtain⟨i0,hi,hz0,hz1,hz2⟩:=rV Cm;have hrow:=hown.row hrb;obtain⟨vs,hvl,hr,hp⟩:=hown;refine wp_append_lies w s x 41 ho rb 44 i0 (sO #[J G 0 0,J G 0 0]) 2 48 Tryz.underlying41 hi hz0 hz1 hz2 rfl (by decide) v l.length (flat vs) hs hr ⟨nb,0,G⟩ 1 1 (flat [(vk,vv)]) hx rfl (sY (cs:=#[vk,vv]) hb) ?_ (by omega) (by unfold pF;omega) hl hbase _ rfl ?_;·intro u hu;simp only[flat,tN,rA,rG,tK,tM,or_false]at hu;rcases hu with rfl|rfl;(·exact Zx hk);·exact Zx hv
 ·intro g cap w' h1 h2 _ _;refine h _ w' ⟨vs++[(vk,vv)],by simp[hvl],?_,?_⟩ h2;(·rw[JU,tC];exact h1);·intro i hi;rw[Jh,Jh,hvl];by_cases hil:i<l.length;(·rw[if_pos hil,if_pos hil];exact⟨(hp i hil).1.kept h2 hrow,(hp i hil).2.kept h2 hrow⟩);·rw[if_neg hil,if_neg hil];(obtain rfl:i=l.length:=by simp at hi;omega);rw[oD];exact⟨hk.kept h2 hrow,hv.kept h2 hrow⟩
theorem Gh{w:F}{ops:Array rF}{o:rF}{a:Act}{K:Act->F->Prop}{Q:Exit->Act->F->Prop}{E:Prop}(hgd:o.guard=G)(s x:rC)(ho:o.op=.call {callee:=.builtin .append,args:=#[s,x],argTypes:=#[41,41]})(rb base:Nat)(hrb:base<=rb)(v:H)(l:PL)(hs:a.eval s=v)(hown:Ko rb base w v l)(vk vv:H)(p:Pr)(hk:Qh base w vk p.1)(hv:Qh base w vv p.2)(nb:Nat)(hb:w.heap[nb]?=I (S #[vk,vv] 44))(hx:a.eval x=J (I ⟨nb,0,G⟩) 1 1)(hl:(l.length+1)*48<=140737488355328)(hbase:rb<=w.heap.size)(h:∀v' w',Ko rb base w' v' (l++[p])->L w w' v.ownBlock->K (a.put o.dst v') w'):if sD o (pA ops a.tmps)=N then Oper.wp M o a w K Q else E:=by
 have hw:sD o (pA ops a.tmps)=N:=by simp[sD,hgd]
 rw[if_pos hw];exact FQ s x ho rb base hrb v l hs hown vk vv p hk hv nb hb hx hl hbase h
theorem Ru(w:F):(sizeOf (M.elem 41)).run M w=.ok 2 w:=by
 kernel_rfl
theorem Qq.sliced{w:F}{a:Option rB}{cap:Nat}{l:PL}(h:Qq w (J a l.length cap) l)(i j:Nat)(hij:i<=j)(hj:j<=l.length):Qq w (sP a i j cap 2) ((l.take j).drop i):=by
 obtain⟨a',cap',e,hc,h⟩:=h;simp only[tH,true_and]at e;obtain⟨rfl,rfl⟩:=e;have hlen:((l.take j).drop i).length=j-i:=by simp;omega
 refine⟨if cap=i then a else a.map (·.add (i*2)),cap-i,by rw[hlen];rfl,by rw[hlen];omega,?_⟩;by_cases hci:cap=i;·left;exact⟨tJ (by rw[hlen];omega),fun _=>by omega⟩
 ·rw[if_neg hci];rcases h with⟨rfl,h⟩|⟨b,o,rfl,h⟩;(·left;refine⟨by simp,fun e=>?_⟩;cases a with|none=>have:=h rfl;simp at hj;omega|some x=>cases e);·right;refine⟨b,o+i*2,by simp[Z4],fun k hk=>?_⟩;rw[hlen]at hk;have:=h (i+k) (by omega);(have e:((l.take j).drop i).getD k ([],[])=l.getD (i+k) ([],[]):=by simp[show i+k<j by omega]);rw[e,show o+i*2+k*2=o+(i+k)*2by omega];exact this
theorem vS(a:Option rB)(cap:Nat)(l:PL)(n:Nat)(hn:n<=l.length)(hc:l.length<=cap):∃a1 c1,(∀W,(rT 41 (J a l.length cap) G (I (Y tB (n:Int))) G).run M W=.ok (J a1 n c1) W)∧∀W,Qq W (J a l.length cap) l->Qq W (J a1 n c1) (l.take n):=by
 refine⟨if cap=0then a else a.map (·.add (0*2)),cap-0,fun W=>?_,fun W h=>?_⟩;·rw[run_slice_h _ _ _ _ _ (by kernel_rfl) _ _ (by omega) (by omega),Ru];simp only[rJ,sP,sW,pE]
 ·have:=h.sliced 0 n (by omega) hn;simpa only[sP,oC,pE]using this
theorem Pc(a:Option rB)(cap:Nat)(l:PL)(n:Nat)(hn:n<=l.length):∃a1 c1,(∀W,(rT 41 (J a l.length cap) (I (Y tB (n:Int))) G G).run M W=.ok (J a1 (l.length-n) c1) W)∧∀W,Qq W (J a l.length cap) l->Qq W (J a1 (l.length-n) c1) (l.drop n):=by
 refine⟨if cap=n then a else a.map (·.add (n*2)),cap-n,fun W=>?_,fun W h=>?_⟩;·rw[run_slice_l _ _ _ _ _ (by kernel_rfl) _ _ (by omega) (by omega),Ru];simp only[rJ,sP,sW]
 ·have:=h.sliced n l.length hn (sA _);simpa only[sP,sC]using this
theorem NS(a:Option rB)(cap:Nat)(l:PL)(i j:Nat)(hij:i<=j)(hj:j<=l.length)(hc:l.length<=cap):∃a1 c1,(∀W,(rT 41 (J a l.length cap) (I (Y tB (i:Int))) (I (Y tB (j:Int))) G).run M W=.ok (J a1 (j-i) c1) W)∧∀W,Qq W (J a l.length cap) l->Qq W (J a1 (j-i) c1) ((l.take j).drop i):=by
 refine⟨if cap=i then a else a.map (·.add (i*2)),cap-i,fun W=>?_,fun W h=>?_⟩;·rw[run_slice_lh _ _ _ _ _ (by kernel_rfl) _ _ _ _ (by omega) (by omega) (by omega),Ru];simp only[rJ,sP,sW]
 ·have:=h.sliced i j hij hj;simpa only[sP]using this
theorem Qq.cap{w:F}{a:Option rB}{n cap:Nat}{l:PL}(h:Qq w (J a n cap) l):l.length<=cap:=by
 obtain⟨a',cap',e,hc,_⟩:=h;simp only[tH]at e;obtain⟨_,_,rfl⟩:=e;exact hc
def aW:Prop:=∀(w:F)(v:H)(l:FL),Zf w v l->Uz l->sV M 33 #[v] w fun e w'=>e=tD (Y tB (Q6 l))∧L w w' G
def Dr:Prop:=∀(w:F)(v u:H)(l:FL)(ws:List Ze),Zf w v l->QQ w u ws->Uz l->uJ ws->sV M 116 #[v,u] w fun e w'=>∃x,e=tD (sE #[x,Y tB (QY l ws)])∧Zf w' x (Xq l ws)∧L w w' G
theorem Zz.down{base:Nat}{w:F}{v:H}{l:FL}(h:Zz base w v l)(b2:Nat)(hb:b2<=base):Zz b2 w v l:=by
 obtain⟨vs,h1,h2,h3⟩:=h;refine⟨vs,h1,⟨h2.1,?_⟩,h3⟩;rcases h2.2with h|⟨g,cap,cur,e,hb2,rest⟩;·exact .inl h
 ·exact .inr ⟨g,cap,cur,e,tP hb hb2,rest⟩
def yE:Prop:=∀(w:F)(v u:H)(l:FL)(ws:List Ze),Zf w v l->QQ w u ws->Uz l->uJ ws->sV M 116 #[v,u] w fun e w'=>∃x,e=tD (sE #[x,Y tB (QY l ws)])∧Zz w.heap.size w' x (Xq l ws)∧L w w' G
theorem yE.ok(h:yE):Dr:=fun w v u l ws h1 h2 h3 h4=>(h w v u l ws h1 h2 h3 h4).mono (by
 rintro e w'⟨x,rfl,hx,hg⟩;exact⟨x,rfl,hx.list,hg⟩)
theorem qY(w:F)(b i:Nat)(u:H):∃W:F,Hid (W=tE w ⟨b,i,G⟩ u)∧L w W (I b):=⟨_,rfl,YF w b i u⟩
theorem zJ{w:F}{ops:Array rF}{o:rF}{a:Act}{K:Act->F->Prop}{Q:Exit->Act->F->Prop}{E:Prop}(hgd:o.guard=G)(s x:rC)(ho:o.op=.call {callee:=.builtin .append,args:=#[s,x],argTypes:=#[83,83]})(rb:Nat)(v:H)(l:List Ze)(hs:a.eval s=v)(hown:QZ rb 0 w v l)(vn vk vv:H)(p:Ze)(h1:Qh 0 w vn p.name)(h2:Qh 0 w vk p.key)(h3:Qh 0 w vv p.value)(nb:Nat)(hb:w.heap[nb]?=I (S #[vn,vk,tL p.gone,vv] 178))(hx:a.eval x=J (I ⟨nb,0,G⟩) 1 1)(hl:(l.length+1)*80<=140737488355328)(hbase:rb<=w.heap.size)(h:∀v' w',QZ rb 0 w' v' (l++[p])->L w w' v.ownBlock->K (a.put o.dst v') w'):if sD o (pA ops a.tmps)=N then Oper.wp M o a w K Q else E:=by
 have hw:sD o (pA ops a.tmps)=N:=by simp[sD,hgd]
 rw[if_pos hw];obtain⟨i0,hi,hz0,hz1,hz2⟩:=rV bQ;have hrow:v.ownBlock=G∨∃g cur t fz,v.ownBlock=I g∧0<=g∧w.heap[g]?=I (S cur t fz)∧t≠5:=by rcases hown.row with h|⟨g,cur,fz,e,_,h⟩;(·exact .inl h);·exact .inr ⟨g,cur,_,fz,e,tQ _,h,uD⟩
 obtain⟨us,hul,hr,hp⟩:=hown;refine wp_append_lies w s x 83 ho rb 178 i0 (sO #[J G 0 0,J G 0 0,tL O,J G 0 0]) 4 80 Tryz.underlying83 hi hz0 hz1 hz2 rfl (by decide) v l.length (Y5 us) hs hr ⟨nb,0,G⟩ 1 1 (Y5 [(p,vn,vk,vv)]) hx rfl (sY (cs:=#[vn,vk,tL p.gone,vv]) hb) ?_ (by omega) (by unfold pF;omega) hl hbase _ rfl ?_;·intro u hu;simp only[Y5,tN,rA,rG,tK,tM,or_false]at hu;rcases hu with rfl|rfl|rfl|rfl;(·exact Zx h1);(·exact Zx h2);(·rfl);·exact Zx h3
 ·intro g cap w' q1 q2 _ _;refine h _ w' ⟨us++[(p,vn,vk,vv)],by simp[hul],?_,?_⟩ q2;(·rw[uR,tC];exact q1);·intro y hy;rcases tY.1 hy with hy|hy;(·exact⟨(hp y hy).1.keptT q2 hrow,(hp y hy).2.1.keptT q2 hrow,(hp y hy).2.2.keptT q2 hrow⟩);·simp only[tK,tM,or_false]at hy;subst hy;exact⟨h1.keptT q2 hrow,h2.keptT q2 hrow,h3.keptT q2 hrow⟩
theorem xT{w:F}{ops:Array rF}{o:rF}{a:Act}{K:Act->F->Prop}{Q:Exit->Act->F->Prop}{E:Prop}(hgd:o.guard=G)(s x:rC)(ho:o.op=.call {callee:=.builtin .append,args:=#[s,x],argTypes:=#[82,82]})(rb:Nat)(v:H)(l:List Rd)(hs:a.eval s=v)(hown:ZI rb 0 w v l)(vn vk vv:H)(p:Rd)(h1:Qh 0 w vn p.name)(h2:Qh 0 w vk p.key)(h3:Qh 0 w vv p.last)(nb:Nat)(hb:w.heap[nb]?=I (S #[vn,vk,tL p.wide,vv] 198))(hx:a.eval x=J (I ⟨nb,0,G⟩) 1 1)(hl:(l.length+1)*80<=140737488355328)(hbase:rb<=w.heap.size)(h:∀v' w',ZI rb 0 w' v' (l++[p])->L w w' v.ownBlock->K (a.put o.dst v') w'):if sD o (pA ops a.tmps)=N then Oper.wp M o a w K Q else E:=by
 have hw:sD o (pA ops a.tmps)=N:=by simp[sD,hgd]
 rw[if_pos hw];obtain⟨i0,hi,hz0,hz1,hz2⟩:=rV iD;have hrow:v.ownBlock=G∨∃g cur t fz,v.ownBlock=I g∧0<=g∧w.heap[g]?=I (S cur t fz)∧t≠5:=by rcases hown.row with h|⟨g,cur,fz,e,_,h⟩;(·exact .inl h);·exact .inr ⟨g,cur,_,fz,e,tQ _,h,iF⟩
 obtain⟨us,hul,hr,hp⟩:=hown;refine wp_append_lies w s x 82 ho rb 198 i0 (sO #[J G 0 0,J G 0 0,tL O,J G 0 0]) 4 80 Tryz.underlying82 hi hz0 hz1 hz2 rfl (by decide) v l.length (Gs us) hs hr ⟨nb,0,G⟩ 1 1 (Gs [(p,vn,vk,vv)]) hx rfl (sY (cs:=#[vn,vk,tL p.wide,vv]) hb) ?_ (by omega) (by unfold pF;omega) hl hbase _ rfl ?_;·intro u hu;simp only[Gs,tN,rA,rG,tK,tM,or_false]at hu;rcases hu with rfl|rfl|rfl|rfl;(·exact Zx h1);(·exact Zx h2);(·rfl);·exact Zx h3
 ·intro g cap w' q1 q2 _ _;refine h _ w' ⟨us++[(p,vn,vk,vv)],by simp[hul],?_,?_⟩ q2;(·rw[N8,tC];exact q1);·intro y hy;rcases tY.1 hy with hy|hy;(·exact⟨(hp y hy).1.keptT q2 hrow,(hp y hy).2.1.keptT q2 hrow,(hp y hy).2.2.keptT q2 hrow⟩);·simp only[tK,tM,or_false]at hy;subst hy;exact⟨h1.keptT q2 hrow,h2.keptT q2 hrow,h3.keptT q2 hrow⟩
def bI:Prop:=∀(w:F)(v:H)(r:Rq),UD w->Xc w v r->yK r->sV M 106 #[v] w fun e w'=>∃x,e=tD (sE #[x,Y tB (Uj r)])∧Yk w' x (Zu r)∧L w w' G
def ZQ(K:Int)(n q l v:Nat):Nat->Bool|0=>O|1=>!QS K 0&&tR (0<n)|2=>(!QS K 0&&tR (0<n))||(!QS K 1&&tR (0<q))|3=>((!QS K 0&&tR (0<n))||(!QS K 1&&tR (0<q)))||(!QS K 2&&tR (0<l))|_=>(((!QS K 0&&tR (0<n))||(!QS K 1&&tR (0<q)))||(!QS K 2&&tR (0<l)))||(!QS K 3&&tR (0<v))
def lK(K:Int)(n q l v:Nat):Int:=if(tR (Qt n≠0)&&QS K 0)=N then Qt n else if(tR (Qp q≠0)&&QS K 1)=N then Qp q else if(tR (Qp l≠0)&&QS K 2)=N then Qp l else if 32<v then 1 else if ZQ K n q l v 4=N then 4 else 0
theorem iC(r:Rq)(hk:1<=r.kind∧r.kind<=8):X9 r=lK r.kind r.name.length r.key.length r.last.length r.value.length:=by
 rw[X9,if_pos hk];have hf:R7 r=if ZQ r.kind r.name.length r.key.length r.last.length r.value.length 4=N then 4 else 0:=by unfold R7;by_cases h1:QV r.kind=O∧0<r.name.length+r.key.length;(·rw[if_pos h1,if_pos];by_cases h2:0<r.name.length;(·simp[ZQ,QS,h1.1,h2]);·(have h3:0<r.key.length:=by omega);simp[ZQ,QS,h1.1,h3]);·rw[if_neg h1];by_cases h2:(r.kind≠3∧0<r.last.length)∨(r.kind≠4∧0<r.value.length);(·rw[if_pos h2,if_pos];rcases h2 with⟨h2,h3⟩|⟨h2,h3⟩;(·simp[ZQ,QS,h2,h3]);·simp[ZQ,QS,h2,h3]);·rw[if_neg h2,if_neg];intro hb;simp only[ZQ,QS,Bool.or_eq_true,rM,Bool.not_eq_true',decide_eq_true_iff,decide_eq_false_iff_not]at hb;rcases hb with((hb|hb)|hb)|hb;(·exact h1 ⟨hb.1,by omega⟩);(·exact h1 ⟨hb.1,by omega⟩);(·exact h2 (.inl hb));·exact h2 (.inr hb)
 rw[hf];unfold yT lK;generalize ZQ r.kind r.name.length r.key.length r.last.length r.value.length 4=B;show _=if(tR (Qt r.name.length≠0)&&QV r.kind)=N then _ else if(tR (Qp r.key.length≠0)&&QV r.kind)=N then _ else if(tR (Qp r.last.length≠0)&&tR (r.kind=3))=N then _ else _;have h3:r.kind=3->QV r.kind=N:=fun h=>by rw[h];decide
 generalize Qt r.name.length=A at*;generalize Qp r.key.length=C at*;generalize Qp r.last.length=D at*;cases hN:QV r.kind with|false=>(have h3':¬r.kind=3:=fun h=>by rw[h3 h]at hN;cases hN);simp[h3']|true=>by_cases hA:A=0;(·by_cases hC:C=0;(·by_cases h4:r.kind=3;(·by_cases hD:D=0;(·simp[hA,hC,h4,hD]);·simp[hA,hC,h4,hD]);·simp[hA,hC,h4]);·simp[hA,hC]);·simp[hA]
theorem gS(r:Rq)(hk:¬(1<=r.kind∧r.kind<=8)):X9 r=5:=by
 rw[X9,if_neg hk]
def L9:Prop:=∀(w:F)(v u a b:H)(l:FL)(t:Tx)(n k:List UInt8),Zf w v l->Uz l->GW w u t->xI t->Qe w a n->Qe w b k->n.length<=140737488355328->k.length<=140737488355328->sV M 93 #[v,u,a,b] w fun e w'=>∃x,e=tD (sE #[sO #[tL (Vb l t n k),x],tL (VN l t n k),Y tB (Ku l t n k)])∧Qh 0 w' x (UZ l t n k)∧L w w' G
def MA:Prop:=∀(w:F)(v r u:H)(l:FL)(n k:List UInt8),Zf w v l->Qe w r n->Qe w u k->Uz l->n.length<=140737488355328->k.length<=140737488355328->sV M 12 #[v,r,u] w fun e w'=>∃x,e=tD (sE #[sO #[tL (JW l n k),x],Y tB (Uy l n k)])∧Qe w' x (J7 l n k)∧L w w' G
theorem XK{w:F}{b:Nat}{x y:H}{t:tX}(h:w.heap[b]?=I (S #[x,y] t)):w.cell? ⟨b,0,G⟩=I x∧w.cell? ⟨b,1,G⟩=I y∧w.frozen? ⟨b,0,G⟩=O∧w.frozen? ⟨b,1,G⟩=O:=by
 refine⟨?_,?_,?_,?_⟩<;>simp[tU,rW,h]
section
variable{D:List UInt8->List UInt8}{v u:Sv}
theorem DW(hD:∀x,(D x).length=4)(h:Zk D v)(hs:v.synced=v.commits.length){k:Int}(hk:0<=k):UQ D v k=Gb O v.tape v.commits v.out:=by
 obtain⟨j,h1,h2,h3,_⟩:=qK hD h hk;obtain rfl:j=v.commits.length:=by omega
 rw[h3,sC];have hm:=h.mark;rw[hs,sC]at hm;have:(⟨Q4 D v.commits,((Q4 D v.commits).length:Int)⟩:V9)=v.tape:=by rw[<-hm,<-h.data]
 rw[this]
end
section
variable{D:List UInt8->List UInt8}{v:Sv}
def Ty(s:Nat)(r:Rq):Ac:=⟨1,(s:Int),0,J9 r⟩
theorem bF{s:Nat}(hs:s<=7){r:Rq}(hr:Ys r):Jc (Ty s r):=⟨⟨(by
 decide:(1:Int)<=1),(by
 decide:(1:Int)<=4)⟩,fun _=>⟨Int.natCast_nonneg _,by
 show(s:Int)<=7;omega⟩,(fun h=>by
 cases h),(by
 have:=(uH hr).1;show(J9 r).length<=4000;omega),(fun h=>absurd rfl h),(fun _=>rfl),(fun h=>absurd rfl h)⟩
theorem cL(v:Sv)(s:Nat){r:Rq}(hr:Ys r):VS D v (Ty s r)=if v.up=O then ZW v (Gv s 13)else Kc D v s r:=by
 show(if(1:Int)=1then Xm D v (s:Int).toNat (J9 r)else _)=_;rw[if_pos rfl,sW,Xm,(Cz hr).1,(Cz hr).2,if_pos rfl]
theorem Is(v:Sv)(s:Nat){r:Rq}(hr:Ys r)(hk:r.kind=8):VS D v (Ty s r)=if v.up=O then ZW v (Gv s 13)else Nj v s r:=by
 rw[cL v s hr,Kc,if_pos hk]
end
section
structure Se where
  begun : Bool
  start : Int
  writes : List Ze
structure Md where
  ses : Nat -> Se
  states : List FL
variable{D:List UInt8->List UInt8}{v:Sv}{m:Md}
theorem Gw(v:Sv)(n:Nat):ZZ (QH v n):=qR _ _ VM
end
section
variable{D:List UInt8->List UInt8}{v:Sv}{m:Md}
theorem D8{r:Rq}(hr:Ys r)(hk:r.kind=2∨r.kind=3):(1<=r.name.length∧r.name.length<=8)∧(1<=r.key.length∧r.key.length<=16):=by
 have:QV r.kind=N:=by rcases hk with e|e<;>rw[e]<;>decide
 exact⟨hr.name this,hr.key this⟩
end
def WQ:Prop:=∀(w:F)(v u:H)(t:Tx)(l:List XA),GW w v t->xI t->Ja w u l->Ag l->sV M 115 #[v,u] w fun e w'=>e=tD (sE #[tL (UI t l),Y tB (Ts t)])∧L w w' G
def eV:Prop:=∀(w:F)(v:H)(c:XA),J0 w v c->Nt c->sV M 142 #[v] w fun e w'=>∃x,e=tD (sE #[x,Y tB (Q9 c)])∧Qe w' x (Tz c)∧L w w' G
def L8:Prop:=∀(w:F)(v:H)(c:XA),J0 w v c->Nt c->sV M 146 #[v] w fun e w'=>e=tD (Y tB (Q9 c))∧L w w' G
theorem Tm(w:F):(sizeOf (M.elem 27)).run M w=.ok 1 w:=by
 kernel_rfl
theorem Qe.cap{w:F}{a:Option rB}{n cap:Nat}{bs:List UInt8}(h:Qe w (J a n cap) bs):bs.length<=cap∧n=bs.length:=by
 obtain⟨a',cap',e,hc,_⟩:=h;simp only[tH]at e;obtain⟨_,rfl,rfl⟩:=e;exact⟨hc,rfl⟩
theorem Qe.byte{w:F}{a:Option rB}{n cap:Nat}{bs:List UInt8}(h:Qe w (J a n cap) bs)(i:Nat)(hi:i<bs.length):∃b o,a=I ⟨b,o,G⟩∧KN w b o bs:=by
 obtain⟨a',cap',e,hc,h⟩:=h;simp only[tH]at e;obtain⟨rfl,rfl,rfl⟩:=e;rcases h with⟨rfl,_⟩|⟨b,o,rfl,h⟩;·simp at hi
 ·exact⟨b,o,rfl,h⟩
theorem Qe.sliced{w:F}{a:Option rB}{cap:Nat}{l:List UInt8}(h:Qe w (J a l.length cap) l)(i j:Nat)(hij:i<=j)(hj:j<=l.length):Qe w (sP a i j cap 1) ((l.take j).drop i):=by
 obtain⟨a',cap',e,hc,h⟩:=h;simp only[tH,true_and]at e;obtain⟨rfl,rfl⟩:=e;have hlen:((l.take j).drop i).length=j-i:=by simp;omega
 refine⟨if cap=i then a else a.map (·.add (i*1)),cap-i,by rw[hlen];rfl,by rw[hlen];omega,?_⟩;by_cases hci:cap=i;·left;exact⟨tJ (by rw[hlen];omega),fun _=>by omega⟩
 ·rw[if_neg hci];rcases h with⟨rfl,h⟩|⟨b,o,rfl,h⟩;(·left;refine⟨by simp,fun e=>?_⟩;cases a with|none=>have:=h rfl;simp at hj;omega|some x=>cases e);·right;refine⟨b,o+i,by simp[Z4],fun k hk=>?_⟩;rw[hlen]at hk;have:=h (i+k) (by omega);(have e:((l.take j).drop i).getD k 0=l.getD (i+k) 0:=by simp[show i+k<j by omega]);rw[e,show o+i+k=o+(i+k)by omega];exact this
theorem xB(a:Option rB)(cap:Nat)(l:List UInt8)(n:Nat)(hn:n<=l.length)(hc:l.length<=cap):∃a1 c1,(∀W,(rT 27 (J a l.length cap) G (I (Y tB (n:Int))) G).run M W=.ok (J a1 n c1) W)∧∀W,Qe W (J a l.length cap) l->Qe W (J a1 n c1) (l.take n):=by
 refine⟨if cap=0then a else a.map (·.add (0*1)),cap-0,fun W=>?_,fun W h=>?_⟩;·rw[run_slice_h _ _ _ _ _ (by kernel_rfl) _ _ (by omega) (by omega),Tm];simp only[rJ,sP,sW,pE]
 ·have:=h.sliced 0 n (by omega) hn;simpa only[sP,oC,pE]using this
theorem GN(a:Option rB)(cap:Nat)(l:List UInt8)(i j:Nat)(hij:i<=j)(hj:j<=l.length)(hc:l.length<=cap):∃a1 c1,(∀W,(rT 27 (J a l.length cap) (I (Y tB (i:Int))) (I (Y tB (j:Int))) G).run M W=.ok (J a1 (j-i) c1) W)∧∀W,Qe W (J a l.length cap) l->Qe W (J a1 (j-i) c1) ((l.take j).drop i):=by
 refine⟨if cap=i then a else a.map (·.add (i*1)),cap-i,fun W=>?_,fun W h=>?_⟩;·rw[run_slice_lh _ _ _ _ _ (by kernel_rfl) _ _ _ _ (by omega) (by omega) (by omega),Tm];simp only[rJ,sP,sW]
 ·have:=h.sliced i j hij hj;simpa only[sP]using this
theorem VW(a:Option rB)(cap:Nat)(l:List UInt8)(n:Nat)(hn:n<=l.length):∃a1 c1,(∀W,(rT 27 (J a l.length cap) (I (Y tB (n:Int))) G G).run M W=.ok (J a1 (l.length-n) c1) W)∧∀W,Qe W (J a l.length cap) l->Qe W (J a1 (l.length-n) c1) (l.drop n):=by
 refine⟨if cap=n then a else a.map (·.add (n*1)),cap-n,fun W=>?_,fun W h=>?_⟩;·rw[run_slice_l _ _ _ _ _ (by kernel_rfl) _ _ (by omega) (by omega),Tm];simp only[rJ,sP,sW]
 ·have:=h.sliced n l.length hn (sA _);simpa only[sP,sC]using this
theorem D9{ws:List Ze}(hn:ws.length<=1000)(h:∀w∈ws,QC w=0):uJ ws:=⟨by
 omega,fun j hj=>by
 have h0:=h ws[j] (sN hj);rw[show ws[j]=ws.getD j Qr by simp[hj]]at h0;have h2:=(XG _).1 h0;have h3:(ws.getD j Qr).value.length<=32:=by have:=h2.2.2;split at this;(·rw[this];simp);·exact this
 exact⟨by omega,by omega,by omega⟩⟩
theorem De{c:XA}(h:Q9 c=0):Nt c:=by
 obtain⟨h1,h2,h3⟩:=(KT c).1 h;exact⟨by omega,D9 (by omega) h3⟩
def Ik:Prop:=∀(w:F)(v u a b c:H)(l:FL)(t:Tx)(n k m:List UInt8),Zf w v l->Uz l->GW w u t->xI t->Qe w a n->Qe w b k->Qe w c m->n.length<=140737488355328->k.length<=140737488355328->m.length<=140737488355328->sV M 95 #[v,u,a,b,c] w fun e w'=>∃x,e=tD (sE #[x,Y tB (Kw l t n k m)])∧QN 0 w' x (V3 l t n k m)∧L w w' G
def IM:Prop:=∀(w:F)(v u x:H)(l:PL)(f t:List UInt8),Qq w v l->Qe w u f->Qe w x t->uF l->f.length<=140737488355328->t.length<=140737488355328->sV M 131 #[v,u,x] w fun e w'=>∃y,e=tD (sE #[y,Y tB (Yr l f t)])∧QN 0 w' y (KQ l f t)∧L w w' G
def Il:Prop:=∀(w:F)(v r u t:H)(l:FL)(n k m:List UInt8),Zf w v l->Qe w r n->Qe w u k->Qe w t m->Uz l->n.length<=140737488355328->k.length<=140737488355328->m.length<=140737488355328->sV M 108 #[v,r,u,t] w fun e w'=>∃x,e=tD (sE #[x,Y tB (Yu l n k m)])∧QN 0 w' x (Kk l n k m)∧L w w' G
def NY:Prop:=∀(w:F)(v:H)(bs:List UInt8)(i:Int),Qe w v bs->sV M 69 #[v,Y tB i] w fun e w'=>e=tD (sE #[tL (Ap bs i).1,Y tB (Ap bs i).2])∧L w w' G
theorem NY.of(hB:NY)(w:F)(v:H)(k:List UInt8)(i:Nat)(hv:Qe w v k)(hk:1<=k.length∧k.length<=16)(hi:i<145):sV M 69 #[v,Y tB (i:Int)] w fun e w'=>e=tD (sE #[tL (ZL k i),Y tB 0])∧L w w' G:=by
 have:=hB w v k i hv;rw[dN k i hk hi]at this;exact this
def RJ:Prop:=∀(w:F)(v u:H)(a b:List UInt8),Qe w v a->Qe w u b->sV M 72 #[v,u] w fun e w'=>e=tD (sE #[Y tB (F8 a b).1,Y tB (F8 a b).2])∧L w w' G
theorem RJ.of(hP:RJ)(w:F)(v u:H)(a b:List UInt8)(hv:Qe w v a)(hu:Qe w u b)(ha:1<=a.length∧a.length<=16)(hb:1<=b.length∧b.length<=16):sV M 72 #[v,u] w fun e w'=>e=tD (sE #[Y tB (JH a b),Y tB 0])∧L w w' G:=by
 have:=hP w v u a b hv hu;rw[aA a b ha hb]at this;exact this
def SD:Prop:=∀(w:F)(v u:H)(t:Tx)(r:Ze),GW w v t->xI t->Z8 w u r->YM r->sV M 97 #[v,u] w fun e w'=>∃x,e=tD (sE #[x,Y tB (Xg t r)])∧GO w' x (Yv t r)∧L w w' G
def Hg:Prop:=∀(w:F)(v:H)(r:Rq),UD w->Xc w v r->yK r->sV M 96 #[v] w fun e w'=>∃x,e=tD (sE #[x,Y tB (Jm r)])∧Z8 w' x (Xu r)∧L w w' G
def aB:Prop:=∀(w:F)(n t:Int),-9223372036854775808<=n->n<=9223372036854775807->-9223372036854775808<=t->t<=9223372036854775807->sV M 92 #[Y tB n,Y tB t] w fun e w'=>e=tD (tL (ZX n t))∧L w w' G
def cY:Prop:=∀(w:F)(v:H)(b:List UInt8),UD w->Qe w v b->b.length<=140737488355328->sV M 74 #[v] w fun e w'=>∃x,e=tD (sE #[x,Y tB (QK b)])∧Xc w' x (Qu b)∧L w w' G
theorem Ir(b:List UInt8)(n:Nat)(h:n<b.length):Zv (b.drop n)=if n+1+(b.getD n 0).toNat<=b.length then I ((b.take (n+1+(b.getD n 0).toNat)).drop (n+1),b.drop (n+1+(b.getD n 0).toNat))else G:=by
 rw[sS h,Zv,show b[n]=b.getD n 0 by simp[h],pQ];by_cases hc:n+1+(b.getD n 0).toNat<=b.length;·rw[if_pos (by omega),if_pos hc,List.drop_take,List.drop_drop,Nat.add_sub_cancel_left]
 ·rw[if_neg (by omega),if_neg hc]
def Ro(ws:List Ze):Prop:=∀p∈ws,p.name.length<=255∧p.key.length<=255∧p.value.length<=255
theorem C5{ws:List Ze}{p:Ze}(h:Ro ws)(hp:p.name.length<=255∧p.key.length<=255∧p.value.length<=255):Ro (ws++[p]):=fun q hq=>by
 rcases tY.1 hq with hq|hq;·exact h q hq
 ·simp only[tK,tM,or_false]at hq;rw[hq];exact hp
theorem WD{b:List UInt8}(h:4000<b.length):Yy b=1∧JC b=Zl:=by
 have:Yy b=1:=by rw[Yy,if_pos h]
 exact⟨this,by rw[JC,this,if_neg (by decide)]⟩
theorem Sx{b:List UInt8}(h:b.length<4):Yy b=14∧JC b=Zl:=by
 have:Yy b=14:=by rw[Yy,if_neg (by omega),if_pos h]
 exact⟨this,by rw[JC,this,if_neg (by decide)]⟩
theorem Hi{b:List UInt8}(h1:¬4000<b.length)(h2:¬b.length<4)(h:G3 b=G):Yy b=14∧JC b=Zl:=by
 have:Yy b=14:=by rw[Yy,if_neg h1,if_neg h2,h]
 exact⟨this,by rw[JC,this,if_neg (by decide)]⟩
theorem L6{b r:List UInt8}{ws:List Ze}(h1:¬4000<b.length)(h2:¬b.length<4)(h:G3 b=I (ws,r))(hr:r.length≠0):Yy b=4∧JC b=Zl:=by
 have:Yy b=4:=by rw[Yy,if_neg h1,if_neg h2,h];show(if r.length=0then _ else(4:Int))=4;rw[if_neg hr]
 exact⟨this,by rw[JC,this,if_neg (by decide)]⟩
theorem W9{b r:List UInt8}{ws:List Ze}(h1:¬4000<b.length)(h2:¬b.length<4)(h:G3 b=I (ws,r))(hr:r.length=0):Yy b=Q9 ⟨(Gd b:Int),ws⟩∧(Yy b=0->JC b=⟨(Gd b:Int),ws⟩)∧(Yy b≠0->JC b=Zl):=by
 have:Yy b=Q9 ⟨(Gd b:Int),ws⟩:=by rw[Yy,if_neg h1,if_neg h2,h];show(if r.length=0then _ else(4:Int))=_;rw[if_pos hr]
 refine⟨this,fun h0=>?_,fun h0=>?_⟩;·rw[JC,if_pos h0,h]
 ·rw[JC,if_neg h0]
def Xe(k:Int)(m:Nat)(p0 p1 p2 p3 r:List UInt8):Option (Rq×List UInt8):=match m with|0=>X5 k r|1=>Vj k p0 r|2=>Vl k p0 p1 r|3=>Vk k p0 p1 p2 r|_=>I (⟨k,p0,p1,p2,p3⟩,r)
theorem JZ(r:List UInt8):Jg N r=Zv r:=rfl
theorem yU(r:List UInt8)(h:r.length=0):Zv r=G:=by
 rw[tJ h];rfl
theorem uM(r:List UInt8)(h:0<r.length):Zv r=if 1+(r.getD 0 0).toNat<=r.length then I ((r.take (1+(r.getD 0 0).toNat)).drop 1,r.drop (1+(r.getD 0 0).toNat))else G:=by
 have:=Ir r 0 h;rw[sL]at this;exact this
theorem qF(k:Int)(p0 p1 p2 p3 r:List UInt8):(QS k 0=O->Xe k 0 p0 p1 p2 p3 r=Xe k 1 [] p1 p2 p3 r)∧(QS k 1=O->Xe k 1 p0 p1 p2 p3 r=Xe k 2 p0 [] p2 p3 r)∧(QS k 2=O->Xe k 2 p0 p1 p2 p3 r=Xe k 3 p0 p1 [] p3 r)∧(QS k 3=O->Xe k 3 p0 p1 p2 p3 r=Xe k 4 p0 p1 p2 [] r):=by
 refine⟨fun h=>?_,fun h=>?_,fun h=>?_,fun h=>?_⟩;·show X5 k r=Vj k [] r;rw[X5,show QV k=O from h];rfl
 ·show Vj k p0 r=Vl k p0 [] r;rw[Vj,show QV k=O from h];rfl
 ·show Vl k p0 p1 r=Vk k p0 p1 [] r;rw[Vl,show tR (k=3)=O from h];rfl
 ·show Vk k p0 p1 p2 r=I (⟨k,p0,p1,p2,[]⟩,r);rw[Vk,show tR (k=4)=O from h];rfl
theorem Gf(k:Int)(p0 p1 p2 p3 r:List UInt8)(h0:Zv r=G)(m:Nat)(hm:m<4)(h:QS k m=N):Xe k m p0 p1 p2 p3 r=G:=by
 match m,hm with|0,_=>show X5 k r=G;rw[X5,show QV k=N from h,JZ,h0]|1,_=>show Vj k p0 r=G;rw[Vj,show QV k=N from h,JZ,h0]|2,_=>show Vl k p0 p1 r=G;rw[Vl,show tR (k=3)=N from h,JZ,h0]|3,_=>show Vk k p0 p1 p2 r=G;rw[Vk,show tR (k=4)=N from h,JZ,h0]
theorem Gg(k:Int)(p0 p1 p2 p3 r p r2:List UInt8)(h0:Zv r=I (p,r2)):(QS k 0=N->Xe k 0 p0 p1 p2 p3 r=Xe k 1 p p1 p2 p3 r2)∧(QS k 1=N->Xe k 1 p0 p1 p2 p3 r=Xe k 2 p0 p p2 p3 r2)∧(QS k 2=N->Xe k 2 p0 p1 p2 p3 r=Xe k 3 p0 p1 p p3 r2)∧(QS k 3=N->Xe k 3 p0 p1 p2 p3 r=Xe k 4 p0 p1 p2 p r2):=by
 refine⟨fun h=>?_,fun h=>?_,fun h=>?_,fun h=>?_⟩;·show X5 k r=Vj k p r2;rw[X5,show QV k=N from h,JZ,h0]
 ·show Vj k p0 r=Vl k p0 p r2;rw[Vj,show QV k=N from h,JZ,h0]
 ·show Vl k p0 p1 r=Vk k p0 p1 p r2;rw[Vl,show tR (k=3)=N from h,JZ,h0]
 ·show Vk k p0 p1 p2 r=I (⟨k,p0,p1,p2,p⟩,r2);rw[Vk,show tR (k=4)=N from h,JZ,h0]
def WJ(k:Int)(b:List UInt8):Int:=match X5 k b with|none=>14|I (_,x)=>if x.length=0then 0 else 4
def TG(k:Int)(b:List UInt8):Rq:=match X5 k b with|none=>Ga|I (r,x)=>if x.length=0then r else Ga
theorem FX{k:Int}{b:List UInt8}(h:X5 k b=G):WJ k b=14∧TG k b=Ga:=by
 unfold WJ TG;rw[h];exact⟨rfl,rfl⟩
theorem F1{k:Int}{b x:List UInt8}{r:Rq}(h:X5 k b=I (r,x))(hx:0<x.length):WJ k b=4∧TG k b=Ga:=by
 unfold WJ TG;rw[h];exact⟨if_neg (by omega),if_neg (by omega)⟩
theorem FW{k:Int}{b x:List UInt8}{r:Rq}(h:X5 k b=I (r,x))(hx:x.length=0):WJ k b=0∧TG k b=r:=by
 unfold WJ TG;rw[h];exact⟨if_pos hx,if_pos hx⟩
theorem dY{k:Int}{b:List UInt8}(h:WJ k b=0):(TG k b).kind=k:=by
 match hD:X5 k b with|none=>rw[(FX hD).1]at h;cases h|I (r,x)=>by_cases hx:x.length=0;(·rw[(FW hD hx).2];exact(Tw hD).2);·rw[(F1 hD (by omega)).1]at h;cases h
theorem dR{b:List UInt8}(h1:¬4000<b.length)(h2:¬b.length=0)(hk:1<=Us b∧Us b<=8):QK b=(if WJ (Us b) (b.drop 1)=0then X9 (TG (Us b) (b.drop 1))else WJ (Us b) (b.drop 1))∧(QK b=0->Qu b=TG (Us b) (b.drop 1)):=by
 match hD:X5 (Us b) (b.drop 1)with|none=>obtain⟨e1,e2⟩:=FX hD;(have:QK b=14:=by rw[QK,if_neg h1,if_neg h2,if_pos hk,hD]);rw[e1,this];exact⟨rfl,fun h=>by cases h⟩|I (r,x)=>(have hw:QK b=if x.length=0then X9 r else 4:=by rw[QK,if_neg h1,if_neg h2,if_pos hk,hD]);by_cases hx:x.length=0;(·obtain⟨e1,e2⟩:=FW hD hx;rw[if_pos hx]at hw;rw[e1,e2,if_pos rfl];exact⟨hw,fun h=>by rw[Qu,if_pos h,hD]⟩);·obtain⟨e1,e2⟩:=F1 hD (by omega);rw[if_neg hx]at hw;rw[e1,hw];exact⟨rfl,fun h=>by cases h⟩
theorem cX{k:Int}{b:List UInt8}(hb:b.length<=4000):(TG k b).name.length<=4000∧(TG k b).key.length<=4000∧(TG k b).last.length<=4000∧(TG k b).value.length<=4000:=by
 match hD:X5 k b with|none=>rw[(FX hD).2];simp[Ga]|I (r,x)=>by_cases hx:x.length=0;(·rw[(FW hD hx).2];obtain⟨_,r1,r2,r3,h1,h2,h3,h4⟩:=kY hD;(have key:∀{c:Bool}{r p r2:List UInt8},Jg c r=I (p,r2)->p.length<=r.length∧r2.length<=r.length:=by intro c r p r2 h;have hf:=VU h;cases c with|false=>have:=WX h rfl;subst this;rw[hf];exact⟨tQ _,by simp[Xj]⟩|true=>rw[hf];simp[Xj,XJ];omega);have a1:=key h1;have a2:=key h2;have a3:=key h3;have a4:=key h4;omega);·rw[(F1 hD (by omega)).2];simp[Ga]
theorem Mv{w:F}{o:rF}{a:Act}{K:Act->F->Prop}{Q:Exit->Act->F->Prop}(s x:rC)(ho:o.op=.call {callee:=.builtin .append,args:=#[s,x],argTypes:=#[25,25]})(rb:Nat)(v:H)(l:List Ac)(hs:a.eval s=v)(hown:Ud rb w v l)(vd:H)(r:Ac)(h1:Qh 0 w vd r.data)(nb:Nat)(hb:w.heap[nb]?=I (S #[Y tB r.kind,Y tB r.sess,Y tB r.keep,vd] 38))(hx:a.eval x=J (I ⟨nb,0,G⟩) 1 1)(hl:(l.length+1)*48<=140737488355328)(hbase:rb<=w.heap.size)(h:∀v' w',Ud rb w' v' (l++[r])->L w w' v.ownBlock->K (a.put o.dst v') w'):o.wp M a w K Q:=by
 obtain⟨i0,hi,hz0,hz1,hz2⟩:=rV MN;have hrow:v.ownBlock=G∨∃g cur t fz,v.ownBlock=I g∧0<=g∧w.heap[g]?=I (S cur t fz)∧t≠5:=by rcases hown.row with h|⟨g,cur,fz,e,_,h⟩;(·exact .inl h);·exact .inr ⟨g,cur,_,fz,e,tQ _,h,aD⟩
 obtain⟨us,hul,hr,hp⟩:=hown;refine wp_append_lies w s x 25 ho rb 38 i0 (sO #[Y tB 0,Y tB 0,Y tB 0,J G 0 0]) 4 48 Tryz.underlying25 hi hz0 hz1 hz2 rfl (by decide) v l.length (YS us) hs hr ⟨nb,0,G⟩ 1 1 (YS [(r,vd)]) hx rfl (sY (cs:=#[Y tB r.kind,Y tB r.sess,Y tB r.keep,vd]) hb) ?_ (by omega) (by unfold pF;omega) hl hbase _ rfl ?_;·intro u hu;simp only[YS,tN,rA,rG,tK,tM,or_false]at hu;rcases hu with rfl|rfl|rfl|rfl;(·rfl);(·rfl);(·rfl);·exact Zx h1
 ·intro g cap w' q1 q2 _ _;refine h _ w' ⟨us++[(r,vd)],by simp[hul],?_,?_⟩ q2;(·rw[vK,tC];exact q1);·intro y hy;rcases tY.1 hy with hy|hy;(·exact(hp y hy).keptT q2 hrow);·simp only[tK,tM,or_false]at hy;subst hy;exact h1.keptT q2 hrow
theorem Pg{w:F}{ops:Array rF}{rest:List rF}{o:rF}{a:Act}{Q:Exit->Act->F->Prop}(hgd:o.guard=G)(s x:rC)(ho:o.op=.call {callee:=.builtin .append,args:=#[s,x],argTypes:=#[25,25]})(rb:Nat)(v:H)(l:List Ac)(hs:a.eval s=v)(hown:Ud rb w v l)(vd:H)(r:Ac)(h1:Qh 0 w vd r.data)(nb:Nat)(hb:w.heap[nb]?=I (S #[Y tB r.kind,Y tB r.sess,Y tB r.keep,vd] 38))(hx:a.eval x=J (I ⟨nb,0,G⟩) 1 1)(hl:(l.length+1)*48<=140737488355328)(hbase:rb<=w.heap.size)(h:∀v' w',Ud rb w' v' (l++[r])->L w w' v.ownBlock->wpList M ops Q rest (a.put o.dst v') w'):wpList M ops Q (o::rest) a w:=wpList_plain hgd fun _ hK=>Mv s x ho rb v l hs hown vd r h1 nb hb hx hl hbase fun v' w' h1 h2=>hK _ _ (h v' w' h1 h2)
structure Vp where
  rest : List UInt8
  short : Bool
def FA(r:Vp)(n:Nat):List UInt8:=if r.short=N∨r.rest.length<n then[]else r.rest.take n
def Bt(r:Vp)(n:Nat):Vp:=if r.short=N∨r.rest.length<n then⟨r.rest,N⟩else⟨r.rest.drop n,O⟩
theorem F7{r:Vp}{n:Nat}(h:r.short=N∨r.rest.length<n):FA r n=[]∧Bt r n=⟨r.rest,N⟩:=⟨if_pos h,if_pos h⟩
theorem vQ{r:Vp}{n:Nat}(h:¬(r.short=N∨r.rest.length<n)):FA r n=r.rest.take n∧Bt r n=⟨r.rest.drop n,O⟩:=⟨if_neg h,if_neg h⟩
theorem cP(r:Vp)(n:Nat):(FA r n).length<=n:=by
 unfold FA;split;·simp
 ·rw[rX];omega
def Xd(r:Vp):Vp:=Bt r 1
def JE(r:Vp):Nat:=if(Xd r).short=N then 0 else((FA r 1).getD 0 0).toNat
theorem Yg(r:Vp):JE r<256:=by
 unfold JE;split;·omega
 ·exact((FA r 1).getD 0 0).toNat_lt
theorem YU(x:UInt8)(l:List UInt8):Xd ⟨x::l,O⟩=⟨l,O⟩∧JE ⟨x::l,O⟩=x.toNat:=by
 have h:¬((⟨x::l,O⟩:Vp).short=N∨(⟨x::l,O⟩:Vp).rest.length<1):=by simp
 obtain⟨h1,h2⟩:=vQ h;have h3:Xd ⟨x::l,O⟩=⟨l,O⟩:=h2;refine⟨h3,?_⟩;rw[JE,h3,h1,if_neg (by simp)];rfl
theorem Pk{r:Vp}(h:r.short=N)(n:Nat):(Bt r n).short=N:=by
 rw[(F7 (.inl h)).2]
theorem Kh{r:Vp}(h:r.short=N):(Xd r).short=N:=Pk h 1
theorem yO:(Xd ⟨[],O⟩).short=N:=rfl
def Lm(r:Vp):List UInt8:=FA (Xd r) (JE r)
def KM(r:Vp):Vp:=Bt (Xd r) (JE r)
theorem VI{r:Vp}(h:r.short=N):(KM r).short=N:=Pk (Kh h) _
theorem v8{l p l2:List UInt8}(h:Zv l=I (p,l2)):Lm ⟨l,O⟩=p∧KM ⟨l,O⟩=⟨l2,O⟩:=by
 cases l with|nil=>cases h|cons x l=>rw[Zv]at h;obtain⟨h1,h2⟩:=YU x l;unfold Lm KM;rw[h1,h2];by_cases hx:x.toNat<=l.length;(·rw[if_pos hx]at h;simp only[tA,rU]at h;obtain⟨rfl,rfl⟩:=h;exact vQ (by simp;omega));·rw[if_neg hx]at h;cases h
theorem FY{l:List UInt8}(h:Zv l=G):(KM ⟨l,O⟩).short=N:=by
 cases l with|nil=>exact Pk yO _|cons x l=>rw[Zv]at h;obtain⟨h1,h2⟩:=YU x l;unfold KM;rw[h1,h2];by_cases hx:x.toNat<=l.length;(·rw[if_pos hx]at h;cases h);·rw[(F7 (.inr (by show l.length<x.toNat;omega))).2]
theorem Rj(r:Vp):(Lm r).length<=255:=tP (cP _ _) (pR (Yg r))
def F9(r:Vp):Ze:=if JE (KM (KM r))=255then⟨Lm r,Lm (KM r),[],N⟩else⟨Lm r,Lm (KM r),Lm (KM (KM r)),O⟩
def Bn(r:Vp):Vp:=if JE (KM (KM r))=255then Xd (KM (KM r))else KM (KM (KM r))
theorem Cl{r:Vp}(h:r.short=N):(Bn r).short=N:=by
 unfold Bn;split;·exact Kh (VI (VI h))
 ·exact VI (VI (VI h))
theorem Ra{r:Vp}(h:(KM (KM r)).short=N):(Bn r).short=N:=by
 unfold Bn;split;·exact Kh h
 ·exact VI h
theorem dU{l l2:List UInt8}{p:Ze}(h:Jb l=I (p,l2)):F9 ⟨l,O⟩=p∧Bn ⟨l,O⟩=⟨l2,O⟩:=by
 unfold Jb at h;cases h1:Zv l with|none=>rw[h1]at h;cases h|some q=>obtain⟨n,la⟩:=q;rw[h1]at h;have h:MI n la=I (p,l2):=h;unfold MI at h;obtain⟨a1,a2⟩:=v8 h1;cases h2:Zv la with|none=>rw[h2]at h;cases h|some q=>obtain⟨k,lb⟩:=q;rw[h2]at h;have h:uX n k lb=I (p,l2):=h;unfold uX at h;obtain⟨b1,b2⟩:=v8 h2;unfold F9 Bn;rw[a1,a2,b1,b2];cases lb with|nil=>cases h|cons x lb=>obtain⟨c1,c2⟩:=YU x lb;by_cases hx:(x::lb).head?=I 255;(·rw[if_pos hx]at h;simp only[tA,rU]at h;obtain⟨rfl,rfl⟩:=h;have:x=255:=oF hx;subst this;rw[c2,c1,if_pos (by rfl),if_pos (by rfl)];exact⟨rfl,rfl⟩);·rw[if_neg hx]at h;have hne:¬x.toNat=255:=fun e=>hx (by rw[show x=255from pS.1 e];rfl);rw[c2,if_neg hne,if_neg hne];cases h3:Zv (x::lb)with|none=>rw[h3]at h;cases h|some q=>obtain⟨v,lc⟩:=q;rw[h3]at h;simp only[tA,rU]at h;obtain⟨rfl,rfl⟩:=h;obtain⟨d1,d2⟩:=v8 h3;rw[d1,d2];exact⟨rfl,rfl⟩
theorem dD{l:List UInt8}(h:Jb l=G):(Bn ⟨l,O⟩).short=N:=by
 unfold Jb at h;cases h1:Zv l with|none=>exact Ra (VI (FY h1))|some q=>obtain⟨n,la⟩:=q;rw[h1]at h;have h:MI n la=G:=h;unfold MI at h;obtain⟨a1,a2⟩:=v8 h1;cases h2:Zv la with|none=>exact Ra (by rw[a2];exact FY h2)|some q=>obtain⟨k,lb⟩:=q;rw[h2]at h;have h:uX n k lb=G:=h;unfold uX at h;obtain⟨b1,b2⟩:=v8 h2;unfold Bn;rw[a2,b2];cases lb with|nil=>split;(·exact yO);·exact FY rfl|cons x lb=>obtain⟨c1,c2⟩:=YU x lb;by_cases hx:(x::lb).head?=I 255;(·rw[if_pos hx]at h;cases h);·rw[if_neg hx]at h;have hne:¬x.toNat=255:=fun e=>hx (by rw[show x=255from pS.1 e];rfl);rw[c2,if_neg hne];cases h3:Zv (x::lb)with|none=>exact FY h3|some q=>obtain⟨v,lc⟩:=q;rw[h3]at h;cases h
theorem Oq(r:Vp):(F9 r).name.length<=255∧(F9 r).key.length<=255∧(F9 r).value.length<=255:=by
 unfold F9;split;·exact⟨Rj _,Rj _,by simp⟩
 ·exact⟨Rj _,Rj _,Rj _⟩
def UG:Nat->Vp->Vp|0,r=>r|n+1,r=>Bn (UG n r)
def Uw:Nat->Vp->List Ze|0,_=>[]|n+1,r=>Uw n r++[F9 (UG n r)]
theorem MV:∀(n:Nat)(r:Vp),(Uw n r).length=n|0,_=>rfl|n+1,r=>by rw[Uw,tC,MV n r];rfl
theorem Nb:∀(n:Nat)(r:Vp),Ro (Uw n r)|0,_=>fun p hp=>by simp[Uw]at hp|n+1,r=>C5 (Nb n r) (Oq _)
theorem E6:∀(n:Nat){r:Vp},r.short=N->(UG n r).short=N|0,_,h=>h|n+1,_,h=>Cl (E6 n h)
theorem vO:∀(n:Nat){l l2:List UInt8}{ws:List Ze},ZM n l=I (ws,l2)->Uw n ⟨l,O⟩=ws∧UG n ⟨l,O⟩=⟨l2,O⟩|0,l,l2,ws,h=>by rw[ZM]at h;simp only[tA,rU]at h;obtain⟨rfl,rfl⟩:=h;exact⟨rfl,rfl⟩|n+1,l,l2,ws,h=>by rw[xC]at h;cases h1:ZM n l with|none=>rw[h1]at h;cases h|some q=>obtain⟨ws1,l1⟩:=q;rw[h1]at h;have h:(match Jb l1 with|I (w,r2)=>I (ws1++[w],r2)|none=>G)=I (ws,l2):=h;obtain⟨e1,e2⟩:=vO n h1;cases h2:Jb l1 with|none=>rw[h2]at h;cases h|some q=>obtain⟨p,l3⟩:=q;rw[h2]at h;simp only[tA,rU]at h;obtain⟨rfl,rfl⟩:=h;obtain⟨d1,d2⟩:=dU h2;rw[Uw,UG,e1,e2,d1,d2];exact⟨rfl,rfl⟩
theorem Cd:∀(n:Nat){l:List UInt8},ZM n l=G->(UG n ⟨l,O⟩).short=N|0,l,h=>by rw[ZM]at h;cases h|n+1,l,h=>by rw[xC]at h;cases h1:ZM n l with|none=>exact Cl (Cd n h1)|some q=>obtain⟨ws1,l1⟩:=q;rw[h1]at h;have h:(match Jb l1 with|I (w,r2)=>I (ws1++[w],r2)|none=>G)=G:=h;obtain⟨e1,e2⟩:=vO n h1;cases h2:Jb l1 with|none=>rw[UG,e2];exact dD h2|some q=>obtain⟨p,l3⟩:=q;rw[h2]at h;cases h
def Ew(r:Vp):Vp:=UG (JE (Xd (Xd (Xd r)))) (Xd (Xd (Xd (Xd r))))
def EG(r:Vp):XA:=⟨((65536*JE r+256*JE (Xd r)+JE (Xd (Xd r)):Nat):Int),Uw (JE (Xd (Xd (Xd r)))) (Xd (Xd (Xd (Xd r))))⟩
theorem DI(r:Vp):Ro (EG r).writes∧(EG r).writes.length<=255:=⟨Nb _ _,by
 show(Uw _ _).length<=255;rw[MV];exact pR (Yg _)⟩
theorem LU(b:List UInt8)(h:¬b.length<4):JE ⟨b,O⟩=(b.getD 0 0).toNat∧JE (Xd ⟨b,O⟩)=(b.getD 1 0).toNat∧JE (Xd (Xd ⟨b,O⟩))=(b.getD 2 0).toNat∧JE (Xd (Xd (Xd ⟨b,O⟩)))=(b.getD 3 0).toNat∧Xd (Xd (Xd (Xd ⟨b,O⟩)))=⟨b.drop 4,O⟩:=by
 match b,h with|[],h=>exact absurd (by simp) h|[_],h=>exact absurd (by simp) h|[_,_],h=>exact absurd (by simp) h|[_,_,_],h=>exact absurd (by simp) h|x0::x1::x2::x3::b,_=>obtain⟨a1,a2⟩:=YU x0 (x1::x2::x3::b);obtain⟨b1,b2⟩:=YU x1 (x2::x3::b);obtain⟨c1,c2⟩:=YU x2 (x3::b);obtain⟨d1,d2⟩:=YU x3 b;rw[a1,b1,c1,d1];exact⟨a2,b2,c2,d2,rfl⟩
theorem gZ(b:List UInt8)(h:b.length<4):(Ew ⟨b,O⟩).short=N:=by
 unfold Ew;refine E6 _ ?_;match b,h with|[],_=>exact Kh (Kh (Kh yO))|[x],_=>rw[(YU x []).1];exact Kh (Kh yO)|[x,y],_=>rw[(YU x [y]).1,(YU y []).1];exact Kh yO|[x,y,z],_=>rw[(YU x [y,z]).1,(YU y [z]).1,(YU z []).1];exact yO|_::_::_::_::_,h=>exact absurd h (by simp only[sM];omega)
theorem Oj{b:List UInt8}(h0:¬4000<b.length)(h:(Ew ⟨b,O⟩).short=N):Yy b=14∧JC b=Zl:=by
 by_cases h4:b.length<4;·exact Sx h4
 ·obtain⟨_,_,_,e3,e4⟩:=LU b h4;cases hb:G3 b with|none=>exact Hi h0 h4 hb|some q=>obtain⟨ws,l⟩:=q;obtain⟨_,e5⟩:=vO _ hb;unfold Ew at h;rw[e3,e4,e5]at h;cases h
theorem Ds{b:List UInt8}(h:(Ew ⟨b,O⟩).short=O):¬b.length<4∧G3 b=I ((EG ⟨b,O⟩).writes,(Ew ⟨b,O⟩).rest)∧(Gd b:Int)=(EG ⟨b,O⟩).turn:=by
 by_cases h4:b.length<4;·rw[gZ b h4]at h;cases h
 ·obtain⟨e0,e1,e2,e3,e4⟩:=LU b h4;refine⟨h4,?_,?_⟩;(·cases hb:G3 b with|none=>have:=Cd _ hb;unfold Ew at h;rw[e3,e4,this]at h;cases h|some q=>obtain⟨ws,l⟩:=q;obtain⟨e5,e6⟩:=vO _ hb;unfold Ew EG;rw[e3,e4,e5,e6]);·unfold EG;rw[e0,e1,e2];rfl
theorem fG{b:List UInt8}(h0:¬4000<b.length)(h:(Ew ⟨b,O⟩).short=O)(hr:(Ew ⟨b,O⟩).rest.length≠0):Yy b=4∧JC b=Zl:=by
 obtain⟨h4,hb,_⟩:=Ds h;exact L6 h0 h4 hb hr
theorem eQ{b:List UInt8}(h0:¬4000<b.length)(h:(Ew ⟨b,O⟩).short=O)(hr:(Ew ⟨b,O⟩).rest.length=0):Yy b=Q9 (EG ⟨b,O⟩)∧(Yy b=0->JC b=EG ⟨b,O⟩)∧(Yy b≠0->JC b=Zl):=by
 obtain⟨h4,hb,ht⟩:=Ds h;have:=W9 h0 h4 hb hr;rw[ht]at this;exact this
theorem ZD(w:F)(o:Obj):∃W:F,Hid (W=w.alloc o)∧L w W G∧Hid (W.heap[w.heap.size]?=I o):=⟨w.alloc o,rfl,sK _ _ _,oE w o⟩
theorem kD(w:F)(b i:Nat)(u:H):∃W:F,Hid (W=tE w ⟨b,i,G⟩ u)∧L w W (I b):=⟨_,rfl,YF w b i u⟩
theorem lL:(237:Nat)≠5:=by
 decide
theorem fS:(237:Nat)≠178:=by
 decide
theorem Qe.rdr{w w':F}{b:Nat}{a0:Option rB}{n0 c0:Nat}{s:Bool}{t:tX}{v:H}{bs:List UInt8}(h:Qe w v bs)(hb:w.heap[b]?=I (S #[J a0 n0 c0,tL s] t))(hg:L w w' (I b)):Qe w' v bs:=by
 obtain⟨a,cap,rfl,hc,h⟩:=h;refine⟨a,cap,rfl,hc,?_⟩;rcases h with h|⟨pb,o,rfl,h⟩;·exact .inl h
 ·by_cases h0:bs=[];(·exact .inl ⟨h0,fun e=>by cases e⟩);·refine .inr ⟨pb,o,rfl,h.grown hg ?_⟩;intro e;cases e;have hc0:=h 0 (rS.2 h0);simp only[tU,hb,Nat.add_zero]at hc0;match o,hc0 with|0,hc0=>simp at hc0|1,hc0=>simp at hc0|o+2,hc0=>simp at hc0
structure Zc (w0 w : F) (b : Nat) (r : Vp) : Prop where
  at_ : ∃ a cap, w.heap[b]? = I (S #[J a r.rest.length cap, tL r.short] 237) ∧ Qe w0 (J a r.rest.length cap) r.rest
  old : ∃ a n c s, w0.heap[b]? = I (S #[J a n c, tL s] 237)
  grown : L w0 w (I b)
theorem Zc.lt{w0 w:F}{b:Nat}{r:Vp}(h:Zc w0 w b r):b<w.heap.size:=by
 obtain⟨a,cap,h,_⟩:=h.at_;exact(tI.1 h).1
theorem Zc.now{w0 w:F}{b:Nat}{r:Vp}(h:Zc w0 w b r){v:H}{bs:List UInt8}(hv:Qe w0 v bs):Qe w v bs:=by
 obtain⟨a,n,c,s,h0⟩:=h.old;exact hv.rdr h0 h.grown
theorem Zc.row{w0 w:F}{b:Nat}{r:Vp}(h:Zc w0 w b r):I b=G∨∃g cur t fz,I b=I g∧0<=g∧w.heap[g]?=I (S cur t fz)∧t≠5:=by
 obtain⟨a,cap,h,_⟩:=h.at_;exact .inr ⟨b,_,_,_,rfl,tQ _,h,lL⟩
theorem Qh.rdr{w0 w w':F}{b:Nat}{r:Vp}{v:H}{bs:List UInt8}(h:Qh 0 w v bs)(hb:Zc w0 w b r)(hg:L w w' (I b)):Qh 0 w' v bs:=h.keptT hg hb.row
theorem Xl{w w':F}(hg:L w w' G)(r:Option Nat):L w w' r:=⟨hg.os,hg.tape,hg.output,hg.size,fun i hi _=>hg.block i hi (by
 simp)⟩
theorem Zc.kept{w0 w w':F}{b:Nat}{r:Vp}(h:Zc w0 w b r)(hg:L w w' G):Zc w0 w' b r:=by
 have hl:=h.lt;obtain⟨a,cap,h1,hs⟩:=h.at_;exact⟨⟨a,cap,by rw[hg.block b hl (by simp)];exact h1,hs⟩,h.old,Qa h.grown (Xl hg _)⟩
theorem Xa{w w':F}{b:Nat}(hg:L w w' (I b)){c:Nat}{o:Obj}(hc:w.heap[c]?=I o)(hne:c≠b):w'.heap[c]?=I o:=by
 rw[hg.block c (tI.1 hc).1 (by simpa using hne)];exact hc
theorem Zc.apart{w0 w w':F}{b:Nat}{r:Vp}(h:Zc w0 w b r){c:Nat}(hne:b≠c)(hc:w0.heap.size<=c)(hg:L w w' (I c)):Zc w0 w' b r:=by
 have hl:=h.lt;obtain⟨a,cap,h1,hs⟩:=h.at_;exact⟨⟨a,cap,by rw[hg.block b hl (by simpa using hne)];exact h1,hs⟩,h.old,Jy h.grown hc hg⟩
theorem QZ.rdr{rb:Nat}{w0 w w':F}{b:Nat}{r:Vp}{v:H}{l:List Ze}(h:QZ rb 0 w v l)(hb:Zc w0 w b r)(hg:L w w' (I b)):QZ rb 0 w' v l:=by
 obtain⟨a,cap,h0,_⟩:=hb.at_;exact h.kept hg (.inr (h.ne h0 fS)) hb.row
theorem Zc.ownV{rb:Nat}{w0 w w':F}{b:Nat}{r:Vp}{v:H}{l:List Ze}(h:Zc w0 w b r)(ho:QZ rb 0 w v l)(hb:w0.heap.size<=rb)(hg:L w w' v.ownBlock):Zc w0 w' b r:=by
 obtain⟨a,cap,h1,hs⟩:=h.at_;have hne:=ho.ne h1 fS;cases hv:v.ownBlock with|none=>rw[hv]at hg;exact h.kept hg|some g=>rw[hv]at hg hne;exact h.apart (c:=g) (fun e=>hne (by rw[e])) (tP hb (ho.lt g hv).1) hg
section
open Go.ChangeShapes Go.WideShapes Go.ChangeAt Go.RowKit
theorem own:ownKnob M.godebug=G:=by
 kernel_rfl
theorem Lh:laidOutB M=N:=by
 kernel_rfl
theorem YZ{n:Int}(h:(Lit.int tB n).wf=N):-9223372036854775808<=n∧n<=9223372036854775807:=bounds_i64 h
theorem O8{w w':F}(h:L w w' G):Below w.heap.size w w':=⟨h.os,h.tape,h.output,h.size,fun k hk=>h.block k hk (by
 simp)⟩
end
structure zZ(g:Gr):Prop where kind:-9223372036854775808<=g.kind∧g.kind<=9223372036854775807sess:-9223372036854775808<=g.sess∧g.sess<=9223372036854775807name:-9223372036854775808<=g.name∧g.name<=9223372036854775807key:-9223372036854775808<=g.key∧g.key<=9223372036854775807value:-9223372036854775808<=g.value∧g.value<=9223372036854775807
def cI(w:F)(b o:Nat)(g:Gr):Prop:=w.cell? ⟨b,o,G⟩=I (Y tB g.kind)∧w.cell? ⟨b,o+1,G⟩=I (Y tB g.sess)∧w.cell? ⟨b,o+2,G⟩=I (Y tB g.name)∧w.cell? ⟨b,o+3,G⟩=I (Y tB g.key)∧w.cell? ⟨b,o+4,G⟩=I (Y tB g.value)
theorem cI.grown{w w':F}{b o:Nat}{g:Gr}(h:cI w b o g)(hg:L w w' G):cI w' b o g:=⟨hg.cell h.1 (by
 simp),hg.cell h.2.1 (by
 simp),hg.cell h.2.2.1 (by
 simp),hg.cell h.2.2.2.1 (by
 simp),hg.cell h.2.2.2.2 (by
 simp)⟩
def Ut(w:F)(v:H)(l:List Gr):Prop:=∃a cap,v=J a l.length cap∧l.length<=cap∧(l=[]∨∃b o,a=I ⟨b,o,G⟩∧∀i,i<l.length->cI w b (o+i*5) (l.getD i kS))
theorem Ut.shape{w:F}{v:H}{l:List Gr}(h:Ut w v l):∃a cap,v=J a l.length cap:=by
 obtain⟨a,cap,rfl,_⟩:=h;exact⟨a,cap,rfl⟩
theorem Ut.grown{w w':F}{v:H}{l:List Gr}(h:Ut w v l)(hg:L w w' G):Ut w' v l:=by
 obtain⟨a,cap,rfl,hc,h⟩:=h;refine⟨a,cap,rfl,hc,?_⟩;rcases h with h|⟨b,o,rfl,h⟩;·exact .inl h
 ·exact .inr ⟨b,o,rfl,fun i hi=>(h i hi).grown hg⟩
theorem Ut.at{w:F}{a:Option rB}{n cap:Nat}{l:List Gr}(h:Ut w (J a n cap) l)(i:Nat)(hi:i<l.length):∃b o,a=I ⟨b,o,G⟩∧cI w b (o+i*5) (l.getD i kS):=by
 obtain⟨a',cap',e,_,h⟩:=h;simp only[tH]at e;obtain⟨rfl,_,_⟩:=e;rcases h with rfl|⟨b,o,rfl,h⟩;·simp at hi
 ·exact⟨b,o,rfl,h i hi⟩
def Bb(l:List Gr):Prop:=∀g∈l,zZ g
theorem MS{l:List Gr}{m:Nat}(h:m<l.length):Ya l (m+1)=Ya l m++[Ei (l.getD m kS)]:=by
 unfold Ya;rw[List.take_add_one,List.map_append];simp[h]
theorem C9(l:List Gr)(m:Nat):(Ya l m).length=min m l.length:=by
 simp[Ya]
def IA:Prop:=∀(w:F)(v:H)(t:V9),KV w v t->xX t->sV M 66 #[v] w fun e w'=>∃x,e=tD (sE #[x,Y tB (Rm t)])∧Yn w' x (Kn t)∧L w w' G
def AS:Prop:=∀(w:F)(v:H)(t:V9)(keep:Int),KV w v t->xX t->-9223372036854775808<=keep->keep<=9223372036854775807->sV M 84 #[v,Y tB keep] w fun e w'=>∃x,e=tD (sE #[x,Y tB (Up t keep)])∧Yn w' x (Xn t keep)∧L w w' G
theorem EF:(80:Nat)≠5:=by
 decide
theorem LG:(80:Nat)≠178:=by
 decide
theorem Ey:(80:Nat)≠188:=by
 decide
def Iv:Prop:=∀(w:F)(v:H)(a:Ac),Hz w v a->AU a->sV M 27 #[v] w fun e w'=>e=tD (Y tB (YX a))∧L w w' G
theorem Ok(s q:Int)(d:List UInt8):YX ⟨1,s,q,d⟩=if 0<=s∧s<=7then(if 4000<d.length then 1 else if q=0then 0 else 4)else 2:=by
 unfold YX;rw[if_pos (by show(1:Int)<=1∧(1:Int)<=4;omega)];by_cases h1:0<=s∧s<=7;·rw[if_pos h1,if_neg (by rintro(⟨_,h⟩|⟨h,_⟩);exact h h1;cases h)];by_cases h2:4000<d.length;(·rw[if_pos h2,if_pos h2]);·rw[if_neg h2,if_neg h2];by_cases h3:q=0;(·rw[if_pos h3,if_neg];rintro(⟨h,_⟩|⟨_,h⟩|⟨h,_⟩);(·exact h rfl);(·exact h h3);·exact h rfl);·rw[if_neg h3,if_pos (.inr (.inl ⟨by show(1:Int)≠3;decide,h3⟩))]
 ·rw[if_neg h1,if_pos (.inl ⟨rfl,h1⟩)]
theorem So(s q:Int)(d:List UInt8):YX ⟨3,s,q,d⟩=if 0<=q∧q<=200000then(if 4000<d.length then 1 else if s=0then(if 0<d.length then 4 else 0)else 4)else 2:=by
 unfold YX;rw[if_pos (by show(1:Int)<=3∧(3:Int)<=4;omega)];by_cases h1:0<=q∧q<=200000;·rw[if_pos h1,if_neg (by rintro(⟨h,_⟩|⟨_,h⟩);cases h;exact h h1)];by_cases h2:4000<d.length;(·rw[if_pos h2,if_pos h2]);·rw[if_neg h2,if_neg h2];by_cases h3:s=0;(·rw[if_pos h3];by_cases h4:0<d.length;(·rw[if_pos h4,if_pos (.inr (.inr ⟨by show(3:Int)≠1;decide,h4⟩))]);·rw[if_neg h4,if_neg];rintro(⟨_,h⟩|⟨h,_⟩|⟨_,h⟩);(·exact h h3);(·exact h rfl);·exact h4 h);·rw[if_neg h3,if_pos (.inl ⟨by show(3:Int)≠1;decide,h3⟩)]
 ·rw[if_neg h1,if_pos (.inr ⟨rfl,h1⟩)]
theorem Bi(k s q:Int)(d:List UInt8)(hk:k=2∨k=4):YX ⟨k,s,q,d⟩=if 4000<d.length then 1 else if s=0then(if q=0then(if 0<d.length then 4 else 0)else 4)else 4:=by
 unfold YX;have k1:¬k=1:=by omega
 have k3:¬k=3:=by omega
 rw[if_pos (by show 1<=k∧k<=4;omega),if_neg (by rintro(⟨h,_⟩|⟨h,_⟩);exact k1 h;exact k3 h)];by_cases h2:4000<d.length;·rw[if_pos h2,if_pos h2]
 ·rw[if_neg h2,if_neg h2];by_cases h3:s=0;(·rw[if_pos h3];by_cases h5:q=0;(·rw[if_pos h5];by_cases h4:0<d.length;(·rw[if_pos h4,if_pos (.inr (.inr ⟨k1,h4⟩))]);·rw[if_neg h4,if_neg];rintro(⟨_,h⟩|⟨_,h⟩|⟨_,h⟩);(·exact h h3);(·exact h h5);·exact h4 h);·rw[if_neg h5,if_pos (.inr (.inl ⟨k3,h5⟩))]);·rw[if_neg h3,if_pos (.inl ⟨k1,h3⟩)]
def XP(r:Rq):Nat->List UInt8|0=>[sR r.kind.toNat]|1=>[sR r.kind.toNat]++Xj (QS r.kind 0) r.name|2=>[sR r.kind.toNat]++Xj (QS r.kind 0) r.name++Xj (QS r.kind 1) r.key|3=>[sR r.kind.toNat]++Xj (QS r.kind 0) r.name++Xj (QS r.kind 1) r.key++Xj (QS r.kind 2) r.last|_=>[sR r.kind.toNat]++Xj (QS r.kind 0) r.name++Xj (QS r.kind 1) r.key++Xj (QS r.kind 2) r.last++Xj (QS r.kind 3) r.value
theorem Wy(r:Rq):XP r 4=J9 r:=by
 show[sR r.kind.toNat]++Xj (QV r.kind) r.name++Xj (QV r.kind) r.key++Xj (tR (r.kind=3)) r.last++Xj (tR (r.kind=4)) r.value=_;rw[J9,zO];simp[List.append_assoc]
theorem Hn{r:Rq}(h:Ys r)(m:Nat):(XP r m).length<=200:=by
 have k1:r.name.length<=8:=by by_cases e:QV r.kind=N;(·exact(h.name e).2);·rw[h.noName (by simpa using e)];simp
 have k2:r.key.length<=16:=by by_cases e:QV r.kind=N;(·exact(h.key e).2);·rw[h.noKey (by simpa using e)];simp
 have k3:r.last.length<=16:=by by_cases e:r.kind=3;(·exact(h.last e).2);·rw[h.noLast e];simp
 have k4:=h.value;have l1:=K2 (QS r.kind 0) r.name;have l2:=K2 (QS r.kind 1) r.key;have l3:=K2 (QS r.kind 2) r.last;have l4:=K2 (QS r.kind 3) r.value;match m with|0=>simp[XP]|1=>simp only[XP,tC,tZ];omega|2=>simp only[XP,tC,tZ];omega|3=>simp only[XP,tC,tZ];omega|m+4=>simp only[XP,tC,tZ];omega
end Go.Proofs.YtieoehicoocpjaaGreatDoor
