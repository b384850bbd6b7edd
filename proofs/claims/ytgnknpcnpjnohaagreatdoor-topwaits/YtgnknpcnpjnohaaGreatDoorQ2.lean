/-
  Texts of this proof, joined, with few blanks: AcM0, PairM0, PairB, WrMem, CmtMem, TapeA, TapeB, TapeK, HistF, HistC, TxnF, TxnG, SrvF, SrvI, SrvO, TopF, TenMem, CmtSet, RdMem, StepMem, SvK, SvG, CmtTy, CmtRow, CmtRowD, TxNote, TxM, TxnL, TxCheck, TCCheck, PairStepQ, PairSlice, FCCheck, FCApply, TxMs, RqRd, WrCkF, TxLook, FindM, SrvS, SrvL, SrvM, SrvN, TxClash, TpEnc, TpCheck, BSlice, CmtFit, TxScan, TCRange, FCRange, BitC, PartC, TxWrite, RqWt, HsKept, RqDe, TapeH, WrDtF, SrvT, AcMem, DurF, RdrF, RdrMem, FrameB, GearM, TpSync, TpCrash, TapTy, LnCk, LineH, WrEnF.
-/
import Derived.Deep.AppendLies
import Derived.Test.YtgnknpcnpjnohaaGreatDoorQ1
import Derived.Maps.AppendAt
import Derived.Deep.RegionWith
import Derived.Handy
import Derived.ProofKit
import Derived.OpenShut
import Derived.ShutString
import Derived.ChangeOld
import Derived.Deep.DeepHandedRow
import Derived.SizedLaws
import Derived.Test.YtgnknpcnpjnohaaGreatDoorRows
set_option maxRecDepth 100000
set_option maxHeartbeats 8000000
open Array renaming getElem?_eq_some_iff->tK,getElem?_modify->sC,getElem?_toList->pE
open Bool renaming true->M,false->N,and_eq_true->rP,or_eq_false_iff->rT,false_or->pS
open Classical renaming byContradiction->sY
open Decidable renaming decide->tV
open Go renaming World->F,Value->H,TypeId->sE,undef->sP,sliced->sW,Calls->rA,Addr->rF,Operand->rJ,Oper->rM,info_parts->r7,maxLen->pB,yielded->pH,heap_alloc_new->oL
open Go.Addr.mk renaming injEq->rO
open Go.Ending renaming returned->tG
open Go.Instr renaming slice->rX
open Go.IntKind renaming i64->tD,u8->pD
open Go.Obj renaming cells->Y
open Go.Obj.cells renaming injEq->sD
open Go.Proofs.Tryz renaming prog->O
open Go.Region renaming wanted->sJ
open Go.Result renaming andThen->rN
open Go.Value renaming slice->J,int->tA,bool->tQ,tuple->sN,agg->sX,ownBlock->pP
open Go.Value.slice renaming injEq->tJ
open Go.World renaming grownBy->L,setCell->tH,cell?->tY,cell?_of_block->sQ,ownsRow_nil->sR,grownBy_alloc->sS,news_of_block->rC,frozen?->r8,cell?_setCell_same'->pR
open Go.World.ownsRow renaming kept->sB,lt->sL
open Int renaming toNat_natCast->sM,emod_lt_of_pos->pZ,emod_nonneg->oI
open List renaming length_append->tC,append_nil->tE,mem_cons->tL,eq_nil_of_length_eq_zero->tM,not_mem_nil->tN,flatMap_cons->tP,mem_cons_of_mem->tS,mem_cons_self->tU,mem_append->tZ,foldl_cons->sA,length_cons->sF,take_length->sG,length_singleton->sH,getElem?_take->sI,getElem?_eq_some_iff->sO,getElem_mem->sV,drop_eq_getElem_cons->sZ,take_succ_eq_append_getElem->rB,pairwise_cons->rD,any_eq_true->rG,length_take->rH,flatMap_nil->rI,take_succ_cons->rK,length_set->rU,length_pos_iff->rW,append_assoc->pA,take_append_drop->pF,take_take->pG,any_cons->pJ,map_cons->pK,take_set->pL,length_nil->pN,nil_append->pO,foldl_nil->pQ,getElem?_append_left->pT,take_of_length_le->pU,getElem?_append->pV,drop_succ_cons->pW,set_cons_succ->pX,nodup_append->pY,cons_append->oC,length_drop->oD,nodup_cons->oG,mem_filter->oH,drop_zero->oJ
open Nat renaming lt_of_lt_of_le->tI,le_trans->tR,zero_le->tW,le_refl->tX,zero_add->sU,min_eq_left->rV,succ_mul->pC,mul_le_mul_right->pI,sub_zero->pM,le_of_lt_succ->oE,sub_self->oK
open Option renaming none->G,some->I,map_some->rS
open Option.some renaming injEq->tB,inj->oM
open Prod.mk renaming injEq->rY
open UInt8 renaming ofNat->sK,toNat_inj->oF
namespace Go.Proofs.YtgnknpcnpjnohaaGreatDoor
open Go.RowKit
def Wo(w:F)(v:H)(a:Ac):Prop:=∃vd,v=sX #[tA tD a.kind,tA tD a.sess,tA tD a.keep,vd]∧Qe w vd a.data
theorem Wo.grown{w w':F}{v:H}{a:Ac}(h:Wo w v a)(hg:L w w' G):Wo w' v a:=by
 obtain⟨vd,rfl,h1⟩:=h;exact⟨vd,rfl,h1.grown hg⟩
theorem Wo.agg{w:F}{v:H}{a:Ac}(h:Wo w v a):∃da dc,v=sX #[tA tD a.kind,tA tD a.sess,tA tD a.keep,J da a.data.length dc]∧Qe w (J da a.data.length dc) a.data:=by
 obtain⟨vd,rfl,h1⟩:=h;obtain⟨da,dc,rfl⟩:=h1.shape;exact⟨da,dc,rfl,h1⟩
def Bb(w:F)(b o:Nat)(a:Ac):Prop:=∃vd,w.cell? ⟨b,o,G⟩=I (tA tD a.kind)∧w.cell? ⟨b,o+1,G⟩=I (tA tD a.sess)∧w.cell? ⟨b,o+2,G⟩=I (tA tD a.keep)∧w.cell? ⟨b,o+3,G⟩=I vd∧Qe w vd a.data
theorem Bb.grown{w w':F}{b o:Nat}{a:Ac}(h:Bb w b o a)(hg:L w w' G):Bb w' b o a:=by
 obtain⟨vd,c1,c2,c3,c4,h1⟩:=h;exact⟨vd,hg.cell c1 (by simp),hg.cell c2 (by simp),hg.cell c3 (by simp),hg.cell c4 (by simp),h1.grown hg⟩
def Yg(w:F)(v:H)(l:List Ac):Prop:=∃a cap,v=J a l.length cap∧l.length<=cap∧((l=[]∧(a=G->cap=0))∨∃b o,a=I ⟨b,o,G⟩∧∀i,i<l.length->Bb w b (o+i*4) (l.getD i UE))
theorem R6(w:F):Yg w (J G 0 0) []:=⟨G,0,rfl,tX _,.inl ⟨rfl,fun _=>rfl⟩⟩
theorem Yg.shape{w:F}{v:H}{l:List Ac}(h:Yg w v l):∃a cap,v=J a l.length cap:=by
 obtain⟨a,cap,rfl,_⟩:=h;exact⟨a,cap,rfl⟩
theorem Yg.grown{w w':F}{v:H}{l:List Ac}(h:Yg w v l)(hg:L w w' G):Yg w' v l:=by
 obtain⟨a,cap,rfl,hc,h⟩:=h;refine⟨a,cap,rfl,hc,?_⟩;rcases h with h|⟨b,o,rfl,h⟩;·exact .inl h
 ·exact .inr ⟨b,o,rfl,fun i hi=>(h i hi).grown hg⟩
theorem Yg.at{w:F}{a:Option rF}{n cap:Nat}{l:List Ac}(h:Yg w (J a n cap) l)(i:Nat)(hi:i<l.length):∃b o,a=I ⟨b,o,G⟩∧Bb w b (o+i*4) (l.getD i UE):=by
 obtain⟨a',cap',e,hc,h⟩:=h;simp only[tJ]at e;obtain⟨rfl,rfl,rfl⟩:=e;rcases h with⟨rfl,_⟩|⟨b,o,rfl,h⟩;·simp at hi
 ·exact⟨b,o,rfl,h i hi⟩
structure Sf(a:Ac):Prop where kind:-9223372036854775808<=a.kind∧a.kind<=9223372036854775807sess:-9223372036854775808<=a.sess∧a.sess<=9223372036854775807keep:-9223372036854775808<=a.keep∧a.keep<=9223372036854775807data:a.data.length<=140737488355328
structure Ru (l : List Ac) : Prop where
  many : l.length * 48 <= 140737488355328
  each : ∀ i, i < l.length -> Sf (l.getD i UE)
theorem LU{a:Ac}(h:XH a):Sf a:=by
 have h0:=h.kind;have h1:=h.data;have h2:0<=a.sess∧a.sess<=7:=by by_cases e:a.kind=1;(·exact h.sess e);·rw[h.noSess e];omega
 have h3:0<=a.keep∧a.keep<=200000:=by by_cases e:a.kind=3;(·exact h.keep e);·rw[h.noKeep e];omega
 exact⟨by omega,by omega,by omega,by omega⟩
abbrev AV:=Ac×H
def Ss:AV:=(UE,sP)
def Y6(us:List AV):List H:=us.flatMap fun x=>[tA tD x.1.kind,tA tD x.1.sess,tA tD x.1.keep,x.2]
theorem yU(us:List AV):(Y6 us).length=us.length*4:=by
 induction us with|nil=>rfl|cons x us ih=>rw[Y6,tP,tC,<-Y6,ih,sF];simp;omega
theorem vN(a b:List AV):Y6 (a++b)=Y6 a++Y6 b:=by
 simp[Y6]
theorem N8:∀(us:List AV)(i:Nat),i<us.length->(Y6 us)[i*4]?=I (tA tD (us.getD i Ss).1.kind)∧(Y6 us)[i*4+1]?=I (tA tD (us.getD i Ss).1.sess)∧(Y6 us)[i*4+2]?=I (tA tD (us.getD i Ss).1.keep)∧(Y6 us)[i*4+3]?=I (us.getD i Ss).2|[],i,h=>by simp at h|x::us,0,_=>⟨rfl,rfl,rfl,rfl⟩|x::us,i+1,h=>by have:=N8 us i (by simpa using h);rw[show(i+1)*4=i*4+4by omega];exact this
theorem aY:(39:Nat)≠5:=by
 decide
def Jp(rb:Nat)(w:F)(v:H)(l:List Ac):Prop:=∃us:List AV,us.map (·.1)=l∧w.ownsRow rb 39 4 v l.length (Y6 us)∧∀x∈us,Qi 0 w x.2 x.1.data
theorem OK(rb:Nat)(w:F):Jp rb w (J G 0 0) []:=⟨[],rfl,sR _ _ _ _,fun x hx=>by
 simp at hx⟩
theorem Jp.row{rb:Nat}{w:F}{v:H}{l:List Ac}(h:Jp rb w v l):v.ownBlock=G∨∃g cur fz,v.ownBlock=I g∧rb<=g∧w.heap[g]?=I (Y cur 39 fz):=by
 obtain⟨us,_,h,_⟩:=h;rcases h.2with⟨rfl,_⟩|⟨g,cap,cur,rfl,hb,hg,_⟩;·exact .inl rfl
 ·exact .inr ⟨g,cur,_,rfl,hb,hg⟩
theorem Jp.lt{rb:Nat}{w:F}{v:H}{l:List Ac}(h:Jp rb w v l):∀k,v.ownBlock=I k->rb<=k∧k<w.heap.size:=by
 obtain⟨us,_,h,_⟩:=h;exact sL h
theorem Jp.grownNone{rb:Nat}{w w':F}{v:H}{l:List Ac}(h:Jp rb w v l)(hg:L w w' G):Jp rb w' v l:=by
 obtain⟨us,h1,h2,h3⟩:=h;refine⟨us,h1,sB h2 hg ?_,fun x hx=>(h3 x hx).keptT hg (.inl rfl)⟩;cases hv:v.ownBlock with|none=>exact .inl rfl|some k=>exact .inr (by simp)
theorem Jp.alloc{rb:Nat}{w:F}{v:H}{l:List Ac}(h:Jp rb w v l)(o:Obj):Jp rb (w.alloc o) v l:=h.grownNone (sS _ _ _)
theorem Jp.shape{rb:Nat}{w:F}{v:H}{l:List Ac}(h:Jp rb w v l):∃a cap,v=J a l.length cap:=by
 obtain⟨us,_,h,_⟩:=h;rcases h.2with⟨rfl,h0⟩|⟨g,cap,cur,rfl,_⟩;·exact⟨G,0,by rw[h0]⟩
 ·exact⟨_,cap,rfl⟩
theorem Wx{us:List AV}{l:List Ac}(h:us.map (·.1)=l)(i:Nat)(hi:i<l.length):(us.getD i Ss).1=l.getD i UE∧us.getD i Ss∈us:=by
 subst h;have hi':i<us.length:=by simpa using hi
 refine⟨by simp[hi'],?_⟩;rw[show us.getD i Ss=us[i]by simp[hi']];exact sV hi'
theorem Jp.list{rb:Nat}{w:F}{v:H}{l:List Ac}(h:Jp rb w v l):Yg w v l:=by
 obtain⟨us,hl,hr,h3⟩:=h;rcases hr.2with⟨rfl,h0⟩|⟨g,cap,cur,rfl,hb,hg,hn,hm,hs,ht⟩;·have:l=[]:=tM h0;rw[this];exact R6 w
 ·(have hcell:∀j u,(Y6 us)[j]?=I u->w.cell? ⟨g,j,G⟩=I u:=by intro j u hj;(have hlt:j<l.length*4:=by have:=(sO.1 hj).1;rw[hr.1]at this;exact this);(have e2:(cur.toList.take (l.length*4))[j]?=(Y6 us)[j]?:=by rw[ht]);rw[sI,if_pos hlt,hj]at e2;simp[tY,hg];simpa using e2);refine⟨_,cap,rfl,hn,.inr ⟨g,0,rfl,fun i hi=>?_⟩⟩;obtain⟨e1,e2⟩:=Wx hl i hi;(have hlen:us.length=l.length:=by rw[<-hl];simp);obtain⟨c1,c2,c3,c4⟩:=N8 us i (by omega);have hp:=h3 _ e2;rw[e1]at c1 c2 c3 hp;rw[sU];exact⟨_,hcell _ _ c1,hcell _ _ c2,hcell _ _ c3,hcell _ _ c4,hp.1⟩
theorem Ts{rb:Nat}{w W w1:F}{v:H}{l:List Ac}(h:L w W G)(ho:Jp rb W v l)(hb:w.heap.size<=rb)(hg:L W w1 v.ownBlock):L w w1 G:=⟨hg.os.trans h.os,hg.tape.trans h.tape,hg.output.trans h.output,tR h.size hg.size,fun i hi hn=>(hg.block i (tI hi h.size) (fun e=>by
 have:=(ho.lt i e.symm).1;omega)).trans (h.block i hi hn)⟩
theorem M7:(O.info? 39).map (fun i=>(i.zero,i.size,i.bytes))=I (I (sX #[tA tD 0,tA tD 0,tA tD 0,J G 0 0]),4,48):=by
 kernel_rfl
def PY(w:F)(v:H)(p:Pr):Prop:=∃vk vv,v=sX #[vk,vv]∧Qe w vk p.1∧Qe w vv p.2
theorem PY.grown{w w':F}{v:H}{p:Pr}(h:PY w v p)(hg:L w w' G):PY w' v p:=by
 obtain⟨vk,vv,rfl,h1,h2⟩:=h;exact⟨vk,vv,rfl,h1.grown hg,h2.grown hg⟩
def P7(w:F)(b o:Nat)(p:Pr):Prop:=∃vk vv,w.cell? ⟨b,o,G⟩=I vk∧w.cell? ⟨b,o+1,G⟩=I vv∧Qe w vk p.1∧Qe w vv p.2
theorem P7.grown{w w':F}{b o:Nat}{p:Pr}(h:P7 w b o p)(hg:L w w' G):P7 w' b o p:=by
 obtain⟨vk,vv,c1,c2,h1,h2⟩:=h;exact⟨vk,vv,hg.cell c1 (by simp),hg.cell c2 (by simp),h1.grown hg,h2.grown hg⟩
def Qr(w:F)(v:H)(l:PL):Prop:=∃a cap,v=J a l.length cap∧l.length<=cap∧((l=[]∧(a=G->cap=0))∨∃b o,a=I ⟨b,o,G⟩∧∀i,i<l.length->P7 w b (o+i*2) (l.getD i ([],[])))
theorem Yo(w:F):Qr w (J G 0 0) []:=⟨G,0,rfl,tX _,.inl ⟨rfl,fun _=>rfl⟩⟩
theorem Qr.grown{w w':F}{v:H}{l:PL}(h:Qr w v l)(hg:L w w' G):Qr w' v l:=by
 obtain⟨a,cap,rfl,hc,h⟩:=h;refine⟨a,cap,rfl,hc,?_⟩;rcases h with h|⟨b,o,rfl,h⟩;·exact .inl h
 ·exact .inr ⟨b,o,rfl,fun i hi=>(h i hi).grown hg⟩
theorem Qr.shape{w:F}{v:H}{l:PL}(h:Qr w v l):∃a cap,v=J a l.length cap:=by
 obtain⟨a,cap,rfl,_⟩:=h;exact⟨a,cap,rfl⟩
theorem Qr.at{w:F}{a:Option rF}{n cap:Nat}{l:PL}(h:Qr w (J a n cap) l)(i:Nat)(hi:i<l.length):∃b o,a=I ⟨b,o,G⟩∧P7 w b (o+i*2) (l.getD i ([],[])):=by
 obtain⟨a',cap',e,hc,h⟩:=h;simp only[tJ]at e;obtain⟨rfl,rfl,rfl⟩:=e;rcases h with⟨rfl,_⟩|⟨b,o,rfl,h⟩;·simp at hi
 ·exact⟨b,o,rfl,h i hi⟩
theorem Qi.kept{base:Nat}{w w':F}{v:H}{bs:List UInt8}(h:Qi base w v bs){row:Option Nat}(hg:L w w' row)(hrow:row=G∨∃g cur fz,row=I g∧base<=g∧w.heap[g]?=I (Y cur 44 fz)):Qi base w' v bs:=by
 obtain⟨hs,ho⟩:=h;rcases ho with rfl|⟨b,hb,hlt,hc⟩;·obtain⟨a,cap,rfl,hc,h⟩:=hs;refine⟨⟨a,cap,rfl,hc,?_⟩,.inl rfl⟩;rcases h with h|⟨b,o,rfl,h⟩;(·exact .inl h);·exact .inr ⟨b,o,rfl,fun i hi=>by simp at hi⟩
 ·(have hne:I b≠row:=by intro e;rcases hrow with rfl|⟨g,cur,fz,rfl,hbg,hgc⟩;(·cases e);·cases e;rcases hc with hc|⟨cur2,fz2,hc⟩;(·omega);·rw[hc]at hgc;simp at hgc);have hblk:=hg.block b hlt hne;refine⟨?_,.inr ⟨b,hb,tI hlt hg.size,?_⟩⟩;(·obtain⟨a,cap,rfl,hcp,h⟩:=hs;refine⟨a,cap,rfl,hcp,?_⟩;rcases h with h|⟨b',o,rfl,h⟩;(·exact .inl h);·refine .inr ⟨b',o,rfl,fun i hi=>?_⟩;simp[pP]at hb;subst hb;exact hg.cell (h i hi) (by simpa using hne));·rcases hc with hc|⟨cur,fz,hc⟩;(·exact .inl hc);·exact .inr ⟨cur,fz,by rw[hblk];exact hc⟩
def flat(vs:List (H×H)):List H:=vs.flatMap fun x=>[x.1,x.2]
theorem KI(vs:List (H×H)):(flat vs).length=vs.length*2:=by
 induction vs with|nil=>rfl|cons x r ih=>simp only[flat,tP,tC,sF,pN]at ih⊢;omega
theorem J6(a b:List (H×H)):flat (a++b)=flat a++flat b:=by
 simp[flat]
theorem xU:∀(vs:List (H×H))(i:Nat),i<vs.length->(flat vs)[i*2]?=I (vs.getD i (sP,sP)).1∧(flat vs)[i*2+1]?=I (vs.getD i (sP,sP)).2|[],i,h=>by simp at h|x::r,0,_=>by simp[flat]|x::r,i+1,h=>by have:=xU r i (by simpa using h);rw[show(i+1)*2=i*2+2by omega,show i*2+2+1=(i*2+1)+2by omega];simpa[flat]using this
def GD(base:Nat)(w:F)(v:H)(l:PL):Prop:=∃vs:List (H×H),vs.length=l.length∧w.ownsRow base 44 2 v l.length (flat vs)∧∀i,i<l.length->Qi base w (vs.getD i (sP,sP)).1 (l.getD i ([],[])).1∧Qi base w (vs.getD i (sP,sP)).2 (l.getD i ([],[])).2
theorem GD.row{base:Nat}{w:F}{v:H}{l:PL}(h:GD base w v l):v.ownBlock=G∨∃g cur fz,v.ownBlock=I g∧base<=g∧w.heap[g]?=I (Y cur 44 fz):=by
 obtain⟨vs,_,h,_⟩:=h;rcases h.2with⟨rfl,_⟩|⟨g,cap,cur,rfl,hb,hg,_⟩;·exact .inl rfl
 ·exact .inr ⟨g,cur,_,rfl,hb,hg⟩
theorem GD.lt{base:Nat}{w:F}{v:H}{l:PL}(h:GD base w v l):∀k,v.ownBlock=I k->base<=k∧k<w.heap.size:=by
 obtain⟨vs,_,h,_⟩:=h;exact sL h
theorem GD.grownNone{base:Nat}{w w':F}{v:H}{l:PL}(h:GD base w v l)(hg:L w w' G):GD base w' v l:=by
 obtain⟨vs,h1,h2,h3⟩:=h;refine⟨vs,h1,sB h2 hg ?_,fun i hi=>⟨((h3 i hi).1).kept hg (.inl rfl),((h3 i hi).2).kept hg (.inl rfl)⟩⟩;cases hv:v.ownBlock with|none=>exact .inl rfl|some k=>exact .inr (by simp)
theorem GD.alloc{base:Nat}{w:F}{v:H}{l:PL}(h:GD base w v l)(o:Obj):GD base (w.alloc o) v l:=h.grownNone (sS _ _ _)
theorem GD.shape{base:Nat}{w:F}{v:H}{l:PL}(h:GD base w v l):∃a cap,v=J a l.length cap:=by
 obtain⟨vs,_,h,_⟩:=h;rcases h.2with⟨rfl,h0⟩|⟨g,cap,cur,rfl,_⟩;·exact⟨G,0,by rw[h0]⟩
 ·exact⟨_,cap,rfl⟩
theorem gN{base:Nat}{w W w1:F}{v:H}{l:PL}(h:L w W G)(ho:GD base W v l)(hb:w.heap.size<=base)(hg:L W w1 v.ownBlock):L w w1 G:=⟨hg.os.trans h.os,hg.tape.trans h.tape,hg.output.trans h.output,tR h.size hg.size,fun i hi hn=>(hg.block i (tI hi h.size) (fun e=>by
 have:=(ho.lt i e.symm).1;omega)).trans (h.block i hi hn)⟩
theorem CA:(O.info? 44).map (fun i=>(i.zero,i.size,i.bytes))=I (I (sX #[J G 0 0,J G 0 0]),2,48):=by
 kernel_rfl
theorem Js{α:Type}(a b:List α)(i:Nat)(d:α):(a++b).getD i d=if i<a.length then a.getD i d else b.getD (i-a.length) d:=by
 by_cases h:i<a.length;·rw[if_pos h];simp[pV,h]
 ·rw[if_neg h];simp[pV,h]
theorem jI(vs:List (H×H))(k:Nat):flat (vs.take k)=(flat vs).take (k*2):=by
 induction vs generalizing k with|nil=>simp[flat]|cons x r ih=>cases k with|zero=>simp[flat]|succ k=>rw[rK,show(k+1)*2=k*2+2by omega];have:=ih k;simp only[flat,tP,oC,pO,rK]at this⊢;rw[this]
theorem E9(vs:List (H×H))(k:Nat):flat (vs.drop k)=(flat vs).drop (k*2):=by
 induction vs generalizing k with|nil=>simp[flat]|cons x r ih=>cases k with|zero=>simp[flat]|succ k=>rw[pW,show(k+1)*2=k*2+2by omega];have:=ih k;simp only[flat,tP,oC,pO,pW]at this⊢;rw[this]
theorem GD.cells{base:Nat}{w:F}{g n cap:Nat}{vs:List (H×H)}{l:PL}(hr:w.ownsRow base 44 2 (J (I ⟨g,0,G⟩) n cap) l.length (flat vs)):∀j u,(flat vs)[j]?=I u->w.cell? ⟨g,j,G⟩=I u:=by
 intro j u hj;rcases hr.2with⟨e,_⟩|⟨g',cap',cur,e,hb,hg,hn,hm,hs,ht⟩;·cases e
 ·simp only[tJ,tB,rO]at e;obtain⟨⟨rfl,_⟩,_,_⟩:=e;(have hlt:j<l.length*2:=by have:=(sO.1 hj).1;rw[hr.1]at this;exact this);(have e2:(cur.toList.take (l.length*2))[j]?=(flat vs)[j]?:=by rw[ht]);rw[sI,if_pos hlt,hj]at e2;simp[tY,hg];simpa using e2
theorem Zb.setOther{base:Nat}{w:F}{v:H}{bs:List UInt8}(h:Zb base w v bs)(c i:Nat)(x:H)(hc:c<base):Zb base (tH w ⟨c,i,G⟩ x) v bs:=by
 refine h.grown (row:=I c) (Qh (Qb _ _) i x) ?_;cases hv:v.ownBlock with|none=>exact .inl rfl|some k=>have:=(h.lt k hv).1;exact .inr (by simp;omega)
theorem Vd{W w:F}{b:Nat}{x y:H}{t:sE}(hg:L W w G)(h:W.heap[b]?=I (Y #[x,y] t))(u v:H):(tH w ⟨b,0,G⟩ u).cell? ⟨b,0,G⟩=I u∧((tH w ⟨b,0,G⟩ u).setCell ⟨b,1,G⟩ v).cell? ⟨b,1,G⟩=I v:=by
 have hb:w.heap[b]?=I (Y #[x,y] t):=by rw[hg.block b (tK.1 h).1 (by simp)];exact h
 have c0:w.cell? ⟨b,0,G⟩=I x:=by simp[tY,hb]
 have c1:w.cell? ⟨b,1,G⟩=I y:=by simp[tY,hb]
 refine⟨pR _ _ _ (by rw[c0];rfl),pR _ _ _ ?_⟩;rw[World.cell?_setCell_other _ _ _ _ (by simp),c1];rfl
theorem Gu{base:Nat}{W:F}{pb:Nat}{x y:H}(h:W.heap[pb]?=I (Y #[x,y] 44))(hb:base<=pb)(u v:H):((tH W ⟨pb,0,G⟩ u).setCell ⟨pb,1,G⟩ v).heap[pb]?=I (Y #[u,v] 44)∧(∀z bs,Qi base W z bs->Qi base ((tH W ⟨pb,0,G⟩ u).setCell ⟨pb,1,G⟩ v) z bs)∧∀w0:F,w0.heap.size<=pb->L w0 W G->L w0 ((tH W ⟨pb,0,G⟩ u).setCell ⟨pb,1,G⟩ v) G:=by
 refine⟨?_,fun z bs hz=>?_,fun w0 h0 hg=>Qc (Qc hg _ h0 _ _) _ h0 _ _⟩;·simp only[tH,sC,if_true,h,rS];first|rfl|simp
 ·exact hz.kept (Qh (Qh (Qb _ _) _ _) _ _) (.inr ⟨pb,_,_,rfl,hb,h⟩)
def Kx(rb pb:Nat)(w:F)(v:H)(l:PL):Prop:=∃vs:List (H×H),vs.length=l.length∧w.ownsRow rb 44 2 v l.length (flat vs)∧∀i,i<l.length->Qi pb w (vs.getD i (sP,sP)).1 (l.getD i ([],[])).1∧Qi pb w (vs.getD i (sP,sP)).2 (l.getD i ([],[])).2
theorem BA(rb pb:Nat)(w:F):Kx rb pb w (J G 0 0) []:=⟨[],rfl,sR _ _ _ _,fun i hi=>by
 simp at hi⟩
theorem Kx.p{rb pb:Nat}{w:F}{v:H}{l:PL}(h:Kx rb pb w v l)(hb:pb<=rb):GD pb w v l:=by
 obtain⟨vs,h1,h2,h3⟩:=h;refine⟨vs,h1,⟨h2.1,?_⟩,h3⟩;rcases h2.2with h|⟨g,cap,cur,h1,h2,h3⟩;·exact .inl h
 ·exact .inr ⟨g,cap,cur,h1,tR hb h2,h3⟩
theorem Kx.row{rb base:Nat}{w:F}{v:H}{l:PL}(h:Kx rb base w v l)(hb:base<=rb):v.ownBlock=G∨∃g cur fz,v.ownBlock=I g∧base<=g∧w.heap[g]?=I (Y cur 44 fz):=(h.p hb).row
theorem Kx.lt{rb pb:Nat}{w:F}{v:H}{l:PL}(h:Kx rb pb w v l):∀k,v.ownBlock=I k->rb<=k∧k<w.heap.size:=by
 obtain⟨vs,_,h,_⟩:=h;exact sL h
theorem Kx.grownNone{rb pb:Nat}{w w':F}{v:H}{l:PL}(h:Kx rb pb w v l)(hg:L w w' G):Kx rb pb w' v l:=by
 obtain⟨vs,h1,h2,h3⟩:=h;refine⟨vs,h1,sB h2 hg ?_,fun i hi=>⟨((h3 i hi).1).kept hg (.inl rfl),((h3 i hi).2).kept hg (.inl rfl)⟩⟩;cases hv:v.ownBlock with|none=>exact .inl rfl|some k=>exact .inr (by simp)
theorem Kx.alloc{rb pb:Nat}{w:F}{v:H}{l:PL}(h:Kx rb pb w v l)(o:Obj):Kx rb pb (w.alloc o) v l:=h.grownNone (sS _ _ _)
theorem Kx.shape{rb pb:Nat}{w:F}{v:H}{l:PL}(h:Kx rb pb w v l):∃a cap,v=J a l.length cap:=by
 obtain⟨vs,_,h,_⟩:=h;rcases h.2with⟨rfl,h0⟩|⟨g,cap,cur,rfl,_⟩;·exact⟨G,0,by rw[h0]⟩
 ·exact⟨_,cap,rfl⟩
theorem Rs{rb pb:Nat}{w W w1:F}{v:H}{l:PL}(h:L w W G)(ho:Kx rb pb W v l)(hb:w.heap.size<=rb)(hg:L W w1 v.ownBlock):L w w1 G:=⟨hg.os.trans h.os,hg.tape.trans h.tape,hg.output.trans h.output,tR h.size hg.size,fun i hi hn=>(hg.block i (tI hi h.size) (fun e=>by
 have:=(ho.lt i e.symm).1;omega)).trans (h.block i hi hn)⟩
def iX(base:Nat)(w:F)(b o:Nat)(p:Pr):Prop:=∃vk vv,w.cell? ⟨b,o,G⟩=I vk∧w.cell? ⟨b,o+1,G⟩=I vv∧Qi base w vk p.1∧Qi base w vv p.2
def QN(base:Nat)(w:F)(v:H)(l:PL):Prop:=∃a cap,v=J a l.length cap∧l.length<=cap∧((l=[]∧(a=G->cap=0))∨∃b o,a=I ⟨b,o,G⟩∧(b<base∨∃cur fz,w.heap[b]?=I (Y cur 44 fz))∧∀i,i<l.length->iX base w b (o+i*2) (l.getD i ([],[])))
theorem QN.list{base:Nat}{w:F}{v:H}{l:PL}(h:QN base w v l):Qr w v l:=by
 obtain⟨a,cap,rfl,hc,h⟩:=h;refine⟨a,cap,rfl,hc,?_⟩;rcases h with h|⟨b,o,rfl,_,h⟩;·exact .inl h
 ·refine .inr ⟨b,o,rfl,fun i hi=>?_⟩;obtain⟨vk,vv,c1,c2,h1,h2⟩:=h i hi;exact⟨vk,vv,c1,c2,h1.1,h2.1⟩
theorem Qr.pairsB{w w':F}{v:H}{l:PL}(h:Qr w v l)(hg:L w w' G)(base:Nat)(hb:w.heap.size<=base):QN base w' v l:=by
 obtain⟨a,cap,rfl,hc,h⟩:=h;refine⟨a,cap,rfl,hc,?_⟩;rcases h with h|⟨b,o,rfl,h⟩;·exact .inl h
 ·by_cases h0:l=[];(·exact .inl ⟨h0,fun e=>by cases e⟩);·have hl:0<l.length:=rW.2 h0;refine .inr ⟨b,o,rfl,.inl ?_,fun i hi=>?_⟩;(·obtain⟨vk,vv,c1,_⟩:=h 0 hl;exact tI (VI c1) hb);·obtain⟨vk,vv,c1,c2,h1,h2⟩:=h i hi;exact⟨vk,vv,hg.cell c1 (by simp),hg.cell c2 (by simp),h1.part hg base hb,h2.part hg base hb⟩
theorem GD.pairsB{base:Nat}{w:F}{v:H}{l:PL}(h:GD base w v l):QN base w v l:=by
 obtain⟨vs,hl,hr,h3⟩:=h;have hr':=hr;rcases hr.2with⟨rfl,h0⟩|⟨g,cap,cur,rfl,hb,hg,hn,hm,hs,ht⟩;·have:l=[]:=tM h0;subst this;exact⟨G,0,rfl,tX _,.inl ⟨rfl,fun _=>rfl⟩⟩
 ·refine⟨_,cap,rfl,hn,.inr ⟨g,0,rfl,.inr ⟨cur,_,hg⟩,fun i hi=>?_⟩⟩;have hf:=xU vs i (by omega);refine⟨(vs.getD i (sP,sP)).1,(vs.getD i (sP,sP)).2,?_,?_,(h3 i hi).1,(h3 i hi).2⟩;(·have:=GD.cells hr' _ _ hf.1;rw[sU];exact this);·have:=GD.cells hr' _ _ hf.2;rw[sU];exact this
theorem QN.kept{base:Nat}{w w':F}{v:H}{l:PL}(h:QN base w v l){row:Option Nat}(hg:L w w' row)(hrow:row=G∨∃g cur t fz,row=I g∧base<=g∧w.heap[g]?=I (Y cur t fz)∧t≠5∧t≠44):QN base w' v l:=by
 obtain⟨a,cap,rfl,hc,h⟩:=h;refine⟨a,cap,rfl,hc,?_⟩;rcases h with h|⟨b,o,rfl,hb,h⟩;·exact .inl h
 ·by_cases h0:l=[];(·exact .inl ⟨h0,fun e=>by cases e⟩);·have hl:0<l.length:=rW.2 h0;(have hlt:b<w.heap.size:=by obtain⟨vk,vv,c1,_⟩:=h 0 hl;exact VI c1);(have hne:I b≠row:=by intro e;rcases hrow with rfl|⟨g,cur,t,fz,rfl,hbg,hgc,ht,ht2⟩;(·cases e);·cases e;rcases hb with hb|⟨cur2,fz2,hb⟩;(·omega);·rw[hb]at hgc;simp only[tB,sD]at hgc;exact ht2 hgc.2.1.symm);(have hrow':row=G∨∃g cur t fz,row=I g∧base<=g∧w.heap[g]?=I (Y cur t fz)∧t≠5:=by rcases hrow with h|⟨g,cur,t,fz,h1,h2,h3,h4,_⟩;(·exact .inl h);·exact .inr ⟨g,cur,t,fz,h1,h2,h3,h4⟩);refine .inr ⟨b,o,rfl,?_,fun i hi=>?_⟩;(·rcases hb with hb|⟨cur,fz,hb⟩;(·exact .inl hb);·exact .inr ⟨cur,fz,by rw[hg.block b hlt hne];exact hb⟩);·obtain⟨vk,vv,c1,c2,h1,h2⟩:=h i hi;exact⟨vk,vv,hg.cell c1 (by simpa using hne),hg.cell c2 (by simpa using hne),h1.keptT hg hrow',h2.keptT hg hrow'⟩
theorem QN.grown{base:Nat}{w w':F}{v:H}{l:PL}(h:QN base w v l)(hg:L w w' G):QN base w' v l:=h.kept hg (.inl rfl)
theorem yG{base:Nat}{w:F}{v:H}{l:PL}(h:QN base w v l):v.oneCell'=M:=by
 obtain⟨a,cap,rfl,_⟩:=h;rfl
theorem YE(base:Nat)(w:F):QN base w (J G 0 0) []:=⟨G,0,rfl,tX _,.inl ⟨rfl,fun _=>rfl⟩⟩
theorem QN.shape{base:Nat}{w:F}{v:H}{l:PL}(h:QN base w v l):∃a cap,v=J a l.length cap:=by
 obtain⟨a,cap,rfl,_⟩:=h;exact⟨a,cap,rfl⟩
theorem QN.mono{base base':Nat}{w:F}{v:H}{l:PL}(h:QN base w v l)(hb:base<=base'):QN base' w v l:=by
 obtain⟨a,cap,rfl,hc,h⟩:=h;refine⟨a,cap,rfl,hc,?_⟩;rcases h with h|⟨b,o,rfl,h1,h2⟩;·exact .inl h
 ·refine .inr ⟨b,o,rfl,?_,fun i hi=>?_⟩;(·rcases h1 with h1|h1;(·exact .inl (by omega));·exact .inr h1);·obtain⟨vk,vv,c1,c2,p1,p2⟩:=h2 i hi;exact⟨vk,vv,c1,c2,p1.mono hb,p2.mono hb⟩
theorem Kx.pairsB{rb:Nat}{w:F}{v:H}{l:PL}(h:Kx rb 0 w v l):QN 0 w v l:=(h.p (tW _)).pairsB
theorem QN.up{w:F}{v:H}{l:PL}(h:QN 0 w v l)(base:Nat):QN base w v l:=h.mono (tW _)
abbrev WV:=Zi×H×H×H
def Aa:WV:=(Qs,sP,sP,sP)
def Je(us:List WV):List H:=us.flatMap fun x=>[x.2.1,x.2.2.1,tQ x.1.gone,x.2.2.2]
theorem Wq(us:List WV):(Je us).length=us.length*4:=by
 induction us with|nil=>rfl|cons x r ih=>simp only[Je,tP,tC,sF,pN]at ih⊢;omega
theorem uV(a b:List WV):Je (a++b)=Je a++Je b:=by
 simp[Je]
theorem Me:∀(us:List WV)(i:Nat),i<us.length->(Je us)[i*4]?=I (us.getD i Aa).2.1∧(Je us)[i*4+1]?=I (us.getD i Aa).2.2.1∧(Je us)[i*4+2]?=I (tQ (us.getD i Aa).1.gone)∧(Je us)[i*4+3]?=I (us.getD i Aa).2.2.2|[],i,h=>by simp at h|x::r,0,_=>by simp[Je]|x::r,i+1,h=>by have:=Me r i (by simpa using h);rw[show(i+1)*4=i*4+4by omega,show i*4+4+1=(i*4+1)+4by omega,show i*4+4+2=(i*4+2)+4by omega,show i*4+4+3=(i*4+3)+4by omega];simpa[Je]using this
theorem uI:(147:Nat)≠5:=by
 decide
theorem Wp{us:List WV}{l:List Zi}(h:us.map (·.1)=l)(i:Nat)(hi:i<l.length):(us.getD i Aa).1=l.getD i Qs∧us.getD i Aa∈us:=by
 subst h;have hi':i<us.length:=by simpa using hi
 refine⟨by simp[hi'],?_⟩;rw[show us.getD i Aa=us[i]by simp[hi']];exact sV hi'
theorem cV:(O.info? 147).map (fun i=>(i.zero,i.size,i.bytes))=I (I (sX #[J G 0 0,J G 0 0,tQ N,J G 0 0]),4,80):=by
 kernel_rfl
theorem Eh(w:F)(vn vk vv:H)(p:Zi)(h1:Qe w vn p.name)(h2:Qe w vk p.key)(h3:Qe w vv p.value)(t:sE):QQ (w.alloc (Y #[vn,vk,tQ p.gone,vv] t)) (J (I ⟨w.heap.size,0,G⟩) 1 1) [p]:=by
 refine⟨_,1,rfl,by simp,.inr ⟨w.heap.size,0,rfl,fun i hi=>?_⟩⟩;match i,hi with|0,_=>exact⟨vn,vk,vv,by simp,by simp,by simp,by simp,h1.alloc _,h2.alloc _,h3.alloc _⟩
def OU(base:Nat)(w:F)(b o:Nat)(p:Zi):Prop:=∃vn vk vv,w.cell? ⟨b,o,G⟩=I vn∧w.cell? ⟨b,o+1,G⟩=I vk∧w.cell? ⟨b,o+2,G⟩=I (tQ p.gone)∧w.cell? ⟨b,o+3,G⟩=I vv∧Qi base w vn p.name∧Qi base w vk p.key∧Qi base w vv p.value
def Xq(base:Nat)(w:F)(v:H)(l:List Zi):Prop:=∃a cap,v=J a l.length cap∧l.length<=cap∧((l=[]∧(a=G->cap=0))∨∃b o,a=I ⟨b,o,G⟩∧(b<base∨∃cur fz,w.heap[b]?=I (Y cur 147 fz))∧∀i,i<l.length->OU base w b (o+i*4) (l.getD i Qs))
theorem Cc(base:Nat)(w:F):Xq base w (J G 0 0) []:=⟨G,0,rfl,tX _,.inl ⟨rfl,fun _=>rfl⟩⟩
theorem Xq.shape{base:Nat}{w:F}{v:H}{l:List Zi}(h:Xq base w v l):∃a cap,v=J a l.length cap:=by
 obtain⟨a,cap,rfl,_⟩:=h;exact⟨a,cap,rfl⟩
theorem Xq.oneCell{base:Nat}{w:F}{v:H}{l:List Zi}(h:Xq base w v l):v.oneCell'=M:=by
 obtain⟨a,cap,rfl,_⟩:=h;rfl
theorem Xq.list{base:Nat}{w:F}{v:H}{l:List Zi}(h:Xq base w v l):QQ w v l:=by
 obtain⟨a,cap,rfl,hc,h⟩:=h;refine⟨a,cap,rfl,hc,?_⟩;rcases h with h|⟨b,o,rfl,_,h⟩;·exact .inl h
 ·refine .inr ⟨b,o,rfl,fun i hi=>?_⟩;obtain⟨vn,vk,vv,c1,c2,c3,c4,h1,h2,h3⟩:=h i hi;exact⟨vn,vk,vv,c1,c2,c3,c4,h1.1,h2.1,h3.1⟩
theorem Xq.kept{base:Nat}{w w':F}{v:H}{l:List Zi}(h:Xq base w v l){row:Option Nat}(hg:L w w' row)(hrow:row=G∨∃g cur t fz,row=I g∧base<=g∧w.heap[g]?=I (Y cur t fz)∧t≠5∧t≠147):Xq base w' v l:=by
 obtain⟨a,cap,rfl,hc,h⟩:=h;refine⟨a,cap,rfl,hc,?_⟩;rcases h with h|⟨b,o,rfl,hb,h⟩;·exact .inl h
 ·by_cases h0:l=[];(·exact .inl ⟨h0,fun e=>by cases e⟩);·have hl:0<l.length:=rW.2 h0;(have hlt:b<w.heap.size:=by obtain⟨vn,vk,vv,c1,_⟩:=h 0 hl;exact VI c1);(have hne:I b≠row:=by intro e;rcases hrow with rfl|⟨g,cur,t,fz,rfl,hbg,hgc,ht,ht2⟩;(·cases e);·cases e;rcases hb with hb|⟨cur2,fz2,hb⟩;(·omega);·rw[hb]at hgc;simp only[tB,sD]at hgc;exact ht2 hgc.2.1.symm);(have hrow':row=G∨∃g cur t fz,row=I g∧base<=g∧w.heap[g]?=I (Y cur t fz)∧t≠5:=by rcases hrow with h|⟨g,cur,t,fz,h1,h2,h3,h4,_⟩;(·exact .inl h);·exact .inr ⟨g,cur,t,fz,h1,h2,h3,h4⟩);refine .inr ⟨b,o,rfl,?_,fun i hi=>?_⟩;(·rcases hb with hb|⟨cur,fz,hb⟩;(·exact .inl hb);·exact .inr ⟨cur,fz,by rw[hg.block b hlt hne];exact hb⟩);·obtain⟨vn,vk,vv,c1,c2,c3,c4,h1,h2,h3⟩:=h i hi;exact⟨vn,vk,vv,hg.cell c1 (by simpa using hne),hg.cell c2 (by simpa using hne),hg.cell c3 (by simpa using hne),hg.cell c4 (by simpa using hne),h1.keptT hg hrow',h2.keptT hg hrow',h3.keptT hg hrow'⟩
theorem Xq.grown{base:Nat}{w w':F}{v:H}{l:List Zi}(h:Xq base w v l)(hg:L w w' G):Xq base w' v l:=h.kept hg (.inl rfl)
def Kb(w:F)(v:H)(c:XG):Prop:=∃vs,v=sX #[tA tD c.turn,vs]∧QQ w vs c.writes
theorem Kb.grown{w w':F}{v:H}{c:XG}(h:Kb w v c)(hg:L w w' G):Kb w' v c:=by
 obtain⟨vs,rfl,h⟩:=h;exact⟨vs,rfl,h.grown hg⟩
theorem Kb.agg{w:F}{v:H}{c:XG}(h:Kb w v c):∃a cap,v=sX #[tA tD c.turn,J a c.writes.length cap]:=by
 obtain⟨vs,rfl,h⟩:=h;obtain⟨a,cap,rfl⟩:=h.shape;exact⟨a,cap,rfl⟩
theorem Kb.writes{w:F}{c:XG}{x y:H}(h:Kb w (sX #[x,y]) c):x=tA tD c.turn∧QQ w y c.writes:=by
 obtain⟨vs,e,h⟩:=h;injection e with e;injection e with e;injection e with e1 e;injection e with e2 e;exact⟨e1,e2▸h⟩
structure NU(c:XG):Prop where turn:-9223372036854775808<=c.turn∧c.turn<=9223372036854775807writes:uN c.writes
structure Gc where
  data : List UInt8
  synced : Int
def Gi:Gc:=⟨[],0⟩
def K6(w:F)(v:H)(t:Gc):Prop:=∃vd,v=sX #[vd,tA tD t.synced]∧Qe w vd t.data
theorem K6.grown{w w':F}{v:H}{t:Gc}(h:K6 w v t)(hg:L w w' G):K6 w' v t:=by
 obtain⟨vd,rfl,h⟩:=h;exact⟨vd,rfl,h.grown hg⟩
theorem K6.agg{w:F}{v:H}{t:Gc}(h:K6 w v t):∃a cap,v=sX #[J a t.data.length cap,tA tD t.synced]:=by
 obtain⟨vd,rfl,h⟩:=h;obtain⟨a,cap,rfl⟩:=h.shape;exact⟨a,cap,rfl⟩
theorem K6.data{w:F}{t:Gc}{x y:H}(h:K6 w (sX #[x,y]) t):Qe w x t.data∧y=tA tD t.synced:=by
 obtain⟨vd,e,h⟩:=h;injection e with e;injection e with e;injection e with e1 e;injection e with e2 e;exact⟨e1▸h,e2⟩
structure yD(t:Gc):Prop where data:t.data.length<=140737488355328synced:-9223372036854775808<=t.synced∧t.synced<=9223372036854775807
def YD(w:F)(v:H)(t:Gc):Prop:=∃vd,v=sX #[vd,tA tD t.synced]∧Qi 0 w vd t.data
theorem YD.is{w:F}{v:H}{t:Gc}(h:YD w v t):K6 w v t:=by
 obtain⟨vd,rfl,h⟩:=h;exact⟨vd,rfl,h.slice⟩
theorem V3(w:F):YD w (sX #[J G 0 0,tA tD 0]) Gi:=⟨_,rfl,Qx w,.inl rfl⟩
def GC(t:Gc):Bool:=tV (t.data.length<=200000)&&tV (0<=t.synced∧t.synced<=(t.data.length:Int))
theorem KO(t:Gc):GC t=M↔t.data.length<=200000∧0<=t.synced∧t.synced<=(t.data.length:Int):=by
 unfold GC;rw[rP,decide_eq_true_iff,decide_eq_true_iff]
def TV(c:XG):List UInt8:=if Zc c=0then Zl c else[]
def RI(t:Gc):Int:=if GC t=M then 0 else 6
def Jq(t:Gc):Gc:=if GC t=M then⟨t.data,(t.data.length:Int)⟩else Gi
def Uy(t:Gc)(keep:Int):Int:=if GC t=M then(if keep<0then 2 else 0)else 6
def Xy(t:Gc)(keep:Int):Nat:=if keep<(t.data.length:Int)-t.synced then(t.synced+keep).toNat else t.data.length
def Xu(t:Gc)(keep:Int):Gc:=if Uy t keep=0then⟨t.data.take (Xy t keep),(Xy t keep:Int)⟩else Gi
def VF(D:List UInt8->List UInt8)(t:Gc)(c:XG):Int:=if GC t=M then(if Zc c=0then(if 200000<t.data.length+(ZM D c).length then 11 else 0)else Zc c)else 6
def zY(D:List UInt8->List UInt8)(t:Gc)(c:XG):Gc:=if VF D t c=0then⟨t.data++ZM D c,t.synced⟩else Gi
def EM(t:Gc):Int:=if GC t=M then 0 else 6
def yM(D:List UInt8->List UInt8)(t:Gc):List XG:=if GC t=M then(KP D 1 t.data).1 else[]
def xG(D:List UInt8->List UInt8)(t:Gc):Gc:=if GC t=M then⟨t.data.take (DR D t.data),if t.synced>(DR D t.data:Int)then(DR D t.data:Int)else t.synced⟩else Gi
theorem Bo{D:List UInt8->List UInt8}(hD:∀x,(D x).length=4){c:XG}(hc:Zc c=0):6<=(ZM D c).length∧(ZM D c).length<=600:=by
 have h1:=PX hD c;have h2:=Vg hc;omega
theorem B9(D:List UInt8->List UInt8)(cs:List XG)(i:Nat)(h:i<cs.length):Q7 D (cs.take (i+1))=Q7 D (cs.take i)++ZM D (cs.getD i Zn):=by
 rw[rB h,VH,PJ,show cs[i]=cs.getD i Zn by simp[h]]
theorem iA{D:List UInt8->List UInt8}{t:Gc}(hm:GC t=M){cs:List XG}{r:List UInt8}{n:Nat}(h:KP D 1 t.data=(cs,r))(hn:DR D t.data=n):EM t=0∧yM D t=cs∧xG D t=⟨t.data.take n,if t.synced>(n:Int)then(n:Int)else t.synced⟩:=by
 refine⟨by rw[EM,if_pos hm],by rw[yM,if_pos hm,h],by rw[xG,if_pos hm,hn]⟩
theorem aE{D:List UInt8->List UInt8}(hD:∀x,(D x).length=4){cs:List XG}(h:zD 1 cs)(k:Nat)(s:Int)(hk:k<=(Q7 D cs).length)(hs:0<=s∧s<=(k:Int))(hl:(Q7 D cs).length<=200000):∃j,j<=cs.length∧(Q7 D (cs.take j)).length<=k∧(j<cs.length->k<(Q7 D (cs.take (j+1))).length)∧EM ⟨(Q7 D cs).take k,s⟩=0∧yM D ⟨(Q7 D cs).take k,s⟩=cs.take j∧xG D ⟨(Q7 D cs).take k,s⟩=⟨Q7 D (cs.take j),if s>((Q7 D (cs.take j)).length:Int)then((Q7 D (cs.take j)).length:Int)else s⟩:=by
 obtain⟨j,h1,h2,h3,h4,h5⟩:=Bk hD h k;have hkl:((Q7 D cs).take k).length=k:=by simp;omega
 have hm:GC ⟨(Q7 D cs).take k,s⟩=M:=(KO _).2 ⟨by show((Q7 D cs).take k).length<=_;omega,by show 0<=s∧s<=(((Q7 D cs).take k).length:Int);omega⟩;have hn:DR D ((Q7 D cs).take k)=(Q7 D (cs.take j)).length:=by rw[DR,h2,hkl];show k-(((Q7 D cs).take k).drop _).length=_;rw[oD,hkl];omega
 obtain⟨a,b,c⟩:=iA hm h2 hn;refine⟨j,h1,h3,h5,a,b,?_⟩;rw[c];have e:((Q7 D cs).take k).take (Q7 D (cs.take j)).length=Q7 D (cs.take j):=by rw[pG,rV h3];(conv=>lhs;rw[<-pF j cs,VH]);rw[show(cs.take j++cs.drop j).take j=cs.take j by rw[pF]];exact List.take_left' rfl
 show(⟨((Q7 D cs).take k).take _,_⟩:Gc)=_;rw[e]
def OM:FL->Nat->List XG->Int|_,_,[]=>0|f,i,c::cs=>if Zc c=0then(if c.turn=((i+1:Nat):Int)then(if Q5 f c.writes=0then OM (Xx f c.writes) (i+1) cs else Q5 f c.writes)else 3)else Zc c
def V2:FL->List XG->FL|f,[]=>f|f,c::cs=>V2 (Xx f c.writes) cs
theorem v8:∀(a b:List XG)(f:FL),V2 f (a++b)=V2 (V2 f a) b|[],_,_=>rfl|_::a,b,_=>v8 a b _
theorem So(cs:List XG)(f:FL)(c:XG):V2 f (cs++[c])=Xx (V2 f cs) c.writes:=by
 rw[v8];rfl
def vO:FL->Nat->List XG->Prop|_,_,[]=>True|f,i,c::cs=>Zc c=0∧c.turn=((i+1:Nat):Int)∧Q5 f c.writes=0∧vO (Xx f c.writes) (i+1) cs
theorem vO.take:∀{cs:List XG}{f:FL}{i:Nat}(_:vO f i cs)(j:Nat),vO f i (cs.take j)|[],_,_,_,j=>by rw[List.take_nil];trivial|_::_,_,_,_,0=>trivial|_::_,_,_,h,j+1=>⟨h.1,h.2.1,h.2.2.1,vO.take h.2.2.2 j⟩
theorem vO.at:∀{cs:List XG}{f:FL}{i:Nat}(_:vO f i cs)(j:Nat)(_:j<cs.length),Zc (cs.getD j Zn)=0∧(cs.getD j Zn).turn=((i+j+1:Nat):Int)∧Q5 (V2 f (cs.take j)) (cs.getD j Zn).writes=0|[],_,_,_,j,hj=>by simp at hj|c::cs,f,i,h,0,_=>⟨h.1,h.2.1,h.2.2.1⟩|c::cs,f,i,h,j+1,hj=>by have:=vO.at h.2.2.2 j (by simpa using hj);rw[show i+(j+1)+1=i+1+j+1by omega];simpa[V2]using this
theorem FX{l:FL}(h:Xr l)(ws:List Zi):Xr (Xx l ws):=by
 unfold Xx;by_cases h0:Q5 l ws=0;·rw[if_pos h0];unfold Q5 at h0;rw[if_pos ((Ya l).2 h)]at h0;by_cases h10:10<ws.length;(·rw[if_pos h10]at h0;omega);·rw[if_neg h10]at h0;exact vQ ws l h h0
 ·rw[if_neg h0];exact VR
theorem qW:∀(cs:List XG)(f:FL),Xr f->Xr (V2 f cs)|[],_,h=>h|c::cs,_,h=>qW cs _ (FX h c.writes)
def ZJ(n t:Int):Bool:=tV (0<=t∧t<=n∧n-t<6)
def Rr(a b:Zi):Prop:=a.name=b.name∧a.key=b.key
def NQ(l:List Zi):Prop:=l.Pairwise fun a b=>¬Rr a b
def XJ(a b:Rd):Bool:=a.wide==b.wide&&(tV (a.name=b.name)&&(tV (a.key=b.key)&&tV (a.last=b.last)))
theorem qQ(a b:Rd):XJ a b=M↔a=b:=by
 obtain⟨n,k,w,l⟩:=a;obtain⟨n2,k2,w2,l2⟩:=b;simp only[XJ,rP,decide_eq_true_iff,beq_iff_eq,Rd.mk.injEq];exact⟨fun⟨h1,h2,h3,h4⟩=>⟨h2,h3,h1,h4⟩,fun⟨h1,h2,h3,h4⟩=>⟨h3,h1,h2,h4⟩⟩
def ZU(a b:Zi):Bool:=tV (a.name=b.name)&&tV (a.key=b.key)
theorem zC(a b:Zi):ZU a b=M↔Rr a b:=by
 simp only[ZU,rP,decide_eq_true_iff];exact Iff.rfl
def GZ:List Rd->List Rd->Int|_,[]=>0|p,r::rs=>if XI r=0then(if p.any (fun q=>XJ q r)=M then 3 else GZ (p++[r]) rs)else XI r
def xY:List Zi->List Zi->Int|_,[]=>0|p,w::ws=>if QG w=0then(if p.any (fun q=>ZU q w)=M then 3 else xY (p++[w]) ws)else QG w
theorem TH:∀(rs p:List Rd),GZ p rs=0↔(∀r∈rs,XI r=0)∧(∀r∈rs,r∉p)∧rs.Nodup|[],p=>by simp[GZ]|r::rs,p=>by have ih:=TH rs (p++[r]);rw[GZ];by_cases h1:XI r=0;(·rw[if_pos h1];by_cases h2:p.any (fun q=>XJ q r)=M;(·rw[if_pos h2];refine⟨fun h=>by omega,fun h=>?_⟩;obtain⟨q,hq,he⟩:=rG.1 h2;rw[(qQ q r).1 he]at hq;exact absurd hq (h.2.1 r (tU ..)));·rw[if_neg h2,ih];have hr:r∉p:=fun hm=>h2 (rG.2 ⟨r,hm,(qQ r r).2 rfl⟩);constructor;(·rintro⟨a,b,c⟩;refine⟨fun x hx=>?_,fun x hx=>?_,oG.2 ⟨fun hm=>b r hm (by simp),c⟩⟩;(·rcases tL.1 hx with rfl|hx;(·exact h1);·exact a x hx);·rcases tL.1 hx with rfl|hx;(·exact hr);·exact fun hm=>b x hx (tZ.2 (.inl hm)));·rintro⟨a,b,c⟩;have c':=oG.1 c;refine⟨fun x hx=>a x (tS _ hx),fun x hx hm=>?_,c'.2⟩;rcases tZ.1 hm with hm|hm;(·exact b x (tS _ hx) hm);·simp only[tL,tN,or_false]at hm;subst hm;exact c'.1 hx);·rw[if_neg h1];exact⟨fun h=>absurd h h1,fun h=>absurd (h.1 r (tU ..)) h1⟩
theorem Dw:∀(ws p:List Zi),xY p ws=0↔(∀w∈ws,QG w=0)∧(∀w∈ws,∀q∈p,¬Rr q w)∧NQ ws|[],p=>by simp[xY,NQ]|w::ws,p=>by have ih:=Dw ws (p++[w]);rw[xY];by_cases h1:QG w=0;(·rw[if_pos h1];by_cases h2:p.any (fun q=>ZU q w)=M;(·rw[if_pos h2];refine⟨fun h=>by omega,fun h=>?_⟩;obtain⟨q,hq,he⟩:=rG.1 h2;exact absurd ((zC q w).1 he) (h.2.1 w (tU ..) q hq));·rw[if_neg h2,ih];have hr:∀q∈p,¬Rr q w:=fun q hm e=>h2 (rG.2 ⟨q,hm,(zC q w).2 e⟩);constructor;(·rintro⟨a,b,c⟩;refine⟨fun x hx=>?_,fun x hx q hq=>?_,rD.2 ⟨fun x hx=>b x hx w (by simp),c⟩⟩;(·rcases tL.1 hx with rfl|hx;(·exact h1);·exact a x hx);·rcases tL.1 hx with rfl|hx;(·exact hr q hq);·exact b x hx q (tZ.2 (.inl hq)));·rintro⟨a,b,c⟩;have c':=rD.1 c;refine⟨fun x hx=>a x (tS _ hx),fun x hx q hm=>?_,c'.2⟩;rcases tZ.1 hm with hm|hm;(·exact b x (tS _ hx) q hm);·simp only[tL,tN,or_false]at hm;subst hm;exact c'.1 x hx);·rw[if_neg h1];exact⟨fun h=>absurd h h1,fun h=>absurd (h.1 w (tU ..)) h1⟩
structure Tx where
  start : Int
  reads : List Rd
  writes : List Zi
def FW:Tx:=⟨0,[],[]⟩
def Gp(t:Tx):Int:=if 0<=t.start∧t.start<=1048576then(if 20<t.reads.length∨10<t.writes.length then 1 else(if GZ [] t.reads=0then xY [] t.writes else GZ [] t.reads))else 2
structure qM (t : Tx) : Prop where
  start : 0 <= t.start ∧ t.start <= 1048576
  reads : t.reads.length <= 20
  writes : t.writes.length <= 10
  each : ∀ r ∈ t.reads, XI r = 0
  once : t.reads.Nodup
  wrs : ∀ w ∈ t.writes, QG w = 0
  apart : NQ t.writes
theorem uD(t:Tx):Gp t=0↔qM t:=by
 unfold Gp;by_cases h1:0<=t.start∧t.start<=1048576;·rw[if_pos h1];by_cases h2:20<t.reads.length∨10<t.writes.length;(·rw[if_pos h2];exact⟨fun h=>by omega,fun h=>by have:=h.reads;have:=h.writes;omega⟩);·rw[if_neg h2];by_cases h3:GZ [] t.reads=0;(·rw[if_pos h3,Dw];have h3':=(TH _ _).1 h3;exact⟨fun h=>⟨h1,by omega,by omega,h3'.1,h3'.2.2,h.1,h.2.2⟩,fun h=>⟨h.wrs,fun _ _ _ hq=>by simp at hq,h.apart⟩⟩);·rw[if_neg h3];exact⟨fun h=>absurd h h3,fun h=>absurd ((TH _ _).2 ⟨h.each,fun _ _ hq=>by simp at hq,h.once⟩) h3⟩
 ·rw[if_neg h1];exact⟨fun h=>by omega,fun h=>absurd h.start h1⟩
def EJ(t:Tx)(r:Rd):Bool:=t.reads.any (fun q=>XJ q r)
theorem OR(t:Tx)(r:Rd):EJ t r=M↔r∈t.reads:=by
 unfold EJ;rw[rG];exact⟨fun⟨q,hq,e⟩=>(qQ q r).1 e▸hq,fun h=>⟨r,h,(qQ r r).2 rfl⟩⟩
def Xi(t:Tx)(r:Rd):Int:=if Gp t=0then(if XI r=0then(if EJ t r=M then 0 else(if t.reads.length=20then 11 else 0))else XI r)else Gp t
def XU(t:Tx)(r:Rd):Tx:=if Xi t r=0then(if EJ t r=M then t else⟨t.start,t.reads++[r],t.writes⟩)else FW
theorem gE{t:Tx}(h:qM t){r:Rd}(hr:XI r=0):Xi t r=if EJ t r=M then 0 else(if t.reads.length=20then 11 else 0):=by
 rw[Xi,if_pos ((uD t).2 h),if_pos hr]
theorem fH{t:Tx}(h:qM t){r:Rd}(hr:XI r=0)(he:Xi t r=0):qM (XU t r):=by
 rw[XU,if_pos he];by_cases hh:EJ t r=M;·rw[if_pos hh];exact h
 ·rw[if_neg hh];rw[gE h hr,if_neg hh]at he;have hm:r∉t.reads:=fun e=>hh ((OR t r).2 e);(have h20:t.reads.length≠20:=fun e=>by rw[if_pos e]at he;omega);refine⟨h.start,?_,h.writes,fun x hx=>?_,?_,h.wrs,h.apart⟩;(·have:=h.reads;simp;omega);(·rcases tZ.1 hx with hx|hx;(·exact h.each x hx);·simp only[tL,tN,or_false]at hx;rw[hx];exact hr);·rw[pY];refine⟨h.once,by simp,fun a ha b hb e=>?_⟩;simp only[tL,tN,or_false]at hb;subst hb;subst e;exact hm ha
def FS(l:List Zi)(w:Zi):Bool:=l.any (fun q=>ZU q w)
def xD:List Zi->Zi->List Zi|[],w=>[w]|a::l,w=>if ZU a w=M then w::l else a::xD l w
def Xk(t:Tx)(w:Zi):Int:=if Gp t=0then(if QG w=0then(if FS t.writes w=M then 0 else(if t.writes.length=10then 11 else 0))else QG w)else Gp t
def Yj(t:Tx)(w:Zi):Tx:=if Xk t w=0then⟨t.start,t.reads,xD t.writes w⟩else FW
theorem D6:∀(l:List Zi)(w:Zi),(xD l w).length=if FS l w=M then l.length else l.length+1|[],w=>rfl|a::l,w=>by rw[xD,FS,pJ];by_cases h:ZU a w=M;(·rw[if_pos h,h];rfl);·rw[if_neg h,sF,D6 l w];(have hf:ZU a w=N:=by simpa using h);rw[hf,pS];show _=if FS l w=M then _ else _;by_cases h2:FS l w=M;(·rw[if_pos h2,if_pos h2];rfl);·rw[if_neg h2,if_neg h2];rfl
theorem TZ:∀(l:List Zi)(w x:Zi),x∈xD l w->x=w∨x∈l|[],w,x,h=>by simpa[xD]using h|a::l,w,x,h=>by rw[xD]at h;by_cases h1:ZU a w=M;(·rw[if_pos h1]at h;rcases tL.1 h with h|h;(·exact .inl h);·exact .inr (tS _ h));·rw[if_neg h1]at h;rcases tL.1 h with h|h;(·exact .inr (by rw[h];exact tU ..));·exact(TZ l w x h).elim .inl fun h=>.inr (tS _ h)
theorem D8{a b c:Zi}(h:Rr a b)(k:Rr b c):Rr a c:=⟨h.1.trans k.1,h.2.trans k.2⟩
theorem Tw:∀(l:List Zi)(w:Zi),NQ l->NQ (xD l w)|[],w,_=>List.pairwise_singleton ..|a::l,w,h=>by have h':=rD.1 h;rw[xD];by_cases h1:ZU a w=M;(·rw[if_pos h1];exact rD.2 ⟨fun x hx e=>h'.1 x hx (D8 ((zC a w).1 h1) e),h'.2⟩);·rw[if_neg h1];refine rD.2 ⟨fun x hx e=>?_,Tw l w h'.2⟩;rcases TZ l w x hx with rfl|hx;(·exact h1 ((zC _ _).2 e));·exact h'.1 x hx e
theorem O9{t:Tx}(h:qM t){w:Zi}(hw:QG w=0):Xk t w=if FS t.writes w=M then 0 else(if t.writes.length=10then 11 else 0):=by
 rw[Xk,if_pos ((uD t).2 h),if_pos hw]
theorem cY{t:Tx}(h:qM t){w:Zi}(hw:QG w=0)(he:Xk t w=0):qM (Yj t w):=by
 rw[Yj,if_pos he];rw[O9 h hw]at he;refine⟨h.start,h.reads,?_,h.each,h.once,fun x hx=>?_,Tw _ _ h.apart⟩;·show(xD t.writes w).length<=10;rw[D6];have:=h.writes;by_cases hh:FS t.writes w=M;(·rw[if_pos hh];exact this);·rw[if_neg hh]at he⊢;(have h10:t.writes.length≠10:=fun e=>by rw[if_pos e]at he;omega);omega
 ·rcases TZ _ _ _ hx with rfl|hx;(·exact hw);·exact h.wrs x hx
def lH(l:List Zi)(n k:List UInt8):Option Zi:=l.find? fun q=>tV (q.name=n)&&tV (q.key=k)
theorem OQ{l:List Zi}{n k:List UInt8}{w:Zi}(h:lH l n k=I w):w∈l∧w.name=n∧w.key=k:=by
 refine⟨List.mem_of_find?_eq_some h,?_⟩;have:=List.find?_some h;simpa using this
def l5(a b k:List UInt8):Bool:=!YN k a&&!YN b k
def K8(n a b:List UInt8)(l:PL)(w:Zi):PL:=if w.name=n∧l5 a b w.key=M then(if w.gone=M then kM l w.key else Kl l (w.key,w.value))else l
def SJ(n a b:List UInt8):PL->List Zi->PL|l,[]=>l|l,w::ws=>SJ n a b (K8 n a b l w) ws
def uB(n a b:List UInt8):PL->List Zi->Int|_,[]=>0|l,w::ws=>if 60<(K8 n a b l w).length then 11 else uB n a b (K8 n a b l w) ws
def XV(r:Rd)(w:Zi):Bool:=tV (r.name=w.name)&&(if r.wide=M then l5 r.key r.last w.key else tV (r.key=w.key))
def mN(t:Tx)(ws:List Zi):Bool:=ws.any fun w=>t.reads.any fun r=>XV r w
def aH(t:Tx)(l:List XG):Bool:=l.any fun c=>tV (t.start<c.turn)&&mN t c.writes
def TN(t:Tx):Int:=Gp t
def UU(t:Tx)(l:List XG):Bool:=if Gp t=0then aH t l else N
def z9(l:FL)(t:Tx):Int:=if Q9 l=0then Gp t else Q9 l
def KH(l:FL)(t:Tx)(n k:List UInt8):Int:=if z9 l t=0then(if Qt n.length=0then Qq k.length else Qt n.length)else z9 l t
def VS(l:FL)(t:Tx)(n k:List UInt8):Bool:=if KH l t n k=0then(lH t.writes n k).isSome else N
def Vo(l:FL)(t:Tx)(n k:List UInt8):Bool:=if KH l t n k=0then(match lH t.writes n k with|I w=>!w.gone|none=>Vl l n k)else N
def Vb(l:FL)(t:Tx)(n k:List UInt8):List UInt8:=if KH l t n k=0then(match lH t.writes n k with|I w=>w.value|none=>Vn l n k)else[]
theorem Lm{l:FL}{t:Tx}(hl:Xr l)(ht:qM t){n k:List UInt8}(hn:1<=n.length∧n.length<=8)(hk:1<=k.length∧k.length<=16):KH l t n k=0:=by
 rw[KH,z9,if_pos ((Ya l).2 hl),if_pos ((uD t).2 ht),if_pos ((ZG _).2 hn),(Zy _).2 hk]
def KJ(l:FL)(t:Tx)(n a b:List UInt8):Int:=if z9 l t=0then(if Qt n.length=0then(if Qq a.length=0then(if Qq b.length=0then uB n a b (Vq (Jn l n) a b) t.writes else Qq b.length)else Qq a.length)else Qt n.length)else z9 l t
def V4(l:FL)(t:Tx)(n a b:List UInt8):PL:=if KJ l t n a b=0then SJ n a b (Vq (Jn l n) a b) t.writes else[]
structure Rp where
  sess : Int
  code : Int
  turn : Int
  found : Bool
  value : List UInt8
  pairs : PL
  pf : Option (FL × List UInt8 × List UInt8)
def Ga(s:Nat)(e:Int):Rp:=⟨(s:Int),e,0,N,[],[],G⟩
def aS(s:Nat)(t:Int):Rp:=⟨(s:Int),0,t,N,[],[],G⟩
structure Sv where
  up : Bool
  tape : Gc
  commits : List XG
  synced : Nat
  begun : Nat -> Bool
  waits : Nat -> Bool
  txns : Nat -> Tx
  queue : List Nat
  out : List Rp
def JW{α:Type}(f:Nat->α)(i:Nat)(x:α):Nat->α:=fun j=>if j=i then x else f j
theorem Zp{α:Type}(f:Nat->α)(i:Nat)(x:α):JW f i x i=x:=by
 simp[JW]
theorem QY{α:Type}(f:Nat->α){i j:Nat}(x:α)(h:j≠i):JW f i x j=f j:=by
 simp[JW,h]
def Ge(up:Bool)(t:Gc)(cs:List XG)(o:List Rp):Sv:=⟨up,t,cs,cs.length,fun _=>N,fun _=>N,fun _=>FW,[],o⟩
def WI:Sv:=Ge M Gi [] []
def ZD(v:Sv)(r:Rp):Sv:={v with out:=v.out++[r]}
def QE(v:Sv)(n:Nat):FL:=V2 [] (v.commits.take n)
def KG(v:Sv)(s:Nat)(x:Rd)(o:Rp):Sv:=if Xi (v.txns s) x=0then ZD {v with txns:=JW v.txns s (XU (v.txns s) x)} o else ZD v (Ga s (Xi (v.txns s) x))
def UH(v:Sv)(s:Nat)(w:Zi):Sv:=ZD (if Xk (v.txns s) w=0then{v with txns:=JW v.txns s (Yj (v.txns s) w)}else v) (Ga s (Xk (v.txns s) w))
def Er(v:Sv)(s:Nat)(r:Rq):Sv:=if VS (QE v (v.txns s).start.toNat) (v.txns s) r.name r.key=M then ZD v ⟨(s:Int),0,(v.txns s).start,Vo (QE v (v.txns s).start.toNat) (v.txns s) r.name r.key,Vb (QE v (v.txns s).start.toNat) (v.txns s) r.name r.key,[],G⟩else KG v s (Zw r) ⟨(s:Int),0,(v.txns s).start,Vo (QE v (v.txns s).start.toNat) (v.txns s) r.name r.key,Vb (QE v (v.txns s).start.toNat) (v.txns s) r.name r.key,[],G⟩
def jX(v:Sv)(s:Nat)(r:Rq):Sv:=if KJ (QE v (v.txns s).start.toNat) (v.txns s) r.name r.key r.last=0then KG v s (Zw r) ⟨(s:Int),0,(v.txns s).start,N,[],V4 (QE v (v.txns s).start.toNat) (v.txns s) r.name r.key r.last,G⟩else ZD v (Ga s (KJ (QE v (v.txns s).start.toNat) (v.txns s) r.name r.key r.last))
def qD(v:Sv)(s:Nat)(r:Rq):Sv:=if r.kind=4∨r.kind=5then UH v s (Xl r)else if r.kind=2then Er v s r else jX v s r
def Y5(v:Sv)(s:Nat):XG:=⟨((v.commits.length+1:Nat):Int),(v.txns s).writes⟩
def XD(v:Sv)(s:Nat):Sv:={v with begun:=JW v.begun s N}
def YV(D:List UInt8->List UInt8)(v:Sv)(s:Nat):Sv:=if(v.txns s).writes.length=0then ZD (XD v s) (aS s (v.txns s).start)else if v.queue.length=6∨v.commits.length=300then ZD v (Ga s 11)else if UU (v.txns s) v.commits=M then ZD (XD v s) (Ga s 9)else if Q5 (QE v v.commits.length) (v.txns s).writes≠0then ZD (XD v s) (Ga s (Q5 (QE v v.commits.length) (v.txns s).writes))else if VF D v.tape (Y5 v s)≠0then ZD (XD v s) (Ga s (VF D v.tape (Y5 v s)))else{XD v s with tape:=zY D v.tape (Y5 v s),commits:=v.commits++[Y5 v s],queue:=v.queue++[s],waits:=JW v.waits s M}
def Rt(v:Sv)(s:Nat)(r:Rq):Sv:=ZD v ⟨(s:Int),0,(v.synced:Int),Vl (QE v v.synced) r.name r.key,Vn (QE v v.synced) r.name r.key,[],I (QE v v.synced,r.name,r.key)⟩
def QD(v:Sv)(s:Nat)(r:Rq):Bool:=v.waits s||(if r.kind=1then v.begun s else !v.begun s)
def YY(D:List UInt8->List UInt8)(v:Sv)(s:Nat)(r:Rq):Sv:=if r.kind=8then Rt v s r else if QD v s r=M then ZD v (Ga s 6)else if r.kind=1then ZD {v with begun:=JW v.begun s M,txns:=JW v.txns s ⟨(v.synced:Int),[],[]⟩} (aS s (v.synced:Int))else if r.kind=7then ZD (XD v s) (Ga s 0)else if ZJ (v.synced:Int) (v.txns s).start=N then ZD (XD v s) (Ga s 10)else if r.kind=6then YV D v s else qD v s r
def ZZ(D:List UInt8->List UInt8)(v:Sv)(s:Nat)(data:List UInt8):Sv:=if v.up=N then ZD v (Ga s 13)else if QJ data=0then YY D v s (Qu data)else ZD v (Ga s (QJ data))
def Y1:Nat->List Nat->List Rp|_,[]=>[]|n,s::q=>aS s ((n+1:Nat):Int)::Y1 (n+1) q
def JZ(f:Nat->Bool)(q:List Nat):Nat->Bool:=fun j=>if j∈q then N else f j
def UL(v:Sv):Sv:={v with tape:=Jq v.tape,synced:=v.synced+v.queue.length,waits:=JZ v.waits v.queue,queue:=[],out:=v.out++Y1 v.synced v.queue}
def Ky(D:List UInt8->List UInt8)(v:Sv)(k:Int):Sv:=Ge N (xG D (Xu v.tape k)) (yM D (Xu v.tape k)) v.out
def QU(D:List UInt8->List UInt8)(v:Sv)(a:Ac):Sv:=if a.kind=1then ZZ D v a.sess.toNat a.data else if a.kind=2then(if v.up=M then UL v else v)else if a.kind=3then(if v.up=M then Ky D v a.keep else v)else{v with up:=M}
def Xm(D:List UInt8->List UInt8)(l:List Ac):Sv:=l.foldl (QU D) WI
theorem Nd(D:List UInt8->List UInt8)(l:List Ac)(a:Ac):Xm D (l++[a])=QU D (Xm D l) a:=by
 simp[Xm]
theorem Gh(D:List UInt8->List UInt8)(l k:List Ac):Xm D (l++k)=k.foldl (QU D) (Xm D l):=by
 simp[Xm]
def qF(l:List Ac):Int:=Gm l
structure Oc where
  up : Bool
  turn : Int
  pending : Int
  forest : FL
  replies : List Rp
def GI(v:Sv):Oc:=⟨v.up,(v.synced:Int),(v.queue.length:Int),QE v v.synced,v.out⟩
def Il:Oc:=⟨N,0,0,[],[]⟩
def xW(D:List UInt8->List UInt8)(l:List Ac):Oc:=if qF l=0then GI (Xm D l)else Il
section
theorem Nj:∀{cs:List XG}{f:FL}{i:Nat},vO f i cs->zD (i+1) cs|[],_,_,_=>trivial|_::_,_,_,h=>⟨by rw[h.2.1],h.1,Nj h.2.2.2⟩
theorem NJ:∀{cs:List XG}{f:FL}{i:Nat}{c:XG},vO f i cs->Zc c=0->c.turn=((i+cs.length+1:Nat):Int)->Q5 (V2 f cs) c.writes=0->vO f i (cs++[c])|[],_,_,_,_,h1,h2,h3=>⟨h1,by rw[h2];rfl,h3,trivial⟩|d::cs,f,i,c,h,h1,h2,h3=>⟨h.1,h.2.1,h.2.2.1,NJ h.2.2.2 h1 (by rw[h2,sF];congr 1;omega) h3⟩
structure Za (D : List UInt8 -> List UInt8) (v : Sv) : Prop where
  goes : vO [] 0 v.commits
  many : v.commits.length <= 300
  data : v.tape.data = Q7 D v.commits
  mark : v.tape.synced = ((Q7 D (v.commits.take v.synced)).length : Int)
  room : v.tape.data.length <= 200000
  turn : v.synced + v.queue.length = v.commits.length
  few : v.queue.length <= 6
  wait : ∀ s, v.waits s = M ↔ s ∈ v.queue
  once : v.queue.Nodup
  tx : ∀ s, v.begun s = M -> qM (v.txns s) ∧ (v.txns s).start <= (v.synced : Int)
  idle : ∀ s, v.waits s = M -> v.begun s = N
  down : v.up = N -> v.queue = [] ∧ ∀ s, v.begun s = N
variable{D:List UInt8->List UInt8}{v:Sv}
theorem Za.tell(h:Za D v)(r:Rp):Za D (ZD v r):=⟨h.goes,h.many,h.data,h.mark,h.room,h.turn,h.few,h.wait,h.once,h.tx,h.idle,h.down⟩
theorem yT{f:Nat->Bool}{s j:Nat}(h:JW f s N j=M):j≠s∧f j=M:=by
 by_cases e:j=s;·rw[e,Zp]at h;cases h
 ·exact⟨e,by rwa[QY f _ e]at h⟩
theorem Za.end(h:Za D v)(s:Nat):Za D (XD v s):=by
 refine⟨h.goes,h.many,h.data,h.mark,h.room,h.turn,h.few,h.wait,h.once,fun j hj=>h.tx j (yT hj).2,fun j hj=>?_,fun hu=>⟨(h.down hu).1,fun j=>?_⟩⟩;·show JW v.begun s N j=N;by_cases e:j=s;(·rw[e,Zp]);·rw[QY _ _ e];exact h.idle j hj
 ·show JW v.begun s N j=N;by_cases e:j=s;(·rw[e,Zp]);·rw[QY _ _ e];exact(h.down hu).2 j
theorem Za.txn(h:Za D v){s:Nat}{t:Tx}(ht:qM t)(hs:t.start<=(v.synced:Int)):Za D {v with txns:=JW v.txns s t}:=by
 refine⟨h.goes,h.many,h.data,h.mark,h.room,h.turn,h.few,h.wait,h.once,fun j hj=>?_,h.idle,h.down⟩;show qM (JW v.txns s t j)∧(JW v.txns s t j).start<=_;by_cases e:j=s;·rw[e,Zp];exact⟨ht,hs⟩
 ·rw[QY _ _ e];exact h.tx j hj
theorem Za.may(h:Za D v):GC v.tape=M:=by
 refine(KO _).2 ⟨h.room,?_⟩;rw[h.mark,h.data];have:=U9 D v.commits v.synced v.commits.length (by have:=h.turn;omega);rw[sG]at this;omega
theorem zH{t:Tx}{r:Rd}(h:Xi t r=0):(XU t r).start=t.start:=by
 rw[XU,if_pos h];split<;>rfl
theorem CE{t:Tx}{w:Zi}(h:Xk t w=0):(Yj t w).start=t.start:=by
 rw[Yj,if_pos h]
theorem Za.note(h:Za D v){s:Nat}(hb:v.begun s=M){x:Rd}(hx:XI x=0)(o:Rp):Za D (KG v s x o):=by
 obtain⟨h1,h2⟩:=h.tx s hb;unfold KG;by_cases e:Xi (v.txns s) x=0;·rw[if_pos e];exact(h.txn (fH h1 hx e) (by rw[zH e];exact h2)).tell _
 ·rw[if_neg e];exact h.tell _
theorem Za.write(h:Za D v){s:Nat}(hb:v.begun s=M){w:Zi}(hw:QG w=0):Za D (UH v s w):=by
 obtain⟨h1,h2⟩:=h.tx s hb;unfold UH;by_cases e:Xk (v.txns s) w=0;·rw[if_pos e];exact(h.txn (cY h1 hw e) (by rw[CE e];exact h2)).tell _
 ·rw[if_neg e];exact h.tell _
theorem uH{r:Rq}(h:X0 r)(hk:r.kind=2∨r.kind=3):XI (Zw r)=0:=bH (by
 rw[(Ni h).1,if_pos hk])
theorem Wn{r:Rq}(h:X0 r)(hk:r.kind=4∨r.kind=5):QG (Xl r)=0:=Pt (by
 rw[(Ni h).2,if_pos hk])
theorem Za.work(h:Za D v){s:Nat}(hb:v.begun s=M){r:Rq}(hr:X0 r)(hk:2<=r.kind∧r.kind<=5):Za D (qD v s r):=by
 unfold qD;by_cases h1:r.kind=4∨r.kind=5;·rw[if_pos h1];exact h.write hb (Wn hr h1)
 ·rw[if_neg h1];by_cases h2:r.kind=2;(·rw[if_pos h2];unfold Er;split;(·exact h.tell _);·exact h.note hb (uH hr (.inl h2)) _);·rw[if_neg h2];unfold jX;split;(·exact h.note hb (uH hr (.inr (by omega))) _);·exact h.tell _
theorem Cv{t:Tx}(ht:qM t)(hw:¬t.writes.length=0)(n:Nat)(hn:n<=300):Zc ⟨((n+1:Nat):Int),t.writes⟩=0:=(K4 _).2 ⟨by
 show(1:Int)<=((n+1:Nat):Int)∧((n+1:Nat):Int)<=1048576;omega,⟨by
 show 1<=t.writes.length;omega,ht.writes⟩,ht.wrs⟩
theorem Bi(h:Za D v){s:Nat}(hb:v.begun s=M)(h1:¬(v.txns s).writes.length=0)(h2:¬(v.queue.length=6∨v.commits.length=300))(h4:Q5 (QE v v.commits.length) (v.txns s).writes=0)(h5:VF D v.tape (Y5 v s)=0):Za D {XD v s with tape:=zY D v.tape (Y5 v s),commits:=v.commits++[Y5 v s],queue:=v.queue++[s],waits:=JW v.waits s M}:=by
 obtain⟨ht,hst⟩:=h.tx s hb;have hm:=h.many;have hc:Zc (Y5 v s)=0:=Cv ht h1 _ hm;have hmay:=h.may;have hroom:v.tape.data.length+(ZM D (Y5 v s)).length<=200000:=by rw[VF,if_pos hmay,if_pos hc]at h5;by_cases e:200000<v.tape.data.length+(ZM D (Y5 v s)).length;(·rw[if_pos e]at h5;exact absurd h5 (by decide));·omega
 have hT:zY D v.tape (Y5 v s)=⟨v.tape.data++ZM D (Y5 v s),v.tape.synced⟩:=by rw[zY,if_pos h5]
 have hnw:v.waits s≠M:=fun e=>by have:=h.idle s e;rw[hb]at this;cases this
 have hnq:s∉v.queue:=fun e=>hnw ((h.wait s).2 e);have hup:v.up=M:=by cases hu:v.up with|true=>rfl|false=>have:=(h.down hu).2 s;rw[hb]at this;cases this
 have htn:=h.turn;rw[hT];refine⟨?_,?_,?_,?_,?_,?_,?_,?_,?_,?_,?_,?_⟩;·refine NJ h.goes hc (by show((v.commits.length+1:Nat):Int)=_;congr 1;omega) ?_;rw[QE,sG]at h4;exact h4
 ·show(v.commits++[Y5 v s]).length<=300;rw[tC,sH];omega
 ·show v.tape.data++ZM D (Y5 v s)=Q7 D (v.commits++[Y5 v s]);rw[VH,PJ,h.data]
 ·show v.tape.synced=((Q7 D ((v.commits++[Y5 v s]).take v.synced)).length:Int);rw[List.take_append_of_le_length (by omega)];exact h.mark
 ·show(v.tape.data++ZM D (Y5 v s)).length<=200000;rw[tC];exact hroom
 ·show v.synced+(v.queue++[s]).length=(v.commits++[Y5 v s]).length;rw[tC,tC,sH,sH];omega
 ·show(v.queue++[s]).length<=6;have:=h.few;rw[tC,sH];omega
 ·intro j;show JW v.waits s M j=M↔j∈v.queue++[s];by_cases e:j=s;(·rw[e,Zp];simp);·rw[QY _ _ e,h.wait j];simp[e]
 ·show(v.queue++[s]).Nodup;rw[pY];exact⟨h.once,by simp,fun a ha b hb e=>hnq (by simp at hb;rw[<-hb,<-e];exact ha)⟩
 ·intro j hj;exact h.tx j (yT hj).2
 ·intro j hj;show JW v.begun s N j=N;by_cases e:j=s;(·rw[e,Zp]);·rw[QY _ _ e];exact h.idle j (by have:JW v.waits s M j=M:=hj;rwa[QY _ _ e]at this)
 ·intro hu;have:v.up=N:=hu;rw[hup]at this;cases this
theorem Za.commit(h:Za D v){s:Nat}(hb:v.begun s=M):Za D (YV D v s):=by
 unfold YV;by_cases h1:(v.txns s).writes.length=0;·rw[if_pos h1];exact(h.end s).tell _
 ·rw[if_neg h1];by_cases h2:v.queue.length=6∨v.commits.length=300;(·rw[if_pos h2];exact h.tell _);·rw[if_neg h2];by_cases h3:UU (v.txns s) v.commits=M;(·rw[if_pos h3];exact(h.end s).tell _);·rw[if_neg h3];by_cases h4:Q5 (QE v v.commits.length) (v.txns s).writes≠0;(·rw[if_pos h4];exact(h.end s).tell _);·rw[if_neg h4];by_cases h5:VF D v.tape (Y5 v s)≠0;(·rw[if_pos h5];exact(h.end s).tell _);·rw[if_neg h5];exact Bi h hb h1 h2 (sY h4) (sY h5)
theorem Za.req(h:Za D v)(hup:v.up=M)(s:Nat){r:Rq}(hr:X0 r):Za D (YY D v s r):=by
 unfold YY;by_cases h1:r.kind=8;·rw[if_pos h1];exact h.tell _
 ·rw[if_neg h1];by_cases h2:QD v s r=M;(·rw[if_pos h2];exact h.tell _);·rw[if_neg h2];(have h2':v.waits s=N∧(if r.kind=1then v.begun s else !v.begun s)=N:=by unfold QD at h2;cases hw:v.waits s;(·rw[hw]at h2;exact⟨rfl,by simpa using h2⟩);·rw[hw]at h2;exact absurd rfl h2);by_cases h3:r.kind=1;(·rw[if_pos h3];refine Za.tell ?_ _;have hm:=h.many;have htn:=h.turn;refine⟨h.goes,h.many,h.data,h.mark,h.room,h.turn,h.few,h.wait,h.once,fun j hj=>?_,fun j hj=>?_,fun hu=>?_⟩;(·show qM (JW v.txns s _ j)∧(JW v.txns s _ j).start<=_;by_cases e:j=s;(·rw[e,Zp];exact⟨⟨by show(0:Int)<=(v.synced:Int)∧(v.synced:Int)<=1048576;omega,by simp,by simp,by simp,by simp,by simp,by simp[NQ]⟩,Int.le_refl _⟩);·rw[QY _ _ e];exact h.tx j (by have:JW v.begun s M j=M:=hj;rwa[QY _ _ e]at this));(·show JW v.begun s M j=N;have hj':v.waits j=M:=hj;by_cases e:j=s;(·rw[e,h2'.1]at hj';cases hj');·rw[QY _ _ e];exact h.idle j hj');·have:v.up=N:=hu;rw[hup]at this;cases this);·rw[if_neg h3];(have hb:v.begun s=M:=by have:=h2'.2;rw[if_neg h3]at this;simpa using this);by_cases h4:r.kind=7;(·rw[if_pos h4];exact(h.end s).tell _);·rw[if_neg h4];by_cases h5:ZJ (v.synced:Int) (v.txns s).start=N;(·rw[if_pos h5];exact(h.end s).tell _);·rw[if_neg h5];by_cases h6:r.kind=6;(·rw[if_pos h6];exact h.commit hb);·rw[if_neg h6];have hk:=hr.kind;exact h.work hb hr (by omega)
theorem Za.ask(h:Za D v)(s:Nat)(d:List UInt8):Za D (ZZ D v s d):=by
 unfold ZZ;by_cases h1:v.up=N;·rw[if_pos h1];exact h.tell _
 ·rw[if_neg h1];by_cases h2:QJ d=0;(·rw[if_pos h2];exact h.req (by simpa using h1) s ((Yk _).1 (Yv h2).1));·rw[if_neg h2];exact h.tell _
theorem Za.sync(h:Za D v):Za D (UL v):=by
 have hm:=h.may;have htn:=h.turn;refine⟨h.goes,h.many,?_,?_,?_,?_,by simp[UL],?_,by simp[UL],?_,?_,?_⟩;·show(Jq v.tape).data=_;rw[Jq,if_pos hm];exact h.data
 ·show(Jq v.tape).synced=((Q7 D (v.commits.take (v.synced+v.queue.length))).length:Int);rw[Jq,if_pos hm,htn,sG,<-h.data]
 ·show(Jq v.tape).data.length<=_;rw[Jq,if_pos hm];exact h.room
 ·show v.synced+v.queue.length+([]:List Nat).length=v.commits.length;simpa using htn
 ·intro j;show JZ v.waits v.queue j=M↔j∈([]:List Nat);rw[JZ];constructor;(·intro e;split at e;(·cases e);·rename_i hq;exact absurd ((h.wait j).1 e) hq);·intro e;simp at e
 ·intro j hj;obtain⟨h1,h2⟩:=h.tx j hj;exact⟨h1,by show _<=((v.synced+v.queue.length:Nat):Int);have:(v.txns j).start<=(v.synced:Int):=h2;show(v.txns j).start<=_;omega⟩
 ·intro j hj;have:JZ v.waits v.queue j=M:=hj;rw[JZ]at this;split at this;(·cases this);·exact h.idle j this
 ·intro hu;exact⟨rfl,(h.down hu).2⟩
theorem L0{up:Bool}{t:Gc}{cs:List XG}{o:List Rp}(hg:vO [] 0 cs)(hm:cs.length<=300)(hd:t=⟨Q7 D cs,((Q7 D cs).length:Int)⟩)(hr:(Q7 D cs).length<=200000):Za D (Ge up t cs o):=by
 subst hd;refine⟨hg,hm,rfl,?_,hr,rfl,by simp[Ge],fun s=>by simp[Ge],by simp[Ge],fun s hs=>by simp[Ge]at hs,fun s hs=>by simp[Ge]at hs,fun _=>⟨rfl,fun _=>rfl⟩⟩;show((Q7 D cs).length:Int)=((Q7 D (cs.take cs.length)).length:Int);rw[sG]
theorem Ar(D:List UInt8->List UInt8):Za D WI:=L0 trivial (by
 simp) rfl (by
 simp[Q7])
theorem Uv(hD:∀x,(D x).length=4)(h:Za D v){k:Int}(hk:0<=k):∃j,v.synced<=j∧j<=v.commits.length∧Ky D v k=Ge N ⟨Q7 D (v.commits.take j),((Q7 D (v.commits.take j)).length:Int)⟩ (v.commits.take j) v.out∧(k=0->j=v.synced):=by
 have hm:=h.may;obtain⟨m1,m2,m3⟩:=(KO _).1 hm;have hit:zD 1 v.commits:=Nj h.goes;have htn:=h.turn;have hce:Uy v.tape k=0:=by rw[Uy,if_pos hm,if_neg (by omega)]
 have hcn:Xy v.tape k<=v.tape.data.length∧v.tape.synced<=(Xy v.tape k:Int):=by rw[Xy];split<;>omega
 have hcT:Xu v.tape k=⟨(Q7 D v.commits).take (Xy v.tape k),(Xy v.tape k:Int)⟩:=by rw[Xu,if_pos hce,h.data]
 have hrl:(Q7 D v.commits).length<=200000:=by rw[<-h.data];exact h.room
 obtain⟨j,h1,h2,h3,_,h5,h6⟩:=aE hD hit (Xy v.tape k) (Xy v.tape k:Int) (by rw[<-h.data];exact hcn.1) (by omega) hrl;have hsj:v.synced<=j:=by refine RZ (D:=D) (cs:=v.commits) (k:=Xy v.tape k) (by omega) h3 ?_;have:=h.mark;omega
 have e:(if(Xy v.tape k:Int)>((Q7 D (v.commits.take j)).length:Int)then((Q7 D (v.commits.take j)).length:Int)else(Xy v.tape k:Int))=((Q7 D (v.commits.take j)).length:Int):=by split<;>omega
 refine⟨j,hsj,h1,?_,?_⟩;·rw[Ky,hcT,h5,h6,e]
 ·intro hk0;by_cases hj:j=v.synced;(·exact hj);·exfalso;(have hn:(Xy v.tape k:Int)=v.tape.synced:=by rw[Xy,hk0];split<;>omega);have g1:=U9 D v.commits (v.synced+1) j (by omega);have g2:=B9 D v.commits v.synced (by omega);have hc:=(h.goes.at v.synced (by omega)).1;have g3:=(Bo hD hc).1;have hmk:=h.mark;rw[g2,tC]at g1;omega
theorem Za.crash(hD:∀x,(D x).length=4)(h:Za D v){k:Int}(hk:0<=k):Za D (Ky D v k):=by
 obtain⟨j,h1,h2,h3,_⟩:=Uv hD h hk;have hm:=h.many;have hle:=U9 D v.commits j v.commits.length h2;rw[sG,<-h.data]at hle;have hr:=h.room;rw[h3];exact L0 (h.goes.take j) (by rw[rH];omega) rfl (by omega)
theorem Za.start(h:Za D v):Za D {v with up:=M}:=⟨h.goes,h.many,h.data,h.mark,h.room,h.turn,h.few,h.wait,h.once,h.tx,h.idle,fun hu=>by
 cases hu⟩
theorem Za.act(hD:∀x,(D x).length=4)(h:Za D v){a:Ac}(ha:XH a):Za D (QU D v a):=by
 unfold QU;by_cases h1:a.kind=1;·rw[if_pos h1];exact h.ask _ _
 ·rw[if_neg h1];by_cases h2:a.kind=2;(·rw[if_pos h2];split;(·exact h.sync);·exact h);·rw[if_neg h2];by_cases h3:a.kind=3;(·rw[if_pos h3];split;(·exact h.crash hD (ha.keep h3).1);·exact h);·rw[if_neg h3];exact h.start
theorem Nb(hD:∀x,(D x).length=4):∀(l:List Ac)(v:Sv),Za D v->(∀a∈l,XH a)->Za D (l.foldl (QU D) v)|[],_,h,_=>h|a::l,v,h,ha=>Nb hD l _ (h.act hD (ha a (by simp))) (fun x hx=>ha x (by simp[hx]))
theorem xE(hD:∀x,(D x).length=4)(l:List Ac)(h:∀a∈l,XH a):Za D (Xm D l):=Nb hD l WI (Ar D) h
end
structure Same (v u : Sv) : Prop where
  up : u.up = v.up
  tape : u.tape = v.tape
  commits : u.commits = v.commits
  synced : u.synced = v.synced
  waits : u.waits = v.waits
  queue : u.queue = v.queue
theorem Same.rfl{v:Sv}:Same v v:=⟨by
 rfl,by
 rfl,by
 rfl,by
 rfl,by
 rfl,by
 rfl⟩
theorem Same.trans{v u w:Sv}(h:Same v u)(k:Same u w):Same v w:=⟨k.up.trans h.up,k.tape.trans h.tape,k.commits.trans h.commits,k.synced.trans h.synced,k.waits.trans h.waits,k.queue.trans h.queue⟩
structure dI (s : Nat) (v u : Sv) : Prop extends Same v u where
  out : ∃ r, u.out = v.out ++ [r] ∧ r.sess = (s : Int)
  begun : ∀ j, j ≠ s -> u.begun j = v.begun j
  txns : ∀ j, j ≠ s -> u.txns j = v.txns j
theorem Un(v:Sv)(s:Nat)(r:Rp)(h:r.sess=(s:Int)):dI s v (ZD v r):=⟨⟨rfl,rfl,rfl,rfl,rfl,rfl⟩,⟨r,rfl,h⟩,fun _ _=>rfl,fun _ _=>rfl⟩
theorem yW(v:Sv)(s:Nat)(r:Rp)(h:r.sess=(s:Int)):dI s v (ZD (XD v s) r):=⟨⟨rfl,rfl,rfl,rfl,rfl,rfl⟩,⟨r,rfl,h⟩,fun _ hj=>QY _ _ hj,fun _ _=>rfl⟩
theorem LN(v:Sv)(s:Nat)(t:Tx)(r:Rp)(h:r.sess=(s:Int)):dI s v (ZD {v with txns:=JW v.txns s t} r):=⟨⟨rfl,rfl,rfl,rfl,rfl,rfl⟩,⟨r,rfl,h⟩,fun _ _=>rfl,fun _ hj=>QY _ _ hj⟩
theorem DS(v:Sv)(s:Nat)(x:Rd)(o:Rp)(h:o.sess=(s:Int)):dI s v (KG v s x o):=by
 unfold KG;split;·exact LN v s _ _ h
 ·exact Un v s _ rfl
theorem Ic(v:Sv)(s:Nat)(w:Zi):dI s v (UH v s w):=by
 unfold UH;split;·exact LN v s _ _ rfl
 ·exact Un v s _ rfl
theorem Ow(v:Sv)(s:Nat)(r:Rq):dI s v (qD v s r):=by
 unfold qD;split;·exact Ic v s _
 ·split;(·unfold Er;split;(·exact Un v s _ rfl);·exact DS v s _ _ rfl);·unfold jX;split;(·exact DS v s _ _ rfl);·exact Un v s _ rfl
structure O0 (D : List UInt8 -> List UInt8) (s : Nat) (v u : Sv) : Prop where
  up : u.up = v.up
  tape : u.tape = zY D v.tape (Y5 v s)
  commits : u.commits = v.commits ++ [Y5 v s]
  synced : u.synced = v.synced
  waits : u.waits = JW v.waits s M
  queue : u.queue = v.queue ++ [s]
  out : u.out = v.out
  begun : u.begun = JW v.begun s N
  txns : u.txns = v.txns
  full : (v.txns s).writes.length ≠ 0
  room : v.queue.length ≠ 6 ∧ v.commits.length ≠ 300
  clash : UU (v.txns s) v.commits = N
  fits : Q5 (QE v v.commits.length) (v.txns s).writes = 0
  app : VF D v.tape (Y5 v s) = 0
theorem IW(D:List UInt8->List UInt8)(v:Sv)(s:Nat):dI s v (YV D v s)∨O0 D s v (YV D v s):=by
 unfold YV;by_cases h1:(v.txns s).writes.length=0;·rw[if_pos h1];exact .inl (yW v s _ rfl)
 ·rw[if_neg h1];by_cases h2:v.queue.length=6∨v.commits.length=300;(·rw[if_pos h2];exact .inl (Un v s _ rfl));·rw[if_neg h2];by_cases h3:UU (v.txns s) v.commits=M;(·rw[if_pos h3];exact .inl (yW v s _ rfl));·rw[if_neg h3];by_cases h4:Q5 (QE v v.commits.length) (v.txns s).writes≠0;(·rw[if_pos h4];exact .inl (yW v s _ rfl));·rw[if_neg h4];by_cases h5:VF D v.tape (Y5 v s)≠0;(·rw[if_pos h5];exact .inl (yW v s _ rfl));·rw[if_neg h5];exact .inr ⟨rfl,rfl,rfl,rfl,rfl,rfl,rfl,rfl,rfl,h1,⟨fun e=>h2 (.inl e),fun e=>h2 (.inr e)⟩,by simpa using h3,sY h4,sY h5⟩
theorem iD(D:List UInt8->List UInt8)(v:Sv)(s:Nat)(r:Rq):dI s v (YY D v s r)∨(r.kind=6∧QD v s r=N∧O0 D s v (YY D v s r)):=by
 unfold YY;by_cases h1:r.kind=8;·rw[if_pos h1];exact .inl (Un v s _ rfl)
 ·rw[if_neg h1];by_cases h2:QD v s r=M;(·rw[if_pos h2];exact .inl (Un v s _ rfl));·rw[if_neg h2];by_cases h3:r.kind=1;(·rw[if_pos h3];exact .inl ⟨⟨rfl,rfl,rfl,rfl,rfl,rfl⟩,⟨_,rfl,rfl⟩,fun _ hj=>QY _ _ hj,fun _ hj=>QY _ _ hj⟩);·rw[if_neg h3];by_cases h4:r.kind=7;(·rw[if_pos h4];exact .inl (yW v s _ rfl));·rw[if_neg h4];by_cases h5:ZJ (v.synced:Int) (v.txns s).start=N;(·rw[if_pos h5];exact .inl (yW v s _ rfl));·rw[if_neg h5];by_cases h6:r.kind=6;(·rw[if_pos h6];rcases IW D v s with h|h;(·exact .inl h);·exact .inr ⟨h6,by simpa using h2,h⟩);·rw[if_neg h6];exact .inl (Ow v s r)
theorem TG(D:List UInt8->List UInt8)(v:Sv)(s:Nat)(d:List UInt8):dI s v (ZZ D v s d)∨(v.up=M∧QJ d=0∧(Qu d).kind=6∧v.waits s=N∧v.begun s=M∧O0 D s v (ZZ D v s d)):=by
 unfold ZZ;by_cases h1:v.up=N;·rw[if_pos h1];exact .inl (Un v s _ rfl)
 ·rw[if_neg h1];by_cases h2:QJ d=0;(·rw[if_pos h2];rcases iD D v s (Qu d)with h|⟨h3,h4,h5⟩;(·exact .inl h);·right;unfold QD at h4;rw[if_neg (by omega)]at h4;simp only[rT,Bool.not_eq_false']at h4;exact⟨by simpa using h1,h2,h3,h4.1,h4.2,h5⟩);·rw[if_neg h2];exact .inl (Un v s _ rfl)
theorem fG(D:List UInt8->List UInt8)(v:Sv)(a:Ac):∃rs,(QU D v a).out=v.out++rs:=by
 unfold QU;split;·rcases TG D v a.sess.toNat a.data with h|h;(·obtain⟨r,h1,_⟩:=h.out;exact⟨[r],h1⟩);·exact⟨[],by rw[tE];exact h.2.2.2.2.2.out⟩
 ·split;(·split;(·exact⟨Y1 v.synced v.queue,rfl⟩);·exact⟨[],by rw[tE]⟩);·split;(·split;(·exact⟨[],by rw[tE];rfl⟩);·exact⟨[],by rw[tE]⟩);·exact⟨[],by rw[tE]⟩
theorem Fi:∀(q:List Nat)(n:Nat),(Y1 n q).length=q.length|[],_=>rfl|_::q,n=>by rw[Y1,sF,sF,Fi q]
theorem Bu{D:List UInt8->List UInt8}(hD:∀x,(D x).length=4){v:Sv}(h:Za D v){a:Ac}(ha:XH a):v.synced<=(QU D v a).synced∧(QU D v a).synced<=v.synced+v.queue.length∧(v.synced<(QU D v a).synced->a.kind=2∨a.kind=3):=by
 unfold QU;by_cases h1:a.kind=1;·rw[if_pos h1];(have e:(ZZ D v a.sess.toNat a.data).synced=v.synced:=by rcases TG D v a.sess.toNat a.data with h|h;(·exact h.synced);·exact h.2.2.2.2.2.synced);rw[e];exact⟨by omega,by omega,fun h=>by omega⟩
 ·rw[if_neg h1];by_cases h2:a.kind=2;(·rw[if_pos h2];split;(·exact⟨by show v.synced<=v.synced+v.queue.length;omega,tX _,fun _=>.inl h2⟩);·exact⟨by omega,by omega,fun _=>.inl h2⟩);·rw[if_neg h2];by_cases h3:a.kind=3;(·rw[if_pos h3];split;(·obtain⟨j,j1,j2,j3,_⟩:=Uv hD h (ha.keep h3).1;(have e:(Ky D v a.keep).synced=j:=by rw[j3];show(v.commits.take j).length=j;rw[rH];omega);have:=h.turn;rw[e];exact⟨j1,by omega,fun _=>.inr h3⟩);·exact⟨by omega,by omega,fun _=>.inr h3⟩);·rw[if_neg h3];exact⟨tX _,by show v.synced<=_;omega,fun h=>absurd h (Nat.lt_irrefl _)⟩
structure Gr where
  kind : Int
  sess : Int
  name : Int
  key : Int
  value : Int
def kW:Gr:=⟨0,0,0,0,0⟩
def YM(n:Int)(many:Nat):Nat:=if n<0then((-(n+1))%(many:Int)).toNat else(n%(many:Int)).toNat
theorem Uz(n:Int){many:Nat}(h:0<many):YM n many<many:=by
 unfold YM;split;·have b0:=oI (-(n+1)) (show(many:Int)≠0 by omega);have b1:=pZ (-(n+1)) (show(0:Int)<many by omega);omega
 ·have b0:=oI n (show(many:Int)≠0 by omega);have b1:=pZ n (show(0:Int)<many by omega);omega
def mJ(n:Int):List UInt8:=[sK (97+YM n 3)]
def mG(n:Int):List UInt8:=[sK (107+YM n 5)]
def nE(n:Int):List UInt8:=[sK (YM n 50)]
def GO(k:Nat)(a b c d:List UInt8):Rq:=if k<4then⟨1,[],[],[],[]⟩else if k<7then⟨2,a,b,[],[]⟩else if k=7then⟨3,a,b,c,[]⟩else if k<12then⟨4,a,b,[],d⟩else if k=12then⟨5,a,b,[],[]⟩else if k<17then⟨6,[],[],[],[]⟩else if k=17then⟨7,[],[],[],[]⟩else⟨8,a,b,[],[]⟩
def EG(g:Gr):Rq:=GO (YM g.kind 20) (mJ g.name) (mG g.key) (mG g.value) (nE g.value)
theorem fN(k:Nat){a b c d:List UInt8}(ha:a.length=1)(hb:b.length=1)(hc:c.length=1)(hd:d.length=1):X0 (GO k a b c d):=by
 unfold GO;repeat' split
 all_goals(refine⟨⟨?_,?_⟩,?_,?_,?_,?_,?_,?_,?_,?_⟩<;>simp[QW, *])
theorem L3(g:Gr):X0 (EG g):=fN _ rfl rfl rfl rfl
def Ez(g:Gr):Ac:=if YM g.kind 26=20∨YM g.kind 26=21∨YM g.kind 26=22then⟨2,0,0,[]⟩else if YM g.kind 26=23then⟨3,0,(YM g.value 80:Int),[]⟩else if YM g.kind 26=24then⟨4,0,0,[]⟩else if YM g.kind 26=25then⟨1,(YM g.sess 8:Int),0,[sK (pD.wrap g.value).toNat,sK (pD.wrap g.key).toNat]⟩else⟨1,(YM g.sess 8:Int),0,Kc (EG g)⟩
def X9(l:List Gr)(n:Nat):List Ac:=(l.take n).map Ez
theorem L5{r:Rq}(h:X0 r):Kc r=Ki r:=by
 rw[Kc,if_pos ((Yk r).2 h)]
theorem dB{r:Rq}(h:X0 r):(Kc r).length<=78:=by
 rw[L5 h];exact(uL h).1
theorem Ou{s:Int}{d:List UInt8}(h0:0<=s)(h1:s<=7)(hd:d.length<=4000):XH ⟨1,s,0,d⟩:=by
 refine⟨⟨by simp,by simp⟩,fun _=>⟨h0,h1⟩,fun h=>by simp at h,hd,fun h=>by simp at h,fun _=>rfl,fun h=>by simp at h⟩
theorem fQ:XH ⟨2,0,0,[]⟩:=⟨⟨by
 simp,by
 simp⟩,fun h=>by
 simp at h,fun h=>by
 simp at h,by
 simp,fun _=>rfl,fun _=>rfl,fun _=>rfl⟩
theorem bO:XH ⟨4,0,0,[]⟩:=⟨⟨by
 simp,by
 simp⟩,fun h=>by
 simp at h,fun h=>by
 simp at h,by
 simp,fun _=>rfl,fun _=>rfl,fun _=>rfl⟩
theorem On{k:Int}(h0:0<=k)(h1:k<=200000):XH ⟨3,0,k,[]⟩:=⟨⟨by
 simp,by
 simp⟩,fun h=>by
 simp at h,fun _=>⟨h0,h1⟩,by
 simp,fun _=>rfl,fun h=>by
 simp at h,fun _=>rfl⟩
theorem gD(g:Gr):XH (Ez g):=by
 have h8:=Uz g.sess (many:=8) (by decide);have h80:=Uz g.value (many:=80) (by decide);have hr:=dB (L3 g);unfold Ez;split;·exact fQ
 ·split;(·exact On (by omega) (by omega));·split;(·exact bO);·split;(·exact Ou (by omega) (by omega) (by simp));·exact Ou (by omega) (by omega) (by omega)
theorem Sa(l:List Gr)(n:Nat):∀a∈X9 l n,XH a:=fun a ha=>by
 obtain⟨g,_,rfl⟩:=List.mem_map.1 ha;exact gD g
structure UM (l : FL) : Prop where
  many : l.length * 48 <= 140737488355328
  each : ∀ i, i < l.length -> (l.getD i ([], [])).1.length <= 140737488355328 ∧ uJ (l.getD i ([], [])).2
theorem UM.len{l:FL}(h:UM l):l.length<=140737488355328:=by
 have:=h.many;omega
theorem Xr.fits{l:FL}(h:Xr l):UM l:=by
 refine⟨by have:=h.room;omega,fun i hi=>?_⟩;have:=h.tens l[i] (sV hi);rw[show l[i]=l.getD i ([],[])by simp[hi]]at this;exact⟨by omega,this.2.2.fits⟩
def DX(w:F)(b o:Nat)(t:Tn):Prop:=∃vn vp,w.cell? ⟨b,o,G⟩=I vn∧w.cell? ⟨b,o+1,G⟩=I vp∧Qe w vn t.1∧Qr w vp t.2
theorem DX.grown{w w':F}{b o:Nat}{t:Tn}(h:DX w b o t)(hg:L w w' G):DX w' b o t:=by
 obtain⟨vn,vp,c1,c2,h1,h2⟩:=h;exact⟨vn,vp,hg.cell c1 (by simp),hg.cell c2 (by simp),h1.grown hg,h2.grown hg⟩
def ZC(w:F)(v:H)(l:FL):Prop:=∃a cap,v=J a l.length cap∧l.length<=cap∧((l=[]∧(a=G->cap=0))∨∃b o,a=I ⟨b,o,G⟩∧∀i,i<l.length->DX w b (o+i*2) (l.getD i ([],[])))
theorem qT(w:F):ZC w (J G 0 0) []:=⟨G,0,rfl,tX _,.inl ⟨rfl,fun _=>rfl⟩⟩
theorem ZC.grown{w w':F}{v:H}{l:FL}(h:ZC w v l)(hg:L w w' G):ZC w' v l:=by
 obtain⟨a,cap,rfl,hc,h⟩:=h;refine⟨a,cap,rfl,hc,?_⟩;rcases h with h|⟨b,o,rfl,h⟩;·exact .inl h
 ·exact .inr ⟨b,o,rfl,fun i hi=>(h i hi).grown hg⟩
theorem ZC.shape{w:F}{v:H}{l:FL}(h:ZC w v l):∃a cap,v=J a l.length cap:=by
 obtain⟨a,cap,rfl,_⟩:=h;exact⟨a,cap,rfl⟩
theorem ZC.at{w:F}{a:Option rF}{n cap:Nat}{l:FL}(h:ZC w (J a n cap) l)(i:Nat)(hi:i<l.length):∃b o,a=I ⟨b,o,G⟩∧DX w b (o+i*2) (l.getD i ([],[])):=by
 obtain⟨a',cap',e,hc,h⟩:=h;simp only[tJ]at e;obtain⟨rfl,rfl,rfl⟩:=e;rcases h with⟨rfl,_⟩|⟨b,o,rfl,h⟩;·simp at hi
 ·exact⟨b,o,rfl,h i hi⟩
theorem gL:(65:Nat)≠5:=by
 decide
theorem gH:(65:Nat)≠44:=by
 decide
def ZH(base:Nat)(w:F)(v:H)(l:FL):Prop:=∃vs:List (H×H),vs.length=l.length∧w.ownsRow base 65 2 v l.length (flat vs)∧∀i,i<l.length->Qi 0 w (vs.getD i (sP,sP)).1 (l.getD i ([],[])).1∧QN 0 w (vs.getD i (sP,sP)).2 (l.getD i ([],[])).2
theorem yK(base:Nat)(w:F):ZH base w (J G 0 0) []:=⟨[],rfl,sR _ _ _ _,fun i hi=>by
 simp at hi⟩
theorem ZH.row{base:Nat}{w:F}{v:H}{l:FL}(h:ZH base w v l):v.ownBlock=G∨∃g cur t fz,v.ownBlock=I g∧base<=g∧w.heap[g]?=I (Y cur t fz)∧t≠5∧t≠44:=by
 obtain⟨vs,_,h,_⟩:=h;rcases h.2with⟨rfl,_⟩|⟨g,cap,cur,rfl,hb,hg,_⟩;·exact .inl rfl
 ·exact .inr ⟨g,cur,_,_,rfl,hb,hg,gL,gH⟩
theorem ZH.row0{base:Nat}{w:F}{v:H}{l:FL}(h:ZH base w v l):v.ownBlock=G∨∃g cur t fz,v.ownBlock=I g∧0<=g∧w.heap[g]?=I (Y cur t fz)∧t≠5∧t≠44:=by
 rcases h.row with h|⟨g,cur,t,fz,h1,_,h3⟩;·exact .inl h
 ·exact .inr ⟨g,cur,t,fz,h1,tW _,h3⟩
theorem i8{base:Nat}{w:F}{r:Option Nat}(h:r=G∨∃g cur t fz,r=I g∧base<=g∧w.heap[g]?=I (Y cur t fz)∧t≠5∧t≠44):r=G∨∃g cur t fz,r=I g∧base<=g∧w.heap[g]?=I (Y cur t fz)∧t≠5:=by
 rcases h with h|⟨g,cur,t,fz,h1,h2,h3,h4,_⟩;·exact .inl h
 ·exact .inr ⟨g,cur,t,fz,h1,h2,h3,h4⟩
theorem ZH.lt{base:Nat}{w:F}{v:H}{l:FL}(h:ZH base w v l):∀k,v.ownBlock=I k->base<=k∧k<w.heap.size:=by
 obtain⟨vs,_,h,_⟩:=h;exact sL h
theorem ZH.grownNone{base:Nat}{w w':F}{v:H}{l:FL}(h:ZH base w v l)(hg:L w w' G):ZH base w' v l:=by
 obtain⟨vs,h1,h2,h3⟩:=h;refine⟨vs,h1,sB h2 hg ?_,fun i hi=>⟨((h3 i hi).1).keptT hg (.inl rfl),((h3 i hi).2).kept hg (.inl rfl)⟩⟩;cases hv:v.ownBlock with|none=>exact .inl rfl|some k=>exact .inr (by simp)
theorem ZH.alloc{base:Nat}{w:F}{v:H}{l:FL}(h:ZH base w v l)(o:Obj):ZH base (w.alloc o) v l:=h.grownNone (sS _ _ _)
theorem ZH.shape{base:Nat}{w:F}{v:H}{l:FL}(h:ZH base w v l):∃a cap,v=J a l.length cap:=by
 obtain⟨vs,_,h,_⟩:=h;rcases h.2with⟨rfl,h0⟩|⟨g,cap,cur,rfl,_⟩;·exact⟨G,0,by rw[h0]⟩
 ·exact⟨_,cap,rfl⟩
theorem ZH.cells{base:Nat}{w:F}{g n cap:Nat}{vs:List (H×H)}{l:FL}(hr:w.ownsRow base 65 2 (J (I ⟨g,0,G⟩) n cap) l.length (flat vs)):∀j u,(flat vs)[j]?=I u->w.cell? ⟨g,j,G⟩=I u:=by
 intro j u hj;rcases hr.2with⟨e,_⟩|⟨g',cap',cur,e,hb,hg,hn,hm,hs,ht⟩;·cases e
 ·simp only[tJ,tB,rO]at e;obtain⟨⟨rfl,_⟩,_,_⟩:=e;(have hlt:j<l.length*2:=by have:=(sO.1 hj).1;rw[hr.1]at this;exact this);(have e2:(cur.toList.take (l.length*2))[j]?=(flat vs)[j]?:=by rw[ht]);rw[sI,if_pos hlt,hj]at e2;simp[tY,hg];simpa using e2
theorem ZH.list{base:Nat}{w:F}{v:H}{l:FL}(h:ZH base w v l):ZC w v l:=by
 obtain⟨vs,hl,hr,h3⟩:=h;have hr':=hr;rcases hr.2with⟨rfl,h0⟩|⟨g,cap,cur,rfl,hb,hg,hn,hm,hs,ht⟩;·have:l=[]:=tM h0;subst this;exact qT w
 ·refine⟨_,cap,rfl,hn,.inr ⟨g,0,rfl,fun i hi=>?_⟩⟩;have hf:=xU vs i (by omega);refine⟨(vs.getD i (sP,sP)).1,(vs.getD i (sP,sP)).2,?_,?_,(h3 i hi).1.1,(h3 i hi).2.list⟩;(·have:=ZH.cells hr' _ _ hf.1;rw[sU];exact this);·have:=ZH.cells hr' _ _ hf.2;rw[sU];exact this
theorem T8{base:Nat}{w W w1:F}{v:H}{l:FL}(h:L w W G)(ho:ZH base W v l)(hb:w.heap.size<=base)(hg:L W w1 v.ownBlock):L w w1 G:=⟨hg.os.trans h.os,hg.tape.trans h.tape,hg.output.trans h.output,tR h.size hg.size,fun i hi hn=>(hg.block i (tI hi h.size) (fun e=>by
 have:=(ho.lt i e.symm).1;omega)).trans (h.block i hi hn)⟩
theorem Tg:(O.info? 65).map (fun i=>(i.zero,i.size,i.bytes))=I (I (sX #[J G 0 0,J G 0 0]),2,48):=by
 kernel_rfl
theorem kC{w:F}{o:rM}{a:Act}{K:Act->F->Prop}{Q:Exit->Act->F->Prop}(s x:rJ)(ho:o.op=.call {callee:=.builtin .append,args:=#[s,x],argTypes:=#[26,26]})(base:Nat)(v:H)(l:FL)(hs:a.eval s=v)(hown:ZH base w v l)(vn vp:H)(t:Tn)(hk:Qi 0 w vn t.1)(hv:QN 0 w vp t.2)(nb:Nat)(hb:w.heap[nb]?=I (Y #[vn,vp] 65))(hx:a.eval x=J (I ⟨nb,0,G⟩) 1 1)(hl:(l.length+1)*48<=140737488355328)(hbase:base<=w.heap.size)(h:∀v' w',ZH base w' v' (l++[t])->L w w' v.ownBlock->K (a.put o.dst v') w'):o.wp O a w K Q:=by
 obtain⟨i0,hi,hz0,hz1,hz2⟩:=r7 Tg;have hrow:=hown.row0;obtain⟨vs,hvl,hr,hp⟩:=hown;refine wp_append_lies w s x 26 ho base 65 i0 (sX #[J G 0 0,J G 0 0]) 2 48 Tryz.underlying26 hi hz0 hz1 hz2 rfl (by decide) v l.length (flat vs) hs hr ⟨nb,0,G⟩ 1 1 (flat [(vn,vp)]) hx rfl (rC (cs:=#[vn,vp]) hb) ?_ (by omega) (by unfold pB;omega) hl hbase _ rfl ?_;·intro u hu;simp only[flat,tP,rI,tE,tL,tN,or_false]at hu;rcases hu with rfl|rfl;(·exact Zz hk);·exact yG hv
 ·intro g cap w' h1 h2 _ _;refine h _ w' ⟨vs++[(vn,vp)],by simp[hvl],?_,?_⟩ h2;(·rw[J6,tC];exact h1);·intro i hi;rw[Js,Js,hvl];by_cases hil:i<l.length;(·rw[if_pos hil,if_pos hil];exact⟨(hp i hil).1.keptT h2 (i8 hrow),(hp i hil).2.kept h2 hrow⟩);·rw[if_neg hil,if_neg hil];(obtain rfl:i=l.length:=by simp at hi;omega);rw[oK];exact⟨hk.keptT h2 (i8 hrow),hv.kept h2 hrow⟩
theorem F6{w:F}{ops:Array rM}{o:rM}{a:Act}{K:Act->F->Prop}{Q:Exit->Act->F->Prop}{E:Prop}(hgd:o.guard=G)(s x:rJ)(ho:o.op=.call {callee:=.builtin .append,args:=#[s,x],argTypes:=#[26,26]})(base:Nat)(v:H)(l:FL)(hs:a.eval s=v)(hown:ZH base w v l)(vn vp:H)(t:Tn)(hk:Qi 0 w vn t.1)(hv:QN 0 w vp t.2)(nb:Nat)(hb:w.heap[nb]?=I (Y #[vn,vp] 65))(hx:a.eval x=J (I ⟨nb,0,G⟩) 1 1)(hl:(l.length+1)*48<=140737488355328)(hbase:base<=w.heap.size)(h:∀v' w',ZH base w' v' (l++[t])->L w w' v.ownBlock->K (a.put o.dst v') w'):if sJ o (pH ops a.tmps)=M then Oper.wp O o a w K Q else E:=by
 have hw:sJ o (pH ops a.tmps)=M:=by simp[sJ,hgd]
 rw[if_pos hw];exact kC s x ho base v l hs hown vn vp t hk hv nb hb hx hl hbase h
theorem uW{w:F}{ops:Array rM}{rest:List rM}{o:rM}{a:Act}{Q:Exit->Act->F->Prop}(hgd:o.guard=G)(s x:rJ)(ho:o.op=.call {callee:=.builtin .append,args:=#[s,x],argTypes:=#[26,26]})(base:Nat)(v:H)(l:FL)(hs:a.eval s=v)(hown:ZH base w v l)(vn vp:H)(t:Tn)(hk:Qi 0 w vn t.1)(hv:QN 0 w vp t.2)(nb:Nat)(hb:w.heap[nb]?=I (Y #[vn,vp] 65))(hx:a.eval x=J (I ⟨nb,0,G⟩) 1 1)(hl:(l.length+1)*48<=140737488355328)(hbase:base<=w.heap.size)(h:∀v' w',ZH base w' v' (l++[t])->L w w' v.ownBlock->wpList O ops Q rest (a.put o.dst v') w'):wpList O ops Q (o::rest) a w:=wpList_plain hgd fun _ hK=>kC s x ho base v l hs hown vn vp t hk hv nb hb hx hl hbase fun v' w' h1 h2=>hK _ _ (h v' w' h1 h2)
theorem Qk{w:F}{b i:Nat}{cs:Array H}{t:sE}{fz:Nat×Nat}{u:H}(h:w.heap[b]?=I (Y cs t fz)):(tH w ⟨b,i,G⟩ u).heap[b]?=I (Y (cs.setIfInBounds i u) t fz):=by
 simp only[tH,sC,if_true,h,rS];rfl
theorem Qy{w:F}{b c i:Nat}{o:Obj}{u:H}(h:w.heap[b]?=I o)(hne:b≠c):(tH w ⟨c,i,G⟩ u).heap[b]?=I o:=by
 simp only[tH,sC];rw[if_neg (fun e=>hne e.symm)];exact h
theorem YP(w:F)(b i:Nat)(u:H):L w (tH w ⟨b,i,G⟩ u) (I b):=Qh (Qb w _) i u
theorem Qi.setOther{base:Nat}{w:F}{v:H}{bs:List UInt8}(h:Qi base w v bs){b i:Nat}{cs:Array H}{t:sE}{fz:Nat×Nat}(hb:w.heap[b]?=I (Y cs t fz))(ht:t≠5)(hbb:base<=b)(u:H):Qi base (tH w ⟨b,i,G⟩ u) v bs:=h.keptT (YP w b i u) (.inr ⟨b,cs,t,fz,rfl,hbb,hb,ht⟩)
def Q6(rb pb:Nat)(w:F)(v:H)(l:List Zi):Prop:=∃us:List WV,us.map (·.1)=l∧w.ownsRow rb 147 4 v l.length (Je us)∧∀x∈us,Qi pb w x.2.1 x.1.name∧Qi pb w x.2.2.1 x.1.key∧Qi pb w x.2.2.2 x.1.value
theorem Xz(rb pb:Nat)(w:F):Q6 rb pb w (J G 0 0) []:=⟨[],rfl,sR _ _ _ _,fun x hx=>by
 simp at hx⟩
theorem Q6.row{rb pb:Nat}{w:F}{v:H}{l:List Zi}(h:Q6 rb pb w v l):v.ownBlock=G∨∃g cur fz,v.ownBlock=I g∧rb<=g∧w.heap[g]?=I (Y cur 147 fz):=by
 obtain⟨us,_,h,_⟩:=h;rcases h.2with⟨rfl,_⟩|⟨g,cap,cur,rfl,hb,hg,_⟩;·exact .inl rfl
 ·exact .inr ⟨g,cur,_,rfl,hb,hg⟩
theorem Q6.lt{rb pb:Nat}{w:F}{v:H}{l:List Zi}(h:Q6 rb pb w v l):∀k,v.ownBlock=I k->rb<=k∧k<w.heap.size:=by
 obtain⟨us,_,h,_⟩:=h;exact sL h
theorem Q6.ne{rb pb:Nat}{w:F}{v:H}{l:List Zi}(h:Q6 rb pb w v l){b:Nat}{cs:Array H}{t:sE}{fz:Nat×Nat}(hb:w.heap[b]?=I (Y cs t fz))(ht:t≠147):v.ownBlock≠I b:=by
 intro e;rcases h.row with h0|⟨g,cur,fz2,h1,_,h2⟩;·rw[h0]at e;cases e
 ·rw[h1]at e;cases e;rw[hb]at h2;simp only[tB,sD]at h2;exact ht h2.2.1
theorem Q6.kept{rb pb:Nat}{w w':F}{v:H}{l:List Zi}(h:Q6 rb pb w v l){row:Option Nat}(hg:L w w' row)(hne:v.ownBlock=G∨v.ownBlock≠row)(hrow:row=G∨∃g cur t fz,row=I g∧pb<=g∧w.heap[g]?=I (Y cur t fz)∧t≠5):Q6 rb pb w' v l:=by
 obtain⟨us,h1,h2,h3⟩:=h;exact⟨us,h1,sB h2 hg hne,fun x hx=>⟨(h3 x hx).1.keptT hg hrow,(h3 x hx).2.1.keptT hg hrow,(h3 x hx).2.2.keptT hg hrow⟩⟩
theorem Q6.grownNone{rb pb:Nat}{w w':F}{v:H}{l:List Zi}(h:Q6 rb pb w v l)(hg:L w w' G):Q6 rb pb w' v l:=h.kept hg (by
 cases hv:v.ownBlock with|none=>exact .inl rfl|some k=>exact .inr (by simp)) (.inl rfl)
theorem Q6.setOther{rb pb:Nat}{w:F}{v:H}{l:List Zi}(h:Q6 rb pb w v l){b i:Nat}{cs:Array H}{t:sE}{fz:Nat×Nat}(hb:w.heap[b]?=I (Y cs t fz))(ht:t≠5)(ht2:t≠147)(hbb:pb<=b)(u:H):Q6 rb pb (tH w ⟨b,i,G⟩ u) v l:=h.kept (YP w b i u) (.inr (h.ne hb ht2)) (.inr ⟨b,cs,t,fz,rfl,hbb,hb,ht⟩)
theorem Q6.shape{rb pb:Nat}{w:F}{v:H}{l:List Zi}(h:Q6 rb pb w v l):∃a cap,v=J a l.length cap:=by
 obtain⟨us,_,h,_⟩:=h;rcases h.2with⟨rfl,h0⟩|⟨g,cap,cur,rfl,_⟩;·exact⟨G,0,by rw[h0]⟩
 ·exact⟨_,cap,rfl⟩
theorem Q6.any{rb pb:Nat}{w:F}{v:H}{l:List Zi}(h:Q6 rb pb w v l):∃a n cap,v=J a n cap:=by
 obtain⟨a,cap,e⟩:=h.shape;exact⟨a,_,cap,e⟩
theorem Q6.down{rb pb:Nat}{w:F}{v:H}{l:List Zi}(h:Q6 rb pb w v l)(rb':Nat)(hb:rb'<=rb):Q6 rb' pb w v l:=by
 obtain⟨us,h1,h2,h3⟩:=h;refine⟨us,h1,⟨h2.1,?_⟩,h3⟩;rcases h2.2with h|⟨g,cap,cur,e,hb2,rest⟩;·exact .inl h
 ·exact .inr ⟨g,cap,cur,e,tR hb hb2,rest⟩
theorem Q6.writesB{rb pb:Nat}{w:F}{v:H}{l:List Zi}(h:Q6 rb pb w v l):Xq pb w v l:=by
 obtain⟨us,hl,hr,h3⟩:=h;rcases hr.2with⟨rfl,h0⟩|⟨g,cap,cur,rfl,hb,hg,hn,hm,hs,ht⟩;·have:l=[]:=tM h0;rw[this];exact Cc pb w
 ·(have hcell:∀j u,(Je us)[j]?=I u->w.cell? ⟨g,j,G⟩=I u:=by intro j u hj;(have hlt:j<l.length*4:=by have:=(sO.1 hj).1;rw[hr.1]at this;exact this);(have e2:(cur.toList.take (l.length*4))[j]?=(Je us)[j]?:=by rw[ht]);rw[sI,if_pos hlt,hj]at e2;simp[tY,hg];simpa using e2);refine⟨_,cap,rfl,hn,.inr ⟨g,0,rfl,.inr ⟨_,_,hg⟩,fun i hi=>?_⟩⟩;obtain⟨e1,e2⟩:=Wp hl i hi;(have hlen:us.length=l.length:=by rw[<-hl];simp);obtain⟨c1,c2,c3,c4⟩:=Me us i (by omega);have hp:=h3 _ e2;rw[e1]at c3 hp;rw[sU];exact⟨_,_,_,hcell _ _ c1,hcell _ _ c2,hcell _ _ c3,hcell _ _ c4,hp.1,hp.2.1,hp.2.2⟩
theorem Q6.list{rb pb:Nat}{w:F}{v:H}{l:List Zi}(h:Q6 rb pb w v l):QQ w v l:=h.writesB.list
theorem V8{rb pb:Nat}{w W w1:F}{v:H}{l:List Zi}(h:L w W G)(ho:Q6 rb pb W v l)(hb:w.heap.size<=rb)(hg:L W w1 v.ownBlock):L w w1 G:=⟨hg.os.trans h.os,hg.tape.trans h.tape,hg.output.trans h.output,tR h.size hg.size,fun i hi hn=>(hg.block i (tI hi h.size) (fun e=>by
 have:=(ho.lt i e.symm).1;omega)).trans (h.block i hi hn)⟩
def RH(w:F)(b o:Nat)(r:Rd):Prop:=∃vn vk vl,w.cell? ⟨b,o,G⟩=I vn∧w.cell? ⟨b,o+1,G⟩=I vk∧w.cell? ⟨b,o+2,G⟩=I (tQ r.wide)∧w.cell? ⟨b,o+3,G⟩=I vl∧Qe w vn r.name∧Qe w vk r.key∧Qe w vl r.last
theorem RH.grown{w w':F}{b o:Nat}{r:Rd}(h:RH w b o r)(hg:L w w' G):RH w' b o r:=by
 obtain⟨vn,vk,vl,c1,c2,c3,c4,h1,h2,h3⟩:=h;exact⟨vn,vk,vl,hg.cell c1 (by simp),hg.cell c2 (by simp),hg.cell c3 (by simp),hg.cell c4 (by simp),h1.grown hg,h2.grown hg,h3.grown hg⟩
def Xc(w:F)(v:H)(l:List Rd):Prop:=∃a cap,v=J a l.length cap∧l.length<=cap∧((l=[]∧(a=G->cap=0))∨∃b o,a=I ⟨b,o,G⟩∧∀i,i<l.length->RH w b (o+i*4) (l.getD i Zg))
theorem Bf(w:F):Xc w (J G 0 0) []:=⟨G,0,rfl,tX _,.inl ⟨rfl,fun _=>rfl⟩⟩
theorem Xc.shape{w:F}{v:H}{l:List Rd}(h:Xc w v l):∃a cap,v=J a l.length cap:=by
 obtain⟨a,cap,rfl,_⟩:=h;exact⟨a,cap,rfl⟩
theorem Xc.grown{w w':F}{v:H}{l:List Rd}(h:Xc w v l)(hg:L w w' G):Xc w' v l:=by
 obtain⟨a,cap,rfl,hc,h⟩:=h;refine⟨a,cap,rfl,hc,?_⟩;rcases h with h|⟨b,o,rfl,h⟩;·exact .inl h
 ·exact .inr ⟨b,o,rfl,fun i hi=>(h i hi).grown hg⟩
theorem Xc.at{w:F}{a:Option rF}{n cap:Nat}{l:List Rd}(h:Xc w (J a n cap) l)(i:Nat)(hi:i<l.length):∃b o,a=I ⟨b,o,G⟩∧RH w b (o+i*4) (l.getD i Zg):=by
 obtain⟨a',cap',e,hc,h⟩:=h;simp only[tJ]at e;obtain⟨rfl,rfl,rfl⟩:=e;rcases h with⟨rfl,_⟩|⟨b,o,rfl,h⟩;·simp at hi
 ·exact⟨b,o,rfl,h i hi⟩
structure mC (l : List Rd) : Prop where
  many : l.length * 80 <= 140737488355328
  each : ∀ i, i < l.length -> Fe (l.getD i Zg)
structure xO (t : Tx) : Prop where
  start : -9223372036854775808 <= t.start ∧ t.start <= 9223372036854775807
  reads : mC t.reads
  writes : uN t.writes
def G2(w:F)(v:H)(t:Tx):Prop:=∃vr vw,v=sX #[tA tD t.start,vr,vw]∧Xc w vr t.reads∧QQ w vw t.writes
theorem G2.grown{w w':F}{v:H}{t:Tx}(h:G2 w v t)(hg:L w w' G):G2 w' v t:=by
 obtain⟨vr,vw,rfl,h1,h2⟩:=h;exact⟨vr,vw,rfl,h1.grown hg,h2.grown hg⟩
theorem G2.agg{w:F}{v:H}{t:Tx}(h:G2 w v t):∃ra rc wa wc,v=sX #[tA tD t.start,J ra t.reads.length rc,J wa t.writes.length wc]:=by
 obtain⟨vr,vw,rfl,h1,h2⟩:=h;obtain⟨ra,rc,rfl⟩:=h1.shape;obtain⟨wa,wc,rfl⟩:=h2.shape;exact⟨ra,rc,wa,wc,rfl⟩
theorem G2.parts{w:F}{t:Tx}{x y z:H}(h:G2 w (sX #[x,y,z]) t):x=tA tD t.start∧Xc w y t.reads∧QQ w z t.writes:=by
 obtain⟨vr,vw,e,h1,h2⟩:=h;simp only[Value.agg.injEq,Array.mk.injEq,List.cons.injEq,and_true]at e;obtain⟨rfl,rfl,rfl⟩:=e;exact⟨rfl,h1,h2⟩
theorem PR{r:Rd}(h:XI r=0):Fe r:=by
 obtain⟨h1,h2,h3⟩:=(EW r).1 h;refine⟨by omega,by omega,?_⟩;split at h3;·omega
 ·rw[h3];simp
abbrev RV:=Rd×H×H×H
def BZ:RV:=(Zg,sP,sP,sP)
def Gw(us:List RV):List H:=us.flatMap fun x=>[x.2.1,x.2.2.1,tQ x.1.wide,x.2.2.2]
theorem Mp(a b:List RV):Gw (a++b)=Gw a++Gw b:=by
 simp[Gw]
theorem Nw:∀(us:List RV)(i:Nat),i<us.length->(Gw us)[i*4]?=I (us.getD i BZ).2.1∧(Gw us)[i*4+1]?=I (us.getD i BZ).2.2.1∧(Gw us)[i*4+2]?=I (tQ (us.getD i BZ).1.wide)∧(Gw us)[i*4+3]?=I (us.getD i BZ).2.2.2|[],i,h=>by simp at h|x::us,0,_=>⟨rfl,rfl,rfl,rfl⟩|x::us,i+1,h=>by have:=Nw us i (by simpa using h);rw[show(i+1)*4=i*4+4by omega];exact this
theorem lC:(163:Nat)≠5:=by
 decide
theorem lY:(163:Nat)≠147:=by
 decide
def ZQ(rb pb:Nat)(w:F)(v:H)(l:List Rd):Prop:=∃us:List RV,us.map (·.1)=l∧w.ownsRow rb 163 4 v l.length (Gw us)∧∀x∈us,Qi pb w x.2.1 x.1.name∧Qi pb w x.2.2.1 x.1.key∧Qi pb w x.2.2.2 x.1.last
theorem Ux(rb pb:Nat)(w:F):ZQ rb pb w (J G 0 0) []:=⟨[],rfl,sR _ _ _ _,fun x hx=>by
 simp at hx⟩
theorem ZQ.row{rb pb:Nat}{w:F}{v:H}{l:List Rd}(h:ZQ rb pb w v l):v.ownBlock=G∨∃g cur fz,v.ownBlock=I g∧rb<=g∧w.heap[g]?=I (Y cur 163 fz):=by
 obtain⟨us,_,h,_⟩:=h;rcases h.2with⟨rfl,_⟩|⟨g,cap,cur,rfl,hb,hg,_⟩;·exact .inl rfl
 ·exact .inr ⟨g,cur,_,rfl,hb,hg⟩
theorem ZQ.lt{rb pb:Nat}{w:F}{v:H}{l:List Rd}(h:ZQ rb pb w v l):∀k,v.ownBlock=I k->rb<=k∧k<w.heap.size:=by
 obtain⟨us,_,h,_⟩:=h;exact sL h
theorem ZQ.ne{rb pb:Nat}{w:F}{v:H}{l:List Rd}(h:ZQ rb pb w v l){b:Nat}{cs:Array H}{t:sE}{fz:Nat×Nat}(hb:w.heap[b]?=I (Y cs t fz))(ht:t≠163):v.ownBlock≠I b:=by
 intro e;rcases h.row with h0|⟨g,cur,fz2,h1,_,h2⟩;·rw[h0]at e;cases e
 ·rw[h1]at e;cases e;rw[hb]at h2;simp only[tB,sD]at h2;exact ht h2.2.1
theorem ZQ.kept{rb pb:Nat}{w w':F}{v:H}{l:List Rd}(h:ZQ rb pb w v l){row:Option Nat}(hg:L w w' row)(hne:v.ownBlock=G∨v.ownBlock≠row)(hrow:row=G∨∃g cur t fz,row=I g∧pb<=g∧w.heap[g]?=I (Y cur t fz)∧t≠5):ZQ rb pb w' v l:=by
 obtain⟨us,h1,h2,h3⟩:=h;exact⟨us,h1,sB h2 hg hne,fun x hx=>⟨(h3 x hx).1.keptT hg hrow,(h3 x hx).2.1.keptT hg hrow,(h3 x hx).2.2.keptT hg hrow⟩⟩
theorem ZQ.grownNone{rb pb:Nat}{w w':F}{v:H}{l:List Rd}(h:ZQ rb pb w v l)(hg:L w w' G):ZQ rb pb w' v l:=h.kept hg (by
 cases hv:v.ownBlock with|none=>exact .inl rfl|some k=>exact .inr (by simp)) (.inl rfl)
theorem ZQ.setOther{rb pb:Nat}{w:F}{v:H}{l:List Rd}(h:ZQ rb pb w v l){b i:Nat}{cs:Array H}{t:sE}{fz:Nat×Nat}(hb:w.heap[b]?=I (Y cs t fz))(ht:t≠5)(ht2:t≠163)(hbb:pb<=b)(u:H):ZQ rb pb (tH w ⟨b,i,G⟩ u) v l:=h.kept (YP w b i u) (.inr (h.ne hb ht2)) (.inr ⟨b,cs,t,fz,rfl,hbb,hb,ht⟩)
theorem ZQ.down{rb pb:Nat}{w:F}{v:H}{l:List Rd}(h:ZQ rb pb w v l)(rb':Nat)(hb:rb'<=rb):ZQ rb' pb w v l:=by
 obtain⟨us,h1,h2,h3⟩:=h;refine⟨us,h1,⟨h2.1,?_⟩,h3⟩;rcases h2.2with h|⟨g,cap,cur,e,hb2,rest⟩;·exact .inl h
 ·exact .inr ⟨g,cap,cur,e,tR hb hb2,rest⟩
theorem ZQ.shape{rb pb:Nat}{w:F}{v:H}{l:List Rd}(h:ZQ rb pb w v l):∃a cap,v=J a l.length cap:=by
 obtain⟨us,_,h,_⟩:=h;rcases h.2with⟨rfl,h0⟩|⟨g,cap,cur,rfl,_⟩;·exact⟨G,0,by rw[h0]⟩
 ·exact⟨_,cap,rfl⟩
theorem Iw{us:List RV}{l:List Rd}(h:us.map (·.1)=l)(i:Nat)(hi:i<l.length):(us.getD i BZ).1=l.getD i Zg∧us.getD i BZ∈us:=by
 subst h;have hi':i<us.length:=by simpa using hi
 refine⟨by simp[hi'],?_⟩;rw[show us.getD i BZ=us[i]by simp[hi']];exact sV hi'
theorem ZQ.list{rb pb:Nat}{w:F}{v:H}{l:List Rd}(h:ZQ rb pb w v l):Xc w v l:=by
 obtain⟨us,hl,hr,h3⟩:=h;rcases hr.2with⟨rfl,h0⟩|⟨g,cap,cur,rfl,hb,hg,hn,hm,hs,ht⟩;·have:l=[]:=tM h0;rw[this];exact Bf w
 ·(have hcell:∀j u,(Gw us)[j]?=I u->w.cell? ⟨g,j,G⟩=I u:=by intro j u hj;(have hlt:j<l.length*4:=by have:=(sO.1 hj).1;rw[hr.1]at this;exact this);(have e2:(cur.toList.take (l.length*4))[j]?=(Gw us)[j]?:=by rw[ht]);rw[sI,if_pos hlt,hj]at e2;simp[tY,hg];simpa using e2);refine⟨_,cap,rfl,hn,.inr ⟨g,0,rfl,fun i hi=>?_⟩⟩;obtain⟨e1,e2⟩:=Iw hl i hi;(have hlen:us.length=l.length:=by rw[<-hl];simp);obtain⟨c1,c2,c3,c4⟩:=Nw us i (by omega);have hp:=h3 _ e2;rw[e1]at c3 hp;rw[sU];exact⟨_,_,_,hcell _ _ c1,hcell _ _ c2,hcell _ _ c3,hcell _ _ c4,hp.1.1,hp.2.1.1,hp.2.2.1⟩
theorem TY{rb pb:Nat}{w W w1:F}{v:H}{l:List Rd}(h:L w W G)(ho:ZQ rb pb W v l)(hb:w.heap.size<=rb)(hg:L W w1 v.ownBlock):L w w1 G:=⟨hg.os.trans h.os,hg.tape.trans h.tape,hg.output.trans h.output,tR h.size hg.size,fun i hi hn=>(hg.block i (tI hi h.size) (fun e=>by
 have:=(ho.lt i e.symm).1;omega)).trans (h.block i hi hn)⟩
theorem lA:(O.info? 163).map (fun i=>(i.zero,i.size,i.bytes))=I (I (sX #[J G 0 0,J G 0 0,tQ N,J G 0 0]),4,80):=by
 kernel_rfl
def GU(w:F)(v:H)(t:Tx):Prop:=∃vr vw,v=sX #[tA tD t.start,vr,vw]∧ZQ 0 0 w vr t.reads∧Q6 0 0 w vw t.writes
theorem GU.is{w:F}{v:H}{t:Tx}(h:GU w v t):G2 w v t:=by
 obtain⟨vr,vw,rfl,h1,h2⟩:=h;exact⟨vr,vw,rfl,h1.list,h2.list⟩
theorem xM(w:F):GU w (sX #[tA tD 0,J G 0 0,J G 0 0]) FW:=⟨_,_,rfl,Ux 0 0 w,Xz 0 0 w⟩
def Db(w:F)(b o:Nat)(s:uF):Prop:=∃vo,w.cell? ⟨b,o,G⟩=I (tA tD s.bit)∧w.cell? ⟨b,o+1,G⟩=I (tQ s.right)∧w.cell? ⟨b,o+2,G⟩=I vo∧Qe w vo s.other
theorem Db.grown{w w':F}{b o:Nat}{s:uF}(h:Db w b o s)(hg:L w w' G):Db w' b o s:=by
 obtain⟨vo,c1,c2,c3,h1⟩:=h;exact⟨vo,hg.cell c1 (by simp),hg.cell c2 (by simp),hg.cell c3 (by simp),h1.grown hg⟩
def Gs(w:F)(v:H)(l:List uF):Prop:=∃a cap,v=J a l.length cap∧l.length<=cap∧((l=[]∧(a=G->cap=0))∨∃b o,a=I ⟨b,o,G⟩∧∀i,i<l.length->Db w b (o+i*3) (l.getD i Lz))
theorem C9(w:F):Gs w (J G 0 0) []:=⟨G,0,rfl,tX _,.inl ⟨rfl,fun _=>rfl⟩⟩
theorem Gs.grown{w w':F}{v:H}{l:List uF}(h:Gs w v l)(hg:L w w' G):Gs w' v l:=by
 obtain⟨a,cap,rfl,hc,h⟩:=h;refine⟨a,cap,rfl,hc,?_⟩;rcases h with h|⟨b,o,rfl,h⟩;·exact .inl h
 ·exact .inr ⟨b,o,rfl,fun i hi=>(h i hi).grown hg⟩
theorem Gs.shape{w:F}{v:H}{l:List uF}(h:Gs w v l):∃a cap,v=J a l.length cap:=by
 obtain⟨a,cap,rfl,_⟩:=h;exact⟨a,cap,rfl⟩
def KR(w:F)(v:H)(p:Cf):Prop:=∃vs vk vv,v=sX #[tQ p.empty,vs,vk,vv]∧Gs w vs p.steps∧Qe w vk p.pair.1∧Qe w vv p.pair.2
theorem KR.grown{w w':F}{v:H}{p:Cf}(h:KR w v p)(hg:L w w' G):KR w' v p:=by
 obtain⟨vs,vk,vv,rfl,h0,h1,h2⟩:=h;exact⟨vs,vk,vv,rfl,h0.grown hg,h1.grown hg,h2.grown hg⟩
theorem UQ{w:F}{b:Nat}{x y:H}{t:sE}(h:w.heap[b]?=I (Y #[x,y] t)):w.cell? ⟨b,0,G⟩=I x∧w.cell? ⟨b,1,G⟩=I y∧w.frozen? ⟨b,0,G⟩=N∧w.frozen? ⟨b,1,G⟩=N:=by
 refine⟨?_,?_,?_,?_⟩<;>simp[tY,r8,h]
theorem dR{w:F}{b:Nat}{x y:H}{t:sE}(h:w.heap[b]?=I (Y #[x,y] t))(u v:H):((tH w ⟨b,0,G⟩ u).setCell ⟨b,1,G⟩ v).heap[b]?=I (Y #[u,v] t):=by
 have h0:(tH w ⟨b,0,G⟩ u).heap[b]?=I (Y #[u,y] t):=by simp only[tH,sC,if_true,h,rS];first|rfl|simp
 rw[tH,sC,if_pos rfl,h0];first|rfl|simp
theorem Gn{w:F}{b:Nat}{x y z:H}{t:sE}(h:w.heap[b]?=I (Y #[x,y,z] t)):(w.cell? ⟨b,0,G⟩=I x∧w.cell? ⟨b,1,G⟩=I y∧w.cell? ⟨b,2,G⟩=I z)∧w.frozen? ⟨b,0,G⟩=N∧w.frozen? ⟨b,1,G⟩=N∧w.frozen? ⟨b,2,G⟩=N:=by
 refine⟨⟨?_,?_,?_⟩,?_,?_,?_⟩<;>simp[tY,r8,h]
theorem Nm{w:F}{b:Nat}{x y z:H}{t:sE}(h:w.heap[b]?=I (Y #[x,y,z] t))(x' y' z':H):(((tH w ⟨b,0,G⟩ x').setCell ⟨b,1,G⟩ y').setCell ⟨b,2,G⟩ z').heap[b]?=I (Y #[x',y',z'] t):=by
 have h0:(tH w ⟨b,0,G⟩ x').heap[b]?=I (Y #[x',y,z] t):=by simp only[tH,sC,if_true,h,rS];first|rfl|simp
 have h1:((tH w ⟨b,0,G⟩ x').setCell ⟨b,1,G⟩ y').heap[b]?=I (Y #[x',y',z] t):=by rw[tH,sC,if_pos rfl,h0];first|rfl|simp
 rw[tH,sC,if_pos rfl,h1];first|rfl|simp
theorem Fr{w w1:F}(h:L w w1 G)(b:Nat)(hb:w.heap.size<=b)(x y z:H):L w (((tH w1 ⟨b,0,G⟩ x).setCell ⟨b,1,G⟩ y).setCell ⟨b,2,G⟩ z) G:=Qc (Qc (Qc h _ hb _ _) _ hb _ _) _ hb _ _
def iV(w:F)(b:Nat):Prop:=∃cur t fz,w.heap[b]?=I (Y cur t fz)∧(t=5∨∃q,cur[0]?=I (tA pD q))
def jO(w:F)(b:Nat):Prop:=∃cur t fz,w.heap[b]?=I (Y cur t fz)∧t≠5∧∀q,cur[0]?≠I (tA pD q)
theorem iV.ne{w:F}{a b:Nat}(h:iV w a)(h':jO w b):a≠b:=by
 rintro rfl;obtain⟨cur,t,fz,h1,h2⟩:=h;obtain⟨cur',t',fz',h3,h4,h5⟩:=h';rw[h1]at h3;simp only[tB,sD]at h3;obtain⟨rfl,rfl,_⟩:=h3;rcases h2 with h2|⟨q,h2⟩;·exact h4 h2
 ·exact h5 q h2
theorem jO.grown{w w':F}{b:Nat}(h:jO w b)(hg:L w w' G):jO w' b:=by
 obtain⟨cur,t,fz,h1,h2⟩:=h;exact⟨cur,t,fz,by rw[hg.block b (tK.1 h1).1 (by simp)];exact h1,h2⟩
theorem jO.set{w:F}{c:Nat}(h:jO w c)(i:Nat)(u:H)(hu:∀q,u≠tA pD q):jO (tH w ⟨c,i,G⟩ u) c:=by
 obtain⟨cur,t,fz,h1,h2,h3⟩:=h;refine⟨cur.setIfInBounds i u,t,fz,?_,h2,fun q hq=>?_⟩;·simp only[tH,sC,if_true,h1,rS];first|rfl|simp
 ·rw[Array.getElem?_setIfInBounds]at hq;split at hq;(·split at hq;(·simp at hq;exact hu q hq);·cases hq);·exact h3 q hq
theorem Dg{w:F}{c:Nat}{x:H}{xs:List H}{t:sE}{fz:Nat×Nat}(h:w.heap[c]?=I (Y ⟨x::xs⟩ t fz))(ht:t≠5)(hx:∀q,x≠tA pD q):jO w c:=⟨_,t,fz,h,ht,fun q hq=>by
 simp at hq;exact hx q hq⟩
def XZ(w:F)(v:H)(bs:List UInt8):Prop:=Qe w v bs∧(bs=[]∨∃b,v.ownBlock=I b∧b<w.heap.size∧iV w b)
theorem lR:(203:Nat)≠5:=by
 decide
theorem UN(w:F):XZ w (J G 0 0) []:=⟨Qx _,.inl rfl⟩
theorem Zb.partS{base':Nat}{w:F}{v:H}{bs:List UInt8}(h:Zb base' w v bs):XZ w v bs:=by
 refine⟨h.slice,?_⟩;rcases h.2with⟨rfl,h0⟩|⟨g,cap,cur,rfl,hb,hg,_⟩;·exact .inl (tM h0)
 ·exact .inr ⟨g,rfl,(tK.1 hg).1,cur,_,_,hg,.inl rfl⟩
theorem ZN.partS{w:F}{nb:Nat}{bs:List UInt8}(h:ZN w nb bs)(hl:bs.length=32):XZ w (J (I ⟨nb,0,G⟩) 32 32) bs:=by
 refine⟨h.slice32 hl,.inr ⟨nb,rfl,VI (h.cell 0 (by omega)),?_⟩⟩;have hc:=h.cell 0 (by omega);obtain⟨t,hb⟩:=h;refine⟨_,t,_,hb,.inr ⟨((bs.getD 0 0).toNat:Int),?_⟩⟩;·simpa[tY,hb]using hc
theorem EP{w:F}{v:H}{bs:List UInt8}(h:XZ w v bs):v.oneCell'=M:=by
 obtain⟨⟨a,cap,rfl,_⟩,_⟩:=h;rfl
def l6(w:F)(row:Option Nat):Prop:=row=G∨∃g,row=I g∧jO w g
theorem XZ.kept{w w':F}{v:H}{bs:List UInt8}(h:XZ w v bs){row:Option Nat}(hg:L w w' row)(hrow:l6 w row):XZ w' v bs:=by
 obtain⟨hs,ho⟩:=h;rcases ho with rfl|⟨b,hb,hlt,hc⟩;·obtain⟨a,cap,rfl,hc,h⟩:=hs;refine⟨⟨a,cap,rfl,hc,?_⟩,.inl rfl⟩;rcases h with h|⟨b,o,rfl,h⟩;(·exact .inl h);·exact .inr ⟨b,o,rfl,fun i hi=>by simp at hi⟩
 ·(have hne:I b≠row:=by intro e;rcases hrow with rfl|⟨g,rfl,hg'⟩;(·cases e);·cases e;exact hc.ne hg' rfl);have hblk:=hg.block b hlt hne;refine⟨?_,.inr ⟨b,hb,tI hlt hg.size,?_⟩⟩;(·obtain⟨a,cap,rfl,hcp,h⟩:=hs;refine⟨a,cap,rfl,hcp,?_⟩;rcases h with h|⟨b',o,rfl,h⟩;(·exact .inl h);·refine .inr ⟨b',o,rfl,fun i hi=>?_⟩;simp[pP]at hb;subst hb;exact hg.cell (h i hi) (by simpa using hne));·obtain⟨cur,t,fz,hc,hc2⟩:=hc;exact⟨cur,t,fz,by rw[hblk];exact hc,hc2⟩
theorem XZ.grown{w w':F}{v:H}{bs:List UInt8}(h:XZ w v bs)(hg:L w w' G):XZ w' v bs:=h.kept hg (.inl rfl)
theorem XZ.set{w:F}{v:H}{bs:List UInt8}(h:XZ w v bs){c:Nat}(hc:jO w c)(i:Nat)(u:H):XZ (tH w ⟨c,i,G⟩ u) v bs:=h.kept (Qh (Qb _ (I c)) i u) (.inr ⟨c,rfl,hc⟩)
abbrev SV:=uF×H
def Wl:SV:=(Lz,sP)
def Uu(us:List SV):List H:=us.flatMap fun x=>[tA tD x.1.bit,tQ x.1.right,x.2]
theorem Dj(a b:List SV):Uu (a++b)=Uu a++Uu b:=by
 simp[Uu]
theorem Mm:∀(us:List SV)(i:Nat),i<us.length->(Uu us)[i*3]?=I (tA tD (us.getD i Wl).1.bit)∧(Uu us)[i*3+1]?=I (tQ (us.getD i Wl).1.right)∧(Uu us)[i*3+2]?=I (us.getD i Wl).2|[],i,h=>by simp at h|x::r,0,_=>by simp[Uu]|x::r,i+1,h=>by have:=Mm r i (by simpa using h);rw[show(i+1)*3=i*3+3by omega,show i*3+3+1=(i*3+1)+3by omega,show i*3+3+2=(i*3+2)+3by omega];simpa[Uu]using this
theorem Ww(us:List SV):∀u∈Uu us,(∀x∈us,x.2.oneCell'=M)->u.oneCell'=M:=by
 intro u hu h;obtain⟨x,hx,hu⟩:=List.mem_flatMap.1 hu;simp only[tL,tN,or_false]at hu;rcases hu with rfl|rfl|rfl;·rfl
 ·rfl
 ·exact h x hx
def JV(base:Nat)(w:F)(v:H)(l:List uF):Prop:=∃us:List SV,us.map (·.1)=l∧w.ownsRow base 203 3 v l.length (Uu us)∧(∀x∈us,XZ w x.2 x.1.other)∧(l=[]->v=J G 0 0)
theorem vA(base:Nat)(w:F):JV base w (J G 0 0) []:=⟨[],rfl,sR _ _ _ _,fun x hx=>by
 simp at hx,fun _=>rfl⟩
theorem JV.row{base:Nat}{w:F}{v:H}{l:List uF}(h:JV base w v l):l6 w v.ownBlock:=by
 obtain⟨us,hm,h,_,h0⟩:=h;cases l with|nil=>rw[h0 rfl];exact .inl rfl|cons x r=>rcases h.2with⟨rfl,_⟩|⟨g,cap,cur,rfl,hb,hg,hn,_,_,ht⟩;(·exact .inl rfl);·refine .inr ⟨g,rfl,cur,_,_,hg,lR,fun q=>?_⟩;cases us with|nil=>simp at hm|cons u us=>simp only[pK,List.cons.injEq]at hm;(have e:(cur.toList.take ((x::r).length*3))[0]?=(Uu (u::us))[0]?:=by rw[ht]);rw[sI,if_pos (by simp)]at e;rw[<-pE,e];simp[Uu]
theorem JV.lt{base:Nat}{w:F}{v:H}{l:List uF}(h:JV base w v l):∀k,v.ownBlock=I k->base<=k∧k<w.heap.size:=by
 obtain⟨us,_,h,_⟩:=h;exact sL h
theorem JV.grownNone{base:Nat}{w w':F}{v:H}{l:List uF}(h:JV base w v l)(hg:L w w' G):JV base w' v l:=by
 obtain⟨us,h1,h2,h3,h4⟩:=h;refine⟨us,h1,sB h2 hg ?_,fun x hx=>(h3 x hx).grown hg,h4⟩;cases hv:v.ownBlock with|none=>exact .inl rfl|some k=>exact .inr (by simp)
theorem JV.alloc{base:Nat}{w:F}{v:H}{l:List uF}(h:JV base w v l)(o:Obj):JV base (w.alloc o) v l:=h.grownNone (sS _ _ _)
theorem JV.shape{base:Nat}{w:F}{v:H}{l:List uF}(h:JV base w v l):∃a cap,v=J a l.length cap:=by
 obtain⟨us,_,h,_⟩:=h;rcases h.2with⟨rfl,h0⟩|⟨g,cap,cur,rfl,_⟩;·exact⟨G,0,by rw[h0]⟩
 ·exact⟨_,cap,rfl⟩
theorem JV.cells{base:Nat}{w:F}{g n cap:Nat}{us:List SV}{k:Nat}(hr:w.ownsRow base 203 3 (J (I ⟨g,0,G⟩) n cap) k (Uu us)):∀j u,(Uu us)[j]?=I u->w.cell? ⟨g,j,G⟩=I u:=by
 intro j u hj;rcases hr.2with⟨e,_⟩|⟨g',cap',cur,e,hb,hg,hn,hm,hs,ht⟩;·cases e
 ·simp only[tJ,tB,rO]at e;obtain⟨⟨rfl,_⟩,_,_⟩:=e;(have hlt:j<k*3:=by have:=(sO.1 hj).1;rw[hr.1]at this;exact this);(have e2:(cur.toList.take (k*3))[j]?=(Uu us)[j]?:=by rw[ht]);rw[sI,if_pos hlt,hj]at e2;simp[tY,hg];simpa using e2
theorem bG{us:List SV}{l:List uF}(h:us.map (·.1)=l)(i:Nat)(hi:i<l.length):(us.getD i Wl).1=l.getD i Lz∧us.getD i Wl∈us:=by
 subst h;have hi':i<us.length:=by simpa using hi
 constructor;·simp[hi']
 ·rw[show us.getD i Wl=us[i]by simp[hi']];exact sV _
theorem JV.list{base:Nat}{w:F}{v:H}{l:List uF}(h:JV base w v l):Gs w v l:=by
 obtain⟨us,hl,hr,h3,_⟩:=h;have hul:us.length=l.length:=by rw[<-hl];simp
 rcases hr.2with⟨rfl,h0⟩|⟨g,cap,cur,rfl,hb,hg,hn,hm,hs,ht⟩;·have:l=[]:=tM h0;subst this;exact C9 w
 ·refine⟨_,cap,rfl,hn,.inr ⟨g,0,rfl,fun i hi=>?_⟩⟩;obtain⟨e1,e2⟩:=bG hl i hi;obtain⟨c1,c2,c3⟩:=Mm us i (by omega);have hp:=h3 _ e2;rw[e1]at c1 c2 hp;rw[sU];exact⟨_,JV.cells hr _ _ c1,JV.cells hr _ _ c2,JV.cells hr _ _ c3,hp.1⟩
theorem JV.set{base:Nat}{w:F}{v:H}{l:List uF}(h:JV base w v l){c:Nat}(hc:jO w c)(hne:c<base)(i:Nat)(u:H):JV base (tH w ⟨c,i,G⟩ u) v l:=by
 have hlt:=h.lt;obtain⟨us,h1,h2,h3,h4⟩:=h;refine⟨us,h1,sB h2 (Qh (Qb _ (I c)) i u) ?_,fun x hx=>(h3 x hx).set hc i u,h4⟩;cases hv:v.ownBlock with|none=>exact .inl rfl|some k=>exact .inr (by have:=(hlt k hv).1;simp;omega)
theorem iJ:(46:Nat)≠5:=by
 decide
theorem mB:(44:Nat)≠5:=by
 decide
theorem VC{W:F}{pb:Nat}{x y:H}(h:W.heap[pb]?=I (Y #[x,y] 44))(hx:∀q,x≠tA pD q)(ua va:Option rF)(un uc vn vc:Nat){z:H}{bs:List UInt8}(hz:XZ W z bs):XZ ((tH W ⟨pb,0,G⟩ (J ua un uc)).setCell ⟨pb,1,G⟩ (J va vn vc)) z bs:=have h0:jO W pb:=Dg (xs:=[y]) h mB hx;have h1:=h0.set 0 (J ua un uc) (fun q=>by
 simp);(hz.set h0 0 _).set h1 1 _
theorem XZ.quad{w:F}{v:H}{bs:List UInt8}(h:XZ w v bs){c:Nat}(hc:jO w c){e:Bool}{sa:Option rF}{sn sc:Nat}{ka va:Option rF}{kn kc vn vc:Nat}:XZ ((((tH w ⟨c,0,G⟩ (tQ e)).setCell ⟨c,1,G⟩ (J sa sn sc)).setCell ⟨c,2,G⟩ (J ka kn kc)).setCell ⟨c,3,G⟩ (J va vn vc)) v bs:=have h1:=hc.set 0 (tQ e) (fun q=>by
 simp);have h2:=h1.set 1 (J sa sn sc) (fun q=>by
 simp);have h3:=h2.set 2 (J ka kn kc) (fun q=>by
 simp);(((h.set hc 0 _).set h1 1 _).set h2 2 _).set h3 3 _
theorem JV.quad{base:Nat}{w:F}{v:H}{l:List uF}(h:JV base w v l){c:Nat}(hc:jO w c)(hne:c<base){e:Bool}{sa:Option rF}{sn sc:Nat}{ka va:Option rF}{kn kc vn vc:Nat}:JV base ((((tH w ⟨c,0,G⟩ (tQ e)).setCell ⟨c,1,G⟩ (J sa sn sc)).setCell ⟨c,2,G⟩ (J ka kn kc)).setCell ⟨c,3,G⟩ (J va vn vc)) v l:=have h1:=hc.set 0 (tQ e) (fun q=>by
 simp);have h2:=h1.set 1 (J sa sn sc) (fun q=>by
 simp);have h3:=h2.set 2 (J ka kn kc) (fun q=>by
 simp);(((h.set hc hne 0 _).set h1 hne 1 _).set h2 hne 2 _).set h3 hne 3 _
def ZA(n:Nat)(w:F)(v:H)(p:Cf):Prop:=∃base vs vk vv,v=sX #[tQ p.empty,vs,vk,vv]∧n<=base∧base<=w.heap.size∧JV base w vs p.steps∧XZ w vk p.pair.1∧XZ w vv p.pair.2
theorem ZA.is{n:Nat}{w:F}{v:H}{p:Cf}(h:ZA n w v p):KR w v p:=by
 obtain⟨base,vs,vk,vv,rfl,_,_,h1,h2,h3⟩:=h;exact⟨vs,vk,vv,rfl,h1.list,h2.1,h3.1⟩
theorem Sq{base:Nat}{w W w1:F}{v:H}{l:List uF}(h:L w W G)(ho:JV base W v l)(hb:w.heap.size<=base)(hg:L W w1 v.ownBlock):L w w1 G:=⟨hg.os.trans h.os,hg.tape.trans h.tape,hg.output.trans h.output,tR h.size hg.size,fun i hi hn=>(hg.block i (tI hi h.size) (fun e=>by
 have:=(ho.lt i e.symm).1;omega)).trans (h.block i hi hn)⟩
theorem OZ:(O.info? 203).map (fun i=>(i.zero,i.size,i.bytes))=I (I (sX #[tA tD 0,tQ N,J G 0 0]),3,40):=by
 kernel_rfl
theorem RG{w:F}{o:rM}{a:Act}{K:Act->F->Prop}{Q:Exit->Act->F->Prop}(s x:rJ)(ho:o.op=.call {callee:=.builtin .append,args:=#[s,x],argTypes:=#[42,42]})(base:Nat)(v:H)(l:List uF)(hs:a.eval s=v)(hown:JV base w v l)(vo:H)(p:uF)(hk:XZ w vo p.other)(nb:Nat)(hb:∀j u,[tA tD p.bit,tQ p.right,vo][j]?=I u->w.cell? ⟨nb,j,G⟩=I u)(hx:a.eval x=J (I ⟨nb,0,G⟩) 1 1)(hl:(l.length+1)*40<=140737488355328)(hbase:base<=w.heap.size)(h:∀v' w',JV base w' v' (l++[p])->L w w' v.ownBlock->K (a.put o.dst v') w'):o.wp O a w K Q:=by
 obtain⟨i0,hi,hz0,hz1,hz2⟩:=r7 OZ;have hrow:=hown.row;obtain⟨us,hul,hr,hp,_⟩:=hown;refine wp_append_own w s x 42 ho base 203 i0 (sX #[tA tD 0,tQ N,J G 0 0]) 3 40 Tryz.underlying42 hi hz0 hz1 hz2 rfl (by decide) v l.length (Uu us) hs hr ⟨nb,0,G⟩ 1 1 (Uu [(p,vo)]) hx rfl ?_ ?_ (by unfold pB;omega) hl hbase ?_;·intro j u hj;rw[ZW,sU];exact hb j u (by simpa[Uu]using hj)
 ·intro u hu;exact Ww _ u hu fun y hy=>by simp at hy;subst hy;exact EP hk
 ·intro v' w' h1 h2 _;refine h _ w' ⟨us++[(p,vo)],by simp[hul],?_,?_,fun e=>by simp at e⟩ h2;(·rw[Dj,tC];exact h1);·intro y hy;rcases tZ.1 hy with hy|hy;(·exact(hp y hy).kept h2 hrow);·simp at hy;subst hy;exact hk.kept h2 hrow
theorem kV{w:F}{ops:Array rM}{rest:List rM}{o:rM}{a:Act}{Q:Exit->Act->F->Prop}(hgd:o.guard=G)(s x:rJ)(ho:o.op=.call {callee:=.builtin .append,args:=#[s,x],argTypes:=#[42,42]})(base:Nat)(v:H)(l:List uF)(hs:a.eval s=v)(hown:JV base w v l)(vo:H)(p:uF)(hk:XZ w vo p.other)(nb:Nat)(hb:∀j u,[tA tD p.bit,tQ p.right,vo][j]?=I u->w.cell? ⟨nb,j,G⟩=I u)(hx:a.eval x=J (I ⟨nb,0,G⟩) 1 1)(hl:(l.length+1)*40<=140737488355328)(hbase:base<=w.heap.size)(h:∀v' w',JV base w' v' (l++[p])->L w w' v.ownBlock->wpList O ops Q rest (a.put o.dst v') w'):wpList O ops Q (o::rest) a w:=wpList_plain hgd fun _ hK=>RG s x ho base v l hs hown vo p hk nb hb hx hl hbase fun v' w' h1 h2=>hK _ _ (h v' w' h1 h2)
theorem Wy{w:F}{nb:Nat}{p:uF}{vo:H}{t:sE}(h:w.heap[nb]?=I (Y #[tA tD p.bit,tQ p.right,vo] t)):∀j u,[tA tD p.bit,tQ p.right,vo][j]?=I u->w.cell? ⟨nb,j,G⟩=I u:=by
 intro j u hj;simp[tY,h];simpa using hj
def gR:H->Nat|J _ n _=>n|_=>0
def Px(t:sE):Prop:=t=100∨t=48∨t=157∨t=26∨t=3
def LA(B:Nat)(w:F)(i:Nat):Prop:=i<B∨∀cs t fz,w.heap[i]?=I (Y cs t fz)->(¬Px t∨∃q,cs[0]?=I (tA pD q))
structure Kp (B : Nat) (w w' : F) : Prop where
  os : w'.os = w.os
  tape : w'.tape = w.tape
  output : w'.output = w.output
  size : w.heap.size <= w'.heap.size
  keep : ∀ i, i < w.heap.size -> LA B w i -> w'.heap[i]? = w.heap[i]?
theorem Kp.refl(B:Nat)(w:F):Kp B w w:=⟨rfl,rfl,rfl,tX _,fun _ _ _=>rfl⟩
theorem LA.same{B:Nat}{w w':F}{i:Nat}(h:LA B w i)(e:w'.heap[i]?=w.heap[i]?):LA B w' i:=by
 rcases h with h|h;·exact .inl h
 ·exact .inr fun cs t fz hc=>h cs t fz (by rw[<-e];exact hc)
theorem Kp.trans{B:Nat}{w w1 w2:F}(h:Kp B w w1)(k:Kp B w1 w2):Kp B w w2:=⟨k.os.trans h.os,k.tape.trans h.tape,k.output.trans h.output,tR h.size k.size,fun i hi hs=>by
 have e:=h.keep i hi hs;exact(k.keep i (tI hi h.size) (hs.same e)).trans e⟩
theorem Kp.grown{B:Nat}{w w':F}(h:L w w' G):Kp B w w':=⟨h.os,h.tape,h.output,h.size,fun i hi _=>h.block i hi (by
 simp)⟩
theorem Kp.turn{B:Nat}{w w':F}{g:Nat}{cs:Array H}{t:sE}{fz:Nat×Nat}(h:L w w' (I g))(hB:B<=g)(hb:w.heap[g]?=I (Y cs t fz))(ht:Px t)(h0:∀q,cs[0]?≠I (tA pD q)):Kp B w w':=⟨h.os,h.tape,h.output,h.size,fun i hi hs=>by
 refine h.block i hi fun e=>?_;cases e;rcases hs with hs|hs;·omega
 ·rcases hs cs t fz hb with h1|⟨q,h1⟩;(·exact h1 ht);·exact h0 q h1⟩
theorem Kp.low{B:Nat}{w w':F}(h:Kp B w w')(w0:F)(hg:L w0 w G)(hB:w0.heap.size<=B):L w0 w' G:=⟨h.os.trans hg.os,h.tape.trans hg.tape,h.output.trans hg.output,tR hg.size h.size,fun i hi hn=>(h.keep i (tI hi hg.size) (.inl (by
 omega))).trans (hg.block i hi hn)⟩
def Vm(t:sE):Prop:=t=5∨t=44∨t=65∨t=147∨t=163∨t=203
def zW(t:sE):Prop:=¬Vm t
theorem Px.two{t:sE}(h:Px t):zW t:=by
 rcases h with rfl|rfl|rfl|rfl|rfl<;>simp[zW,Vm]
def M4(B:Nat)(w:F)(i:Nat):Prop:=i<B∨∀cs t fz,w.heap[i]?=I (Y cs t fz)->(¬zW t∨∃q,cs[0]?=I (tA pD q))
structure BY (B : Nat) (w w' : F) : Prop where
  os : w'.os = w.os
  tape : w'.tape = w.tape
  output : w'.output = w.output
  size : w.heap.size <= w'.heap.size
  keep : ∀ i, i < w.heap.size -> M4 B w i -> w'.heap[i]? = w.heap[i]?
theorem Kp.two{B C:Nat}{w w':F}(h:Kp B w w')(hC:C<=B):BY C w w':=⟨h.os,h.tape,h.output,h.size,fun i hi hs=>h.keep i hi (by
 rcases hs with hs|hs;·exact .inl (tI hs hC)
 ·exact .inr fun cs t fz hc=>(hs cs t fz hc).imp (fun h1 h2=>h1 h2.two) id)⟩
theorem BY.refl(B:Nat)(w:F):BY B w w:=⟨rfl,rfl,rfl,tX _,fun _ _ _=>rfl⟩
theorem M4.same{B:Nat}{w w':F}{i:Nat}(h:M4 B w i)(e:w'.heap[i]?=w.heap[i]?):M4 B w' i:=by
 rcases h with h|h;·exact .inl h
 ·exact .inr fun cs t fz hc=>h cs t fz (by rw[<-e];exact hc)
theorem BY.trans{B:Nat}{w w1 w2:F}(h:BY B w w1)(k:BY B w1 w2):BY B w w2:=⟨k.os.trans h.os,k.tape.trans h.tape,k.output.trans h.output,tR h.size k.size,fun i hi hs=>by
 have e:=h.keep i hi hs;exact(k.keep i (tI hi h.size) (hs.same e)).trans e⟩
theorem BY.grown{B:Nat}{w w':F}(h:L w w' G):BY B w w':=⟨h.os,h.tape,h.output,h.size,fun i hi _=>h.block i hi (by
 simp)⟩
def LW(w:F)(i:Nat):Prop:=∀cs t fz,w.heap[i]?=I (Y cs t fz)->(Vm t∨t=48∨∃q,cs[0]?=I (tA pD q))
structure KL (w w' : F) : Prop where
  os : w'.os = w.os
  tape : w'.tape = w.tape
  output : w'.output = w.output
  size : w.heap.size <= w'.heap.size
  keep : ∀ i, i < w.heap.size -> LW w i -> w'.heap[i]? = w.heap[i]?
theorem KL.two{w w':F}(h:KL w w'):BY 0 w w':=⟨h.os,h.tape,h.output,h.size,fun i hi hs=>h.keep i hi fun cs t fz hc=>by
 rcases hs with hs|hs;·omega
 ·rcases hs cs t fz hc with h1|h1;(·exact .inl (sY h1));·exact .inr (.inr h1)⟩
theorem KL.refl(w:F):KL w w:=⟨rfl,rfl,rfl,tX _,fun _ _ _=>rfl⟩
theorem LW.same{w w':F}{i:Nat}(h:LW w i)(e:w'.heap[i]?=w.heap[i]?):LW w' i:=fun cs t fz hc=>h cs t fz (by
 rw[<-e];exact hc)
theorem KL.trans{w w1 w2:F}(h:KL w w1)(k:KL w1 w2):KL w w2:=⟨k.os.trans h.os,k.tape.trans h.tape,k.output.trans h.output,tR h.size k.size,fun i hi hs=>by
 have e:=h.keep i hi hs;exact(k.keep i (tI hi h.size) (hs.same e)).trans e⟩
theorem KL.grown{w w':F}(h:L w w' G):KL w w':=⟨h.os,h.tape,h.output,h.size,fun i hi _=>h.block i hi (by
 simp)⟩
theorem KL.turn{w w':F}{row:Option Nat}(h:L w w' row)(hr:∀g,row=I g->∃cs t fz,w.heap[g]?=I (Y cs t fz)∧¬Vm t∧t≠48∧∀q,cs[0]?≠I (tA pD q)):KL w w':=⟨h.os,h.tape,h.output,h.size,fun i hi hs=>by
 refine h.block i hi fun e=>?_;obtain⟨cs,t,fz,hb,h1,h2,h3⟩:=hr i e.symm;rcases hs cs t fz hb with h4|h4|⟨q,h4⟩;·exact h1 h4
 ·exact h2 h4
 ·exact h3 q h4⟩
def Jy(w:F)(P:F->Prop):Prop:=∀w',KL w w'->P w'
theorem Jy.now{w:F}{P:F->Prop}(h:Jy w P):P w:=h w (KL.refl w)
theorem Jy.later{w w':F}{P:F->Prop}(h:Jy w P)(k:KL w w'):Jy w' P:=fun w2 k2=>h w2 (k.trans k2)
theorem Jy.grown{w w':F}{P:F->Prop}(h:Jy w P)(k:L w w' G):Jy w' P:=h.later (KL.grown k)
def Jj(w:F)(P:F->Prop):Prop:=∀w',L w w' G->P w'
theorem Jj.now{w:F}{P:F->Prop}(h:Jj w P):P w:=h w (Qb w G)
theorem Jj.grown{w w':F}{P:F->Prop}(h:Jj w P)(k:L w w' G):Jj w' P:=fun w2 k2=>h w2 (Qa k k2)
def Ze(B:Nat)(w:F)(P:F->Prop):Prop:=∀w',BY B w w'->P w'
theorem Ze.now{B:Nat}{w:F}{P:F->Prop}(h:Ze B w P):P w:=h w (BY.refl B w)
theorem Ze.later{B C:Nat}{w w':F}{P:F->Prop}(h:Ze C w P)(k:Kp B w w')(hC:C<=B:=by
 first|exact Nat.zero_le _|exact Nat.le_refl _):Ze C w' P:=fun w2 k2=>h w2 ((k.two hC).trans k2)
theorem Ze.later2{C:Nat}{w w':F}{P:F->Prop}(h:Ze C w P)(k:BY C w w'):Ze C w' P:=fun w2 k2=>h w2 (k.trans k2)
theorem Ze.grown{C:Nat}{w w':F}{P:F->Prop}(h:Ze C w P)(k:L w w' G):Ze C w' P:=h.later2 (BY.grown k)
theorem Ze.mono{B:Nat}{w:F}{P Q:F->Prop}(h:Ze B w P)(k:∀w',P w'->Q w'):Ze B w Q:=fun w' h'=>k w' (h w' h')
theorem VA{w w':F}{v:H}{bs:List UInt8}(h:Qe w v bs)(hb:bs=[]∨∃b,v.ownBlock=I b∧w'.heap[b]?=w.heap[b]?):Qe w' v bs:=by
 obtain⟨a,cap,rfl,hc,h⟩:=h;refine⟨a,cap,rfl,hc,?_⟩;rcases h with h|⟨b,o,rfl,h⟩;·exact .inl h
 ·refine .inr ⟨b,o,rfl,fun i hi=>?_⟩;rcases hb with rfl|⟨b',e,hb⟩;(·simp at hi);·simp[pP]at e;subst e;rw[sQ hb];exact h i hi
theorem l8:¬zW 5:=by
 simp[zW,Vm]
theorem Z6{B:Nat}{w:F}{v:H}{bs:List UInt8}(h:Qi 0 w v bs):Ze B w (fun w=>Qi 0 w v bs):=fun w' k=>by
 obtain⟨h1,h2⟩:=h;rcases h2 with h2|⟨b,e,hl,h2⟩;·exact⟨VA h1 (.inl h2),.inl h2⟩
 ·(obtain⟨cur,fz,h2⟩:∃cur fz,w.heap[b]?=I (Y cur 5 fz):=by rcases h2 with h2|h2;(·omega);·exact h2);have hs:w'.heap[b]?=w.heap[b]?:=k.keep b hl (.inr fun cs t f hc=>.inl (by rw[h2]at hc;simp only[tB,sD]at hc;rw[<-hc.2.1];exact l8));exact⟨VA h1 (.inr ⟨b,e,hs⟩),.inr ⟨b,e,tI hl k.size,.inr ⟨cur,fz,by rw[hs];exact h2⟩⟩⟩
theorem Gx{B:Nat}{w:F}{v:H}{bs:List UInt8}(h:XZ w v bs):Ze B w (fun w=>XZ w v bs):=fun w' k=>by
 obtain⟨h1,h2⟩:=h;rcases h2 with h2|⟨b,e,hl,cur,t,fz,h2,h3⟩;·exact⟨VA h1 (.inl h2),.inl h2⟩
 ·have hs:w'.heap[b]?=w.heap[b]?:=k.keep b hl (.inr fun cs t' f hc=>by rw[h2]at hc;simp only[tB,sD]at hc;obtain⟨rfl,rfl,_⟩:=hc;rcases h3 with rfl|h3;(·exact .inl l8);·exact .inr h3);exact⟨VA h1 (.inr ⟨b,e,hs⟩),.inr ⟨b,e,tI hl k.size,cur,t,fz,by rw[hs];exact h2,h3⟩⟩
theorem U4{B base:Nat}{w:F}{t:sE}{n m:Nat}{v:H}{xs:List H}(h:w.ownsRow base t n v m xs)(ht:¬zW t):Ze B w (fun w=>w.ownsRow base t n v m xs):=fun w' k=>by
 refine⟨h.1,?_⟩;rcases h.2with h|⟨g,cap,cur,e,hb,hg,rest⟩;·exact .inl h
 ·refine .inr ⟨g,cap,cur,e,hb,?_,rest⟩;rw[k.keep g (tK.1 hg).1 (.inr fun cs t' f hc=>.inl (by rw[hg]at hc;simp only[tB,sD]at hc;rw[<-hc.2.1];exact ht))];exact hg
theorem Sc{B rb:Nat}{w:F}{v:H}{l:List Rd}(h:ZQ rb 0 w v l):Ze B w (fun w=>ZQ rb 0 w v l):=fun w' k=>by
 obtain⟨us,h1,h2,h3⟩:=h;exact⟨us,h1,U4 h2 (by simp[zW,Vm]) w' k,fun x hx=>⟨Z6 (h3 x hx).1 w' k,Z6 (h3 x hx).2.1 w' k,Z6 (h3 x hx).2.2 w' k⟩⟩
theorem As{B rb:Nat}{w:F}{v:H}{l:List Zi}(h:Q6 rb 0 w v l):Ze B w (fun w=>Q6 rb 0 w v l):=fun w' k=>by
 obtain⟨us,h1,h2,h3⟩:=h;exact⟨us,h1,U4 h2 (by simp[zW,Vm]) w' k,fun x hx=>⟨Z6 (h3 x hx).1 w' k,Z6 (h3 x hx).2.1 w' k,Z6 (h3 x hx).2.2 w' k⟩⟩
theorem VE{B:Nat}{w:F}{v:H}{l:PL}(h:QN 0 w v l):Ze B w (fun w=>QN 0 w v l):=fun w' k=>by
 obtain⟨a,cap,rfl,hc,h⟩:=h;refine⟨a,cap,rfl,hc,?_⟩;rcases h with h|⟨b,o,rfl,hb,h⟩;·exact .inl h
 ·(obtain⟨cur,fz,hb⟩:∃cur fz,w.heap[b]?=I (Y cur 44 fz):=by rcases hb with hb|hb;(·omega);·exact hb);have hs:w'.heap[b]?=w.heap[b]?:=k.keep b (tK.1 hb).1 (.inr fun cs t f hc=>.inl (by rw[hb]at hc;simp only[tB,sD]at hc;rw[<-hc.2.1];simp[zW,Vm]));refine .inr ⟨b,o,rfl,.inr ⟨cur,fz,by rw[hs];exact hb⟩,fun i hi=>?_⟩;obtain⟨vk,vv,c1,c2,h1,h2⟩:=h i hi;exact⟨vk,vv,by rw[sQ hs];exact c1,by rw[sQ hs];exact c2,Z6 h1 w' k,Z6 h2 w' k⟩
theorem AA{B rb:Nat}{w:F}{v:H}{l:FL}(h:ZH rb w v l):Ze B w (fun w=>ZH rb w v l):=fun w' k=>by
 obtain⟨vs,h1,h2,h3⟩:=h;exact⟨vs,h1,U4 h2 (by simp[zW,Vm]) w' k,fun i hi=>⟨Z6 (h3 i hi).1 w' k,VE (h3 i hi).2 w' k⟩⟩
theorem Es{B:Nat}{w:F}{v:H}{l:List Zi}(h:Xq 0 w v l):Ze B w (fun w=>Xq 0 w v l):=fun w' k=>by
 obtain⟨a,cap,rfl,hc,h⟩:=h;refine⟨a,cap,rfl,hc,?_⟩;rcases h with h|⟨b,o,rfl,hb,h⟩;·exact .inl h
 ·(obtain⟨cur,fz,hb⟩:∃cur fz,w.heap[b]?=I (Y cur 147 fz):=by rcases hb with hb|hb;(·omega);·exact hb);have hs:w'.heap[b]?=w.heap[b]?:=k.keep b (tK.1 hb).1 (.inr fun cs t f hc=>.inl (by rw[hb]at hc;simp only[tB,sD]at hc;rw[<-hc.2.1];simp[zW,Vm]));refine .inr ⟨b,o,rfl,.inr ⟨cur,fz,by rw[hs];exact hb⟩,fun i hi=>?_⟩;obtain⟨vn,vk,vv,c1,c2,c3,c4,h1,h2,h3⟩:=h i hi;exact⟨vn,vk,vv,by rw[sQ hs];exact c1,by rw[sQ hs];exact c2,by rw[sQ hs];exact c3,by rw[sQ hs];exact c4,Z6 h1 w' k,Z6 h2 w' k,Z6 h3 w' k⟩
theorem yY{B:Nat}{w:F}{v:H}{t:Tx}(h:GU w v t):Ze B w (fun w=>GU w v t):=fun w' k=>by
 obtain⟨vr,vw,rfl,h1,h2⟩:=h;exact⟨vr,vw,rfl,Sc h1 w' k,As h2 w' k⟩
theorem SO{B base:Nat}{w:F}{v:H}{l:List uF}(h:JV base w v l):Ze B w (fun w=>JV base w v l):=fun w' k=>by
 obtain⟨us,h1,h2,h3,h4⟩:=h;exact⟨us,h1,U4 h2 (by simp[zW,Vm]) w' k,fun x hx=>Gx (h3 x hx) w' k,h4⟩
theorem yI{B n:Nat}{w:F}{v:H}{p:Cf}(h:ZA n w v p):Ze B w (fun w=>KR w v p):=fun w' k=>by
 obtain⟨base,vs,vk,vv,rfl,_,_,h1,h2,h3⟩:=h;exact⟨vs,vk,vv,rfl,(SO h1 w' k).list,(Gx h2 w' k).1,(Gx h3 w' k).1⟩
section
section
variable{α:Type}{T:sE}{k:Nat}{P:F->List H->α->Prop}{B:Nat}{w w':F}{v:H}{l:List α}
def JM(T:sE)(k:Nat)(P:F->List H->α->Prop)(B:Nat)(w:F)(v:H)(l:List α):Prop:=∃us:List (List H×α),us.map (·.2)=l∧w.ownsRow B T k v l.length (us.flatMap (·.1))∧(l=[]->v=J G 0 0)∧∀x∈us,x.1.length=k∧(∀u∈x.1,u.oneCell'=M)∧(∀q,x.1[0]?≠I (tA pD q))∧Ze 0 w (fun w=>P w x.1 x.2)
theorem vT(T:sE)(k:Nat)(P:F->List H->α->Prop)(B:Nat)(w:F):JM T k P B w (J G 0 0) []:=⟨[],rfl,sR _ _ _ _,fun _=>rfl,fun x hx=>by
 simp at hx⟩
theorem JM.kept(h:JM T k P B w v l)(hk:Kp B w w')(hs:∀g,v.ownBlock=I g->w'.heap[g]?=w.heap[g]?):JM T k P B w' v l:=by
 obtain⟨us,h1,h2,h3,h4⟩:=h;refine⟨us,h1,⟨h2.1,?_⟩,h3,fun x hx=>⟨(h4 x hx).1,(h4 x hx).2.1,(h4 x hx).2.2.1,(h4 x hx).2.2.2.later hk⟩⟩;rcases h2.2with h|⟨g,cap,cur,rfl,hb,hg,rest⟩;·exact .inl h
 ·exact .inr ⟨g,cap,cur,rfl,hb,by rw[hs g rfl];exact hg,rest⟩
theorem JM.kept2(h:JM T k P B w v l)(hk:BY 0 w w')(hs:∀g,v.ownBlock=I g->w'.heap[g]?=w.heap[g]?):JM T k P B w' v l:=by
 obtain⟨us,h1,h2,h3,h4⟩:=h;refine⟨us,h1,⟨h2.1,?_⟩,h3,fun x hx=>⟨(h4 x hx).1,(h4 x hx).2.1,(h4 x hx).2.2.1,(h4 x hx).2.2.2.later2 hk⟩⟩;rcases h2.2with h|⟨g,cap,cur,rfl,hb,hg,rest⟩;·exact .inl h
 ·exact .inr ⟨g,cap,cur,rfl,hb,by rw[hs g rfl];exact hg,rest⟩
theorem JM.lt(h:JM T k P B w v l):∀g,v.ownBlock=I g->B<=g∧g<w.heap.size:=by
 obtain⟨us,h1,h2,h3,h4⟩:=h;exact sL h2
theorem JM.grown(h:JM T k P B w v l)(hg:L w w' G):JM T k P B w' v l:=h.kept (Kp.grown hg) fun g e=>hg.block g (h.lt g e).2 (by
 simp)
theorem JM.shape(h:JM T k P B w v l):∃a cap,v=J a l.length cap:=by
 obtain⟨us,_,h,_⟩:=h;rcases h.2with⟨rfl,h0⟩|⟨g,cap,cur,rfl,_⟩;·exact⟨G,0,by rw[h0]⟩
 ·exact⟨_,cap,rfl⟩
theorem LR{k:Nat}:∀(us:List (List H×α))(_:∀x∈us,x.1.length=k)(i:Nat)(hi:i<us.length)(j:Nat),j<k->(us.flatMap (·.1))[i*k+j]?=us[i].1[j]?|[],_,i,hi,_,_=>by simp at hi|x::us,hk,0,_,j,hj=>by have:=hk x (by simp);simp[pT (show j<x.1.length by omega)]|x::us,hk,i+1,hi,j,hj=>by have hx:=hk x (by simp);have:=LR us (fun y hy=>hk y (by simp[hy])) i (by simpa using hi) j hj;rw[tP,List.getElem?_append_right (by rw[hx,pC];omega),hx,show(i+1)*k+j-k=i*k+j by rw[pC];omega,this];simp
theorem JM.blk(hk0:0<k)(h:JM T k P B w v l):v.ownBlock=G∨∃g cs,v.ownBlock=I g∧B<=g∧w.heap[g]?=I (Y cs T (0,0))∧∀q,cs[0]?≠I (tA pD q):=by
 obtain⟨us,h1,h2,h3,h4⟩:=h;rcases h2.2with⟨rfl,_⟩|⟨g,cap,cur,rfl,hb,hg,hn,_,hcs,ht⟩;·exact .inl rfl
 ·refine .inr ⟨g,cur,rfl,hb,hg,fun q hq=>?_⟩;cases us with|nil=>subst h1;have:=h3 rfl;cases this|cons x us=>(have hl:l.length=us.length+1:=by rw[<-h1];simp);(have e:(cur.toList.take (l.length*k))[0]?=((x::us).flatMap (·.1))[0]?:=by rw[ht]);have hx:=(h4 x (by simp)).1;rw[sI,if_pos (by rw[hl,pC];omega),tP,pT (by omega),pE,hq]at e;exact(h4 x (by simp)).2.2.1 q e.symm
theorem JM.turn(hk0:0<k)(hT:Px T)(h:JM T k P B w v l)(hg:L w w' v.ownBlock):Kp B w w':=by
 rcases h.blk hk0 with e|⟨g,cs,e,hb,hc,h0⟩;·rw[e]at hg;exact Kp.grown hg
 ·rw[e]at hg;exact Kp.turn hg hb hc hT h0
theorem JM.other(hk0:0<k)(h:JM T k P B w v l){row:Option Nat}(hk:Kp B w w')(hg:L w w' row)(hr:row=G∨∃g cs t fz,row=I g∧w.heap[g]?=I (Y cs t fz)∧t≠T):JM T k P B w' v l:=by
 refine h.kept hk fun g e=>?_;refine hg.block g (h.lt g e).2 fun e2=>?_;rcases hr with rfl|⟨g',cs,t,fz,rfl,hc,ht⟩;·cases e2
 ·cases e2;rcases h.blk hk0 with e3|⟨g2,cs2,e3,_,hc2,_⟩;(·rw[e3]at e;cases e);·rw[e3]at e;cases e;rw[hc]at hc2;simp only[tB,sD]at hc2;exact ht hc2.2.1
theorem JM.at(h:JM T k P B w v l)(d:α)(i:Nat)(hi:i<l.length):∃g cap cs,v=J (I ⟨g,0,G⟩) l.length cap∧cs.length=k∧l.length<=cap∧(∀j,j<k->w.cell? ⟨g,i*k+j,G⟩=cs[j]?)∧Ze 0 w (fun w=>P w cs (l.getD i d)):=by
 obtain⟨us,h1,h2,h3,h4⟩:=h;have hul:us.length=l.length:=by rw[<-h1];simp
 rcases h2.2with⟨rfl,h0⟩|⟨g,cap,cur,rfl,hb,hg,hn,_,hcs,ht⟩;·omega
 ·have hx:=h4 us[i] (sV (by omega));refine⟨g,cap,us[i].1,rfl,hx.1,hn,fun j hj=>?_,?_⟩;(·(have e:(cur.toList.take (l.length*k))[i*k+j]?=(us.flatMap (·.1))[i*k+j]?:=by rw[ht]);(have hlt:i*k+j<l.length*k:=by have:(i+1)*k<=l.length*k:=pI k hi;rw[pC]at this;omega);rw[LR us (fun x hx=>(h4 x hx).1) i (by omega) j hj,sI,if_pos hlt,pE]at e;simp[tY,hg,e]);·(have e:l.getD i d=us[i].2:=by subst h1;simp[List.getD,show i<us.length by omega]);rw[e];exact hx.2.2.2
theorem yH{o:rM}{a:Act}{K:Act->F->Prop}{Q:Exit->Act->F->Prop}(s x:rJ)(t:sE)(ho:o.op=.call {callee:=.builtin .append,args:=#[s,x],argTypes:=#[t,t]})(i:TypeInfo)(z:H)(bytes:Nat)(ht:O.underlying t=I (.slice T))(hi:O.info? T=I i)(hz:i.zero=I z)(hsize:i.size=k)(hby:i.bytes=bytes)(hzs:z.cells.size=k)(hsz:0<k)(hT:Px T)(hs:a.eval s=v)(hown:JM T k P B w v l)(nb:Nat)(cs:List H)(y:α)(hx:a.eval x=J (I ⟨nb,0,G⟩) 1 1)(hcl:cs.length=k)(hc:∀j u,cs[j]?=I u->w.cell? ⟨nb,j,G⟩=I u)(h1:∀u∈cs,u.oneCell'=M)(h0:∀q,cs[0]?≠I (tA pD q))(hP:Ze 0 w (fun w=>P w cs y))(h63:l.length+1<=pB)(hbytes:(l.length+1)*bytes<=140737488355328)(hbase:B<=w.heap.size)(h:∀v' w',JM T k P B w' v' (l++[y])->Kp B w w'->L w w' v.ownBlock->K (a.put o.dst v') w'):o.wp O a w K Q:=by
 have hown0:=hown;obtain⟨us,e1,h2,h3,h4⟩:=hown;refine wp_append_lies w s x t ho B T i z k bytes ht hi hz hsize hby hzs hsz v l.length (us.flatMap (·.1)) hs h2 ⟨nb,0,G⟩ 1 1 cs hx (by omega) (fun j u hj=>by rw[ZW,sU];exact hc j u hj) h1 (by omega) h63 hbytes hbase _ rfl ?_;intro g cap w' hr hg hgg hlt;have hk:=hown0.turn hsz hT hg;refine h _ w' ⟨us++[(cs,y)],by simp[e1],?_,fun e=>by simp at e,fun x hx=>?_⟩ hk hg;·simpa[List.flatMap_append]using hr
 ·rcases tZ.1 hx with hx|hx;(·exact⟨(h4 x hx).1,(h4 x hx).2.1,(h4 x hx).2.2.1,(h4 x hx).2.2.2.later hk⟩);·(obtain rfl:x=(cs,y):=by simpa using hx);exact⟨hcl,h1,h0,hP.later hk⟩
theorem JM.take(h:JM T k P B w v l){a:Option rF}{n cap:Nat}(hv:v=J a n cap)(m:Nat)(hm:m<=l.length)(h0:0<m):JM T k P B w (J a m cap) (l.take m):=by
 subst hv;obtain⟨us,h1,h2,h3,h4⟩:=h;have hul:us.length=l.length:=by rw[<-h1];simp
 have hlm:(l.take m).length=m:=by simp;omega
 rcases h2.2with⟨e,h0'⟩|⟨g,cp,cur,e,hb,hg,hn,hmx,hcs,ht⟩;·omega
 ·simp only[tJ]at e;obtain⟨rfl,rfl,rfl⟩:=e;(have hfl:(us.take m).flatMap (·.1)=(us.flatMap (·.1)).take (m*k):=by(have hk:∀(vs:List (List H×α)),(∀x∈vs,x.1.length=k)->∀m,(vs.take m).flatMap (·.1)=(vs.flatMap (·.1)).take (m*k):=by intro vs;induction vs with|nil=>intro _ m;simp|cons x vs ih=>intro hx m;cases m with|zero=>simp|succ m=>have:=hx x (by simp);rw[rK,tP,tP,ih (fun y hy=>hx y (by simp[hy])) m,List.take_append,this,pC,show m*k+k-k=m*k by omega,pU (l:=x.1) (by omega)]);exact hk us (fun x hx=>(h4 x hx).1) m);refine⟨us.take m,by rw[<-h1,List.map_take],⟨?_,.inr ⟨g,cap,cur,by rw[hlm],hb,hg,by omega,hmx,hcs,?_⟩⟩,fun e=>?_,fun x hx=>h4 x (List.mem_of_mem_take hx)⟩;(·rw[hfl,rH,h2.1,hlm];have:m*k<=l.length*k:=pI k hm;omega);(·rw[hlm,hfl,<-ht,pG];have:m*k<=l.length*k:=pI k hm;rw[rV this]);·rw[e]at hlm;simp at hlm;omega
end
end
theorem Fw:(157:Nat)≠5:=by
 decide
theorem jT:(157:Nat)≠147:=by
 decide
def Ci(w:F)(b o:Nat)(c:XG):Prop:=∃vs,w.cell? ⟨b,o,G⟩=I (tA tD c.turn)∧w.cell? ⟨b,o+1,G⟩=I vs∧QQ w vs c.writes
theorem Ci.grown{w w':F}{b o:Nat}{c:XG}(h:Ci w b o c)(hg:L w w' G):Ci w' b o c:=by
 obtain⟨vs,c1,c2,h⟩:=h;exact⟨vs,hg.cell c1 (by simp),hg.cell c2 (by simp),h.grown hg⟩
def Jh(w:F)(v:H)(l:List XG):Prop:=∃a cap,v=J a l.length cap∧l.length<=cap∧((l=[]∧(a=G->cap=0))∨∃b o,a=I ⟨b,o,G⟩∧∀i,i<l.length->Ci w b (o+i*2) (l.getD i Zn))
theorem EH(w:F):Jh w (J G 0 0) []:=⟨G,0,rfl,tX _,.inl ⟨rfl,fun _=>rfl⟩⟩
theorem Jh.shape{w:F}{v:H}{l:List XG}(h:Jh w v l):∃a cap,v=J a l.length cap:=by
 obtain⟨a,cap,rfl,_⟩:=h;exact⟨a,cap,rfl⟩
theorem Jh.grown{w w':F}{v:H}{l:List XG}(h:Jh w v l)(hg:L w w' G):Jh w' v l:=by
 obtain⟨a,cap,rfl,hc,h⟩:=h;refine⟨a,cap,rfl,hc,?_⟩;rcases h with h|⟨b,o,rfl,h⟩;·exact .inl h
 ·exact .inr ⟨b,o,rfl,fun i hi=>(h i hi).grown hg⟩
theorem Jh.at{w:F}{a:Option rF}{n cap:Nat}{l:List XG}(h:Jh w (J a n cap) l)(i:Nat)(hi:i<l.length):∃b o,a=I ⟨b,o,G⟩∧Ci w b (o+i*2) (l.getD i Zn):=by
 obtain⟨a',cap',e,hc,h⟩:=h;simp only[tJ]at e;obtain⟨rfl,rfl,rfl⟩:=e;rcases h with⟨rfl,_⟩|⟨b,o,rfl,h⟩;·simp at hi
 ·exact⟨b,o,rfl,h i hi⟩
structure At (l : List XG) : Prop where
  many : l.length * 32 <= 140737488355328
  each : ∀ i, i < l.length -> NU (l.getD i Zn)
abbrev CV:=XG×H
def kB(us:List CV):List H:=us.flatMap fun x=>[tA tD x.1.turn,x.2]
theorem Ms(a b:List CV):kB (a++b)=kB a++kB b:=by
 simp[kB]
theorem fT:(O.info? 157).map (fun i=>(i.zero,i.size,i.bytes))=I (I (sX #[tA tD 0,J G 0 0]),2,32):=by
 kernel_rfl
def Jf(base:Nat)(w:F)(v:H)(l:List XG):Prop:=∃us:List CV,us.map (·.1)=l∧w.ownsRow base 157 2 v l.length (kB us)∧(l=[]->v=J G 0 0)∧∀x∈us,Xq 0 w x.2 x.1.writes
theorem Cl(base:Nat)(w:F):Jf base w (J G 0 0) []:=⟨[],rfl,sR _ _ _ _,fun _=>rfl,fun x hx=>by
 simp at hx⟩
theorem Jf.row{base:Nat}{w:F}{v:H}{l:List XG}(h:Jf base w v l):v.ownBlock=G∨∃g cur t fz,v.ownBlock=I g∧base<=g∧w.heap[g]?=I (Y cur t fz)∧t≠5∧t≠147:=by
 obtain⟨us,_,h,_⟩:=h;rcases h.2with⟨rfl,_⟩|⟨g,cap,cur,rfl,hb,hg,_⟩;·exact .inl rfl
 ·exact .inr ⟨g,cur,_,_,rfl,hb,hg,Fw,jT⟩
theorem Jf.row0{base:Nat}{w:F}{v:H}{l:List XG}(h:Jf base w v l):v.ownBlock=G∨∃g cur t fz,v.ownBlock=I g∧0<=g∧w.heap[g]?=I (Y cur t fz)∧t≠5∧t≠147:=by
 rcases h.row with h|⟨g,cur,t,fz,h1,_,h2⟩;·exact .inl h
 ·exact .inr ⟨g,cur,t,fz,h1,tW _,h2⟩
theorem Jf.lt{base:Nat}{w:F}{v:H}{l:List XG}(h:Jf base w v l):∀k,v.ownBlock=I k->base<=k∧k<w.heap.size:=by
 obtain⟨us,_,h,_⟩:=h;exact sL h
theorem Jf.grownNone{base:Nat}{w w':F}{v:H}{l:List XG}(h:Jf base w v l)(hg:L w w' G):Jf base w' v l:=by
 obtain⟨us,h1,h2,h0,h3⟩:=h;refine⟨us,h1,sB h2 hg ?_,h0,fun x hx=>(h3 x hx).kept hg (.inl rfl)⟩;cases hv:v.ownBlock with|none=>exact .inl rfl|some k=>exact .inr (by simp)
theorem Jf.shape{base:Nat}{w:F}{v:H}{l:List XG}(h:Jf base w v l):∃a cap,v=J a l.length cap:=by
 obtain⟨us,_,h,_⟩:=h;rcases h.2with⟨rfl,h0⟩|⟨g,cap,cur,rfl,_⟩;·exact⟨G,0,by rw[h0]⟩
 ·exact⟨_,cap,rfl⟩
theorem AU{base:Nat}{w W w1:F}{v:H}{l:List XG}(h:L w W G)(ho:Jf base W v l)(hb:w.heap.size<=base)(hg:L W w1 v.ownBlock):L w w1 G:=⟨hg.os.trans h.os,hg.tape.trans h.tape,hg.output.trans h.output,tR h.size hg.size,fun i hi hn=>(hg.block i (tI hi h.size) (fun e=>by
 have:=(ho.lt i e.symm).1;omega)).trans (h.block i hi hn)⟩
theorem Ee{w:F}{o:rM}{a:Act}{K:Act->F->Prop}{Q:Exit->Act->F->Prop}(s x:rJ)(ho:o.op=.call {callee:=.builtin .append,args:=#[s,x],argTypes:=#[90,90]})(base:Nat)(v:H)(l:List XG)(hs:a.eval s=v)(hown:Jf base w v l)(vw:H)(c:XG)(hw:Xq 0 w vw c.writes)(nb:Nat)(hb:w.heap[nb]?=I (Y #[tA tD c.turn,vw] 157))(hx:a.eval x=J (I ⟨nb,0,G⟩) 1 1)(hl:(l.length+1)*32<=140737488355328)(hbase:base<=w.heap.size)(h:∀v' w',Jf base w' v' (l++[c])->L w w' v.ownBlock->K (a.put o.dst v') w'):o.wp O a w K Q:=by
 obtain⟨i0,hi,hz0,hz1,hz2⟩:=r7 fT;have hrow:=hown.row0;obtain⟨us,hul,hr,_,hp⟩:=hown;refine wp_append_lies w s x 90 ho base 157 i0 (sX #[tA tD 0,J G 0 0]) 2 32 Tryz.underlying90 hi hz0 hz1 hz2 rfl (by decide) v l.length (kB us) hs hr ⟨nb,0,G⟩ 1 1 (kB [(c,vw)]) hx rfl (rC (cs:=#[tA tD c.turn,vw]) hb) ?_ (by omega) (by unfold pB;omega) hl hbase _ rfl ?_;·intro u hu;simp only[kB,tP,rI,tE,tL,tN,or_false]at hu;rcases hu with rfl|rfl;(·rfl);·exact hw.oneCell
 ·intro g cap w' q1 q2 _ _;refine h _ w' ⟨us++[(c,vw)],by simp[hul],?_,fun e=>by simp at e,?_⟩ q2;(·rw[Ms,tC];exact q1);·intro y hy;rcases tZ.1 hy with hy|hy;(·exact(hp y hy).kept q2 hrow);·simp only[tL,tN,or_false]at hy;subst hy;exact hw.kept q2 hrow
theorem kR{w:F}{ops:Array rM}{rest:List rM}{o:rM}{a:Act}{Q:Exit->Act->F->Prop}(hgd:o.guard=G)(s x:rJ)(ho:o.op=.call {callee:=.builtin .append,args:=#[s,x],argTypes:=#[90,90]})(base:Nat)(v:H)(l:List XG)(hs:a.eval s=v)(hown:Jf base w v l)(vw:H)(c:XG)(hw:Xq 0 w vw c.writes)(nb:Nat)(hb:w.heap[nb]?=I (Y #[tA tD c.turn,vw] 157))(hx:a.eval x=J (I ⟨nb,0,G⟩) 1 1)(hl:(l.length+1)*32<=140737488355328)(hbase:base<=w.heap.size)(h:∀v' w',Jf base w' v' (l++[c])->L w w' v.ownBlock->wpList O ops Q rest (a.put o.dst v') w'):wpList O ops Q (o::rest) a w:=wpList_plain hgd fun _ hK=>Ee s x ho base v l hs hown vw c hw nb hb hx hl hbase fun v' w' h1 h2=>hK _ _ (h v' w' h1 h2)
theorem Jf.ne{base:Nat}{w:F}{v:H}{l:List XG}(h:Jf base w v l){b:Nat}{cs:Array H}{t:sE}{fz:Nat×Nat}(hb:w.heap[b]?=I (Y cs t fz))(ht:t≠157):v.ownBlock≠I b:=by
 intro e;obtain⟨us,_,h,_⟩:=h;rcases h.2with⟨rfl,_⟩|⟨g,cap,cur,rfl,_,hg,_⟩;·cases e
 ·cases e;rw[hb]at hg;simp only[tB,sD]at hg;exact ht hg.2.1
theorem Jf.setOther{base:Nat}{w:F}{v:H}{l:List XG}(h:Jf base w v l){b i:Nat}{cs:Array H}{t:sE}{fz:Nat×Nat}(hb:w.heap[b]?=I (Y cs t fz))(ht:t≠5)(ht2:t≠147)(ht3:t≠157)(u:H):Jf base (tH w ⟨b,i,G⟩ u) v l:=by
 have hne:=h.ne hb ht3;obtain⟨us,h1,h2,h0,h3⟩:=h;exact⟨us,h1,sB h2 (YP w b i u) (.inr hne),h0,fun x hx=>(h3 x hx).kept (YP w b i u) (.inr ⟨b,cs,t,fz,rfl,tW _,hb,ht,ht2⟩)⟩
theorem Jf.other{base:Nat}{w w':F}{v:H}{l:List XG}(h:Jf base w v l)(hg:L w w' v.ownBlock){b:Nat}{cs:Array H}{t:sE}{fz:Nat×Nat}(hb:w.heap[b]?=I (Y cs t fz))(ht:t≠157):w'.heap[b]?=I (Y cs t fz):=by
 rw[hg.block b (tK.1 hb).1 (fun e=>h.ne hb ht e.symm)];exact hb
def Iz:Prop:=∀(w:F)(v u:H)(t:Tx)(r:Rd),G2 w v t->xO t->Yy w u r->Fe r->rA O 91 #[v,u] w fun e w'=>∃x,e=tG (sN #[x,tA tD (Xi t r)])∧GU w' x (XU t r)∧L w w' G
theorem Qg(w:F)(o:Obj):∃W:F,Hid (W=w.alloc o)∧L w W G∧Hid (W.heap[w.heap.size]?=I o):=⟨w.alloc o,rfl,sS _ _ _,oL w o⟩
theorem Z7{x y:Int}(h:x=y):tG (tA tD y)=tG (tA tD x):=by
 rw[h]
theorem YQ{x y:Bool}(h:x=y):tG (tQ y)=tG (tQ x):=by
 rw[h]
theorem XE{W w:F}{b:Nat}{x y z:H}{t:sE}(hg:L W w G)(h:W.heap[b]?=I (Y #[x,y,z] t)):w.cell? ⟨b,0,G⟩=I x∧w.cell? ⟨b,1,G⟩=I y∧w.cell? ⟨b,2,G⟩=I z:=by
 have hb:w.heap[b]?=I (Y #[x,y,z] t):=by rw[hg.block b (tK.1 h).1 (by simp)];exact h
 refine⟨?_,?_,?_⟩<;>simp[tY,hb]
def MD(p:List Rd)(r:Rd):Int:=if XI r=0then(if p.any (fun q=>XJ q r)=M then 3 else 0)else XI r
def Dk(p:List Zi)(w:Zi):Int:=if QG w=0then(if p.any (fun q=>ZU q w)=M then 3 else 0)else QG w
theorem cL(l:List Rd)(m:Nat)(h:m<l.length):GZ (l.take m) (l.drop m)=if MD (l.take m) (l.getD m Zg)=0then GZ (l.take (m+1)) (l.drop (m+1))else MD (l.take m) (l.getD m Zg):=by
 rw[sZ h,GZ,rB h,show l[m]=l.getD m Zg by simp[h]];unfold MD;by_cases h1:XI (l.getD m Zg)=0;·rw[if_pos h1,if_pos h1];by_cases h2:(l.take m).any (fun q=>XJ q (l.getD m Zg))=M;(·rw[if_pos h2,if_pos h2,if_neg (by omega)]);·rw[if_neg h2,if_neg h2,if_pos rfl]
 ·rw[if_neg h1,if_neg h1,if_neg h1]
theorem cZ(l:List Zi)(m:Nat)(h:m<l.length):xY (l.take m) (l.drop m)=if Dk (l.take m) (l.getD m Qs)=0then xY (l.take (m+1)) (l.drop (m+1))else Dk (l.take m) (l.getD m Qs):=by
 rw[sZ h,xY,rB h,show l[m]=l.getD m Qs by simp[h]];unfold Dk;by_cases h1:QG (l.getD m Qs)=0;·rw[if_pos h1,if_pos h1];by_cases h2:(l.take m).any (fun q=>ZU q (l.getD m Qs))=M;(·rw[if_pos h2,if_pos h2,if_neg (by omega)]);·rw[if_neg h2,if_neg h2,if_pos rfl]
 ·rw[if_neg h1,if_neg h1,if_neg h1]
theorem Fd{α:Type}(d:α)(f:α->Bool)(l:List α)(k:Nat)(h:k<l.length):(l.take (k+1)).any f=((l.take k).any f||f (l.getD k d)):=by
 rw[rB h,List.any_append,show l[k]=l.getD k d by simp[h]];simp
theorem E6{α:Type}(d:α)(f:α->Bool)(l:List α)(k m:Nat)(hk:k<m)(hm:m<=l.length)(h:f (l.getD k d)=M):(l.take m).any f=M:=by
 rw[rG];refine⟨l.getD k d,?_,h⟩;rw[show l.getD k d=(l.take m)[k]'(by rw[rH];omega)by rw[List.getElem_take];simp[show k<l.length by omega]];exact sV _
theorem xA{w:F}{a:Option rF}{n cap:Nat}{l:List Rd}(h:Xc w (J a n cap) l)(i:Nat)(hi:i<l.length):∃b o,a=I ⟨b,o,G⟩∧∃u1 u2 u3 u4 u5 u6,(w.cell? ⟨b,o+i*4,G⟩=I (J u1 (l.getD i Zg).name.length u2)∧w.cell? ⟨b,o+i*4+1,G⟩=I (J u3 (l.getD i Zg).key.length u4)∧w.cell? ⟨b,o+i*4+2,G⟩=I (tQ (l.getD i Zg).wide)∧w.cell? ⟨b,o+i*4+3,G⟩=I (J u5 (l.getD i Zg).last.length u6))∧Yy w (sX #[J u1 (l.getD i Zg).name.length u2,J u3 (l.getD i Zg).key.length u4,tQ (l.getD i Zg).wide,J u5 (l.getD i Zg).last.length u6]) (l.getD i Zg):=by
 obtain⟨b,o,rfl,hat⟩:=h.at i hi;obtain⟨vn,vk,vl,c1,c2,c3,c4,s1,s2,s3⟩:=hat;obtain⟨u1,u2,rfl⟩:=s1.shape;obtain⟨u3,u4,rfl⟩:=s2.shape;obtain⟨u5,u6,rfl⟩:=s3.shape;exact⟨b,o,rfl,u1,u2,u3,u4,u5,u6,⟨c1,c2,c3,c4⟩,⟨_,_,_,rfl,s1,s2,s3⟩⟩
theorem Yh{w:F}{a:Option rF}{n cap:Nat}{l:List Zi}(h:QQ w (J a n cap) l)(i:Nat)(hi:i<l.length):∃b o,a=I ⟨b,o,G⟩∧∃u1 u2 u3 u4 u5 u6,(w.cell? ⟨b,o+i*4,G⟩=I (J u1 (l.getD i Qs).name.length u2)∧w.cell? ⟨b,o+i*4+1,G⟩=I (J u3 (l.getD i Qs).key.length u4)∧w.cell? ⟨b,o+i*4+2,G⟩=I (tQ (l.getD i Qs).gone)∧w.cell? ⟨b,o+i*4+3,G⟩=I (J u5 (l.getD i Qs).value.length u6))∧Xd w (sX #[J u1 (l.getD i Qs).name.length u2,J u3 (l.getD i Qs).key.length u4,tQ (l.getD i Qs).gone,J u5 (l.getD i Qs).value.length u6]) (l.getD i Qs):=by
 obtain⟨b,o,rfl,hat⟩:=h.at i hi;obtain⟨vn,vk,vl,c1,c2,c3,c4,s1,s2,s3⟩:=hat;obtain⟨u1,u2,rfl⟩:=s1.shape;obtain⟨u3,u4,rfl⟩:=s2.shape;obtain⟨u5,u6,rfl⟩:=s3.shape;exact⟨b,o,rfl,u1,u2,u3,u4,u5,u6,⟨c1,c2,c3,c4⟩,⟨_,_,_,rfl,s1,s2,s3⟩⟩
theorem El{x y:Bool}{a b:Int}(h:x=y)(k:a=b):tG (sN #[tQ y,tA tD b])=tG (sN #[tQ x,tA tD a]):=by
 rw[h,k]
theorem OS{α:Type}(f:α->Bool)(l:List α)(d:α)(i:Nat)(hi:i<l.length)(h:f (l.getD i d)=M):l.any f=M:=by
 have:=E6 d f l i l.length hi (tX _) h;rw[sG]at this;exact this
theorem zM:(95:Nat)≠5:=by
 decide
theorem kE:(95:Nat)≠163:=by
 decide
theorem G5:(95:Nat)≠147:=by
 decide
theorem ZQ.block{rb pb:Nat}{W w':F}{v:H}{l:List Rd}(ho:ZQ rb pb W v l)(hg:L W w' v.ownBlock){b:Nat}{cs:Array H}{t:sE}{fz:Nat×Nat}(h:W.heap[b]?=I (Y cs t fz))(ht:t≠163):w'.heap[b]?=I (Y cs t fz):=by
 rw[hg.block b (tK.1 h).1 (fun e=>ho.ne h ht e.symm)];exact h
theorem Q6.block{rb pb:Nat}{W w':F}{v:H}{l:List Zi}(ho:Q6 rb pb W v l)(hg:L W w' v.ownBlock){b:Nat}{cs:Array H}{t:sE}{fz:Nat×Nat}(h:W.heap[b]?=I (Y cs t fz))(ht:t≠147):w'.heap[b]?=I (Y cs t fz):=by
 rw[hg.block b (tK.1 h).1 (fun e=>ho.ne h ht e.symm)];exact h
theorem ZQ.keptV{rb rb':Nat}{W w':F}{v u:H}{l:List Rd}{k:List Zi}(hR:ZQ rb 0 W v l)(hV:Q6 rb' 0 W u k)(hg:L W w' u.ownBlock):ZQ rb 0 w' v l:=by
 refine hR.kept hg ?_ ?_;·rcases hR.row with h|⟨g,cur,fz,e,_,h⟩;(·exact .inl h);·refine .inr ?_;rw[e];exact fun e2=>hV.ne h (fun e=>lY e) e2.symm
 ·rcases hV.row with h|⟨g,cur,fz,e,_,h⟩;(·exact .inl h);·exact .inr ⟨g,cur,_,fz,e,tW _,h,uI⟩
theorem QK{w:F}{b:Nat}{x y z:H}{t:sE}(h:w.heap[b]?=I (Y #[x,y,z] t)):(w.cell? ⟨b,0,G⟩=I x∧w.cell? ⟨b,1,G⟩=I y∧w.cell? ⟨b,2,G⟩=I z)∧w.frozen? ⟨b,0,G⟩=N∧w.frozen? ⟨b,1,G⟩=N∧w.frozen? ⟨b,2,G⟩=N:=by
 refine⟨⟨?_,?_,?_⟩,?_,?_,?_⟩<;>simp[tY,r8,h]
theorem U7{rb:Nat}{w wr:F}{RB:Nat}{x y z:H}{st:Int}{va ua:Option rF}{n m vc uc:Nat}{R:List Rd}{V:List Zi}(h:wr.heap[RB]?=I (Y #[x,y,z] 95))(hR:ZQ rb 0 wr (J va n vc) R)(hV:Q6 rb 0 wr (J ua m uc) V)(hg:L w wr G)(hw:w.heap.size<=RB):((((tH wr ⟨RB,0,G⟩ (tA tD st)).setCell ⟨RB,1,G⟩ (J va n vc)).setCell ⟨RB,2,G⟩ (J ua m uc)).cell? ⟨RB,0,G⟩=I (tA tD st)∧(((tH wr ⟨RB,0,G⟩ (tA tD st)).setCell ⟨RB,1,G⟩ (J va n vc)).setCell ⟨RB,2,G⟩ (J ua m uc)).cell? ⟨RB,1,G⟩=I (J va n vc)∧(((tH wr ⟨RB,0,G⟩ (tA tD st)).setCell ⟨RB,1,G⟩ (J va n vc)).setCell ⟨RB,2,G⟩ (J ua m uc)).cell? ⟨RB,2,G⟩=I (J ua m uc))∧ZQ rb 0 (((tH wr ⟨RB,0,G⟩ (tA tD st)).setCell ⟨RB,1,G⟩ (J va n vc)).setCell ⟨RB,2,G⟩ (J ua m uc)) (J va n vc) R∧Q6 rb 0 (((tH wr ⟨RB,0,G⟩ (tA tD st)).setCell ⟨RB,1,G⟩ (J va n vc)).setCell ⟨RB,2,G⟩ (J ua m uc)) (J ua m uc) V∧L w (((tH wr ⟨RB,0,G⟩ (tA tD st)).setCell ⟨RB,1,G⟩ (J va n vc)).setCell ⟨RB,2,G⟩ (J ua m uc)) G:=by
 have b1:=Qk (i:=0) (u:=tA tD st) h;have b2:=Qk (i:=1) (u:=J va n vc) b1;have b3:=Qk (i:=2) (u:=J ua m uc) b2;exact⟨(QK (x:=tA tD st) (y:=J va n vc) (z:=J ua m uc) b3).1,((hR.setOther h zM kE (tW _) _).setOther b1 zM kE (tW _) _).setOther b2 zM kE (tW _) _,((hV.setOther h zM G5 (tW _) _).setOther b1 zM G5 (tW _) _).setOther b2 zM G5 (tW _) _,Qc (Qc (Qc hg _ hw _ _) _ hw _ _) _ hw _ _⟩
theorem Q6.keptR{rb rb':Nat}{W w':F}{v u:H}{l:List Zi}{k:List Rd}(hV:Q6 rb 0 W v l)(hR:ZQ rb' 0 W u k)(hg:L W w' u.ownBlock):Q6 rb 0 w' v l:=by
 refine hV.kept hg ?_ ?_;·rcases hV.row with h|⟨g,cur,fz,e,_,h⟩;(·exact .inl h);·refine .inr ?_;rw[e];exact fun e2=>hR.ne h (fun e=>lY e.symm) e2.symm
 ·rcases hR.row with h|⟨g,cur,fz,e,_,h⟩;(·exact .inl h);·exact .inr ⟨g,cur,_,fz,e,tW _,h,lC⟩
theorem GJ{w:F}{v1 v2:H}{st:Int}{R:List Rd}{V:List Zi}{rb:Nat}{t:Tx}(e:t=⟨st,R,V⟩)(h1:ZQ rb 0 w v1 R)(h2:Q6 rb 0 w v2 V):GU w (sX #[tA tD st,v1,v2]) t:=by
 subst e;exact⟨_,_,rfl,h1.down 0 (tW _),h2.down 0 (tW _)⟩
theorem U5{v:H}{a b:Int}(h:a=b):tG (sN #[v,tA tD b])=tG (sN #[v,tA tD a]):=by
 rw[h]
theorem LY:∀(l:List Zi)(w:Zi)(m:Nat),m<l.length->(l.take m).any (fun q=>ZU q w)=N->ZU (l.getD m Qs) w=M->xD l w=l.set m w|[],_,_,h,_,_=>by simp at h|a::l,w,0,_,_,h=>by have h':ZU a w=M:=h;rw[xD,if_pos h'];rfl|a::l,w,m+1,h0,h1,h2=>by rw[rK,pJ,rT]at h1;rw[xD,if_neg (by rw[h1.1];decide),pX,LY l w m (by simpa using h0) h1.2 (by simpa using h2)]
theorem Dx:∀(l:List Zi)(w:Zi),l.any (fun q=>ZU q w)=N->xD l w=l++[w]|[],_,_=>rfl|a::l,w,h=>by rw[pJ,rT]at h;rw[xD,if_neg (by rw[h.1];decide),Dx l w h.2];rfl
theorem Q6.zero{rb:Nat}{w:F}{b o n cap:Nat}{l:List Zi}(h:Q6 rb 0 w (J (I ⟨b,o,G⟩) n cap) l):o=0:=by
 obtain⟨us,hl,hr,h3⟩:=h;rcases hr.2with⟨e,_⟩|⟨g',cap',cur,e,_⟩;·cases e
 ·simp only[tJ,tB,rO]at e;exact e.1.2.1
theorem Q6.frozenT{rb:Nat}{w:F}{g n cap:Nat}{l:List Zi}(h:Q6 rb 0 w (J (I ⟨g,0,G⟩) n cap) l)(j:Nat):w.frozen? ⟨g,j,G⟩=N:=by
 obtain⟨us,hl,hr,h3⟩:=h;rcases hr.2with⟨e,_⟩|⟨g',cap',cur,e,hb,hg,_⟩;·cases e
 ·simp only[tJ,tB,rO]at e;obtain⟨⟨rfl,_⟩,_⟩:=e;simp[r8,hg]
theorem En:∀(us:List WV)(i:Nat)(x:WV),Je (us.set i x)=((((Je us).set (i*4) x.2.1).set (i*4+1) x.2.2.1).set (i*4+2) (tQ x.1.gone)).set (i*4+3) x.2.2.2|[],i,x=>by simp[Je]|y::us,0,x=>by simp[Je]|y::us,i+1,x=>by have ih:=En us i x;(have e:∀us:List WV,Je (y::us)=y.2.1::y.2.2.1::tQ y.1.gone::y.2.2.2::Je us:=fun us=>by simp[Je]);rw[pX,e,e,ih,show(i+1)*4=i*4+4by omega];rfl
theorem Q6.setT{rb:Nat}{w:F}{g n cap:Nat}{l:List Zi}(h:Q6 rb 0 w (J (I ⟨g,0,G⟩) n cap) l)(i:Nat)(vn vk vv:H)(p:Zi)(h1:Qi 0 w vn p.name)(h2:Qi 0 w vk p.key)(h3:Qi 0 w vv p.value):Q6 rb 0 ((((tH w ⟨g,i*4,G⟩ vn).setCell ⟨g,i*4+1,G⟩ vk).setCell ⟨g,i*4+2,G⟩ (tQ p.gone)).setCell ⟨g,i*4+3,G⟩ vv) (J (I ⟨g,0,G⟩) n cap) (l.set i p):=by
 obtain⟨us,hul,hr,hp⟩:=h;have hgr:L w ((((tH w ⟨g,i*4,G⟩ vn).setCell ⟨g,i*4+1,G⟩ vk).setCell ⟨g,i*4+2,G⟩ (tQ p.gone)).setCell ⟨g,i*4+3,G⟩ vv) (I g):=Qh (Qh (Qh (Qh (Qb _ _) _ _) _ _) _ _) _ _;rcases hr.2with⟨e,_⟩|⟨g',cap',cur,e,hb,hg,hn,hm,hs,ht⟩;·cases e
 ·simp only[tJ,tB,rO]at e;obtain⟨⟨rfl,_⟩,rfl,rfl⟩:=e;have hrow:(I g:Option Nat)=G∨∃g' cur t fz,(I g:Option Nat)=I g'∧0<=g'∧w.heap[g']?=I (Y cur t fz)∧t≠5:=.inr ⟨g,cur,_,_,rfl,tW _,hg,uI⟩;(have hus:us.length=l.length:=by rw[<-hul];simp);refine⟨us.set i (p,vn,vk,vv),by rw[List.map_set,hul],⟨by rw[Wq,rU,rU,hus],.inr ⟨g,cap,_,by rw[rU],hb,Qk (Qk (Qk (Qk hg))),by rw[rU];exact hn,hm,by simpa using hs,?_⟩⟩,?_⟩;(·rw[En,rU];simp only[Array.toList_setIfInBounds];rw[pL,pL,pL,pL,ht]);·intro x hx;rcases List.mem_or_eq_of_mem_set hx with hx|rfl;(·exact⟨(hp x hx).1.keptT hgr hrow,(hp x hx).2.1.keptT hgr hrow,(hp x hx).2.2.keptT hgr hrow⟩);·exact⟨h1.keptT hgr hrow,h2.keptT hgr hrow,h3.keptT hgr hrow⟩
def Ul(n k:List UInt8)(q:Zi):Bool:=tV (q.name=n)&&tV (q.key=k)
theorem Bv{α:Type}(p:α->Bool)(d:α):∀(l:List α)(m:Nat),m<l.length->(l.take m).any p=N->p (l.getD m d)=M->l.find? p=I (l.getD m d)|[],_,h,_,_=>by simp at h|a::l,0,_,_,h=>by have h':p a=M:=h;rw[List.find?_cons_of_pos h'];rfl|a::l,m+1,h0,h1,h2=>by rw[rK,pJ,rT]at h1;rw[List.find?_cons_of_neg (by rw[h1.1];decide),Bv p d l m (by simpa using h0) h1.2 (by simpa using h2)];simp
theorem Hb{α:Type}(p:α->Bool)(l:List α)(h:l.any p=N):l.find? p=G:=by
 rw[List.find?_eq_none];intro x hx hp;rw[List.any_eq_false]at h;exact h x hx hp
theorem iP{l:List Zi}{n k:List UInt8}{m:Nat}(h:m<l.length)(h1:(l.take m).any (Ul n k)=N)(h2:Ul n k (l.getD m Qs)=M):lH l n k=I (l.getD m Qs):=Bv (Ul n k) Qs l m h h1 h2
theorem eG{l:List Zi}{n k:List UInt8}(h:l.any (Ul n k)=N):lH l n k=G:=Hb (Ul n k) l h
theorem Oy{l:FL}{t:Tx}{n k:List UInt8}(h:KH l t n k≠0):VS l t n k=N∧Vo l t n k=N∧Vb l t n k=[]:=by
 rw[VS,Vo,Vb,if_neg h,if_neg h,if_neg h];exact⟨rfl,rfl,rfl⟩
theorem fI{l:FL}{t:Tx}{n k:List UInt8}(h:z9 l t≠0):KH l t n k=z9 l t:=by
 rw[KH,if_neg h]
theorem DI{l:FL}{t:Tx}(h:z9 l t=0):Xr l∧qM t:=by
 unfold z9 at h;by_cases hf:Q9 l=0;·rw[if_pos hf]at h;exact⟨(Ya l).1 hf,(uD t).1 h⟩
 ·rw[if_neg hf]at h;exact absurd h hf
theorem cH{l:FL}{t:Tx}{n k:List UInt8}(h:z9 l t=0){m:Nat}(hm:m<t.writes.length)(h1:(t.writes.take m).any (Ul n k)=N)(h2:Ul n k (t.writes.getD m Qs)=M):KH l t n k=0∧VS l t n k=M∧Vo l t n k=!(t.writes.getD m Qs).gone∧Vb l t n k=(t.writes.getD m Qs).value:=by
 obtain⟨hf,ht⟩:=DI h;have ha:=iP hm h1 h2;have hs:=OQ ha;have hw:=(XO _).1 (ht.wrs _ hs.1);rw[hs.2.1,hs.2.2]at hw;have h0:=Lm hf ht hw.1 hw.2.1;refine⟨h0,?_,?_,?_⟩;·rw[VS,if_pos h0,ha];rfl
 ·rw[Vo,if_pos h0,ha]
 ·rw[Vb,if_pos h0,ha]
theorem bY{l:FL}{t:Tx}{n k:List UInt8}(h:z9 l t=0)(h1:t.writes.any (Ul n k)=N):KH l t n k=VN l n k∧VS l t n k=N∧Vo l t n k=Vl l n k∧Vb l t n k=Vn l n k:=by
 obtain⟨hf,ht⟩:=DI h;have ha:=eG h1;have hfo:=(Ya l).2 hf;have hE:KH l t n k=VN l n k:=by rw[KH,if_pos h,VN,qI,if_pos hfo];by_cases hn:Qt n.length=0;(·rw[if_pos hn,if_pos hn,Xe,if_pos ((YW _).2 (Uo hf n))]);·rw[if_neg hn,if_neg hn]
 refine⟨hE,?_,?_,?_⟩;·rw[VS,ha];by_cases h0:KH l t n k=0;(·rw[if_pos h0];rfl);·rw[if_neg h0]
 ·rw[Vo,ha];by_cases h0:KH l t n k=0;(·rw[if_pos h0]);·rw[if_neg h0];rw[hE]at h0;rw[Vl];by_cases hn:qI l n=0;(·rw[VN,if_pos hn]at h0;rw[if_pos hn,Et];simp[h0]);·rw[if_neg hn]
 ·rw[Vb,ha];by_cases h0:KH l t n k=0;(·rw[if_pos h0]);·rw[if_neg h0];rw[hE]at h0;rw[Vn];by_cases hn:qI l n=0;(·rw[VN,if_pos hn]at h0;rw[if_pos hn,Ew,if_neg h0]);·rw[if_neg hn]
theorem I0{X:PL}(h:ZI X)(k:List UInt8):ZI (kM X k):=⟨tR (Lr X k) h.room,fun p hp=>h.pairs p (oH.1 hp).1,NP X k h.rises⟩
theorem Dy{X:PL}(h:ZI X)(f u:List UInt8):ZI (Vq X f u):=⟨tR (Ih X f u) h.room,fun p hp=>h.pairs p (oH.1 hp).1,Bl X f u h.rises⟩
theorem Hl{X:PL}(h:ZI X){p:Pr}(hp:(1<=p.1.length∧p.1.length<=16)∧p.2.length<=32)(hl:(Kl X p).length<=60):ZI (Kl X p):=⟨hl,Ng X p h.pairs hp,Pu X p h.rises⟩
theorem kG(n a b:List UInt8)(w:Zi):XV ⟨n,a,M,b⟩ w=M↔w.name=n∧l5 a b w.key=M:=by
 show(tV (n=w.name)&&l5 a b w.key)=M↔_;rw[rP,decide_eq_true_iff];exact⟨fun h=>⟨h.1.symm,h.2⟩,fun h=>⟨h.1.symm,h.2⟩⟩
theorem Ok{n a b:List UInt8}{w:Zi}(h:XV ⟨n,a,M,b⟩ w=N)(X:PL):K8 n a b X w=X:=by
 rw[K8,if_neg];intro e;rw[(kG n a b w).2 e]at h;cases h
theorem bA{n a b:List UInt8}{w:Zi}(h:XV ⟨n,a,M,b⟩ w=M)(hg:w.gone=M){X:PL}(hX:ZI X)(hw:QG w=0):Xe X w.key=0∧z8 X w.key=K8 n a b X w∧ZI (K8 n a b X w):=by
 have hk:=((XO w).1 hw).2.1;have h0:=Ph hX hk;have e:K8 n a b X w=kM X w.key:=by rw[K8,if_pos ((kG n a b w).1 h),if_pos hg]
 refine⟨h0,by rw[e,z8,if_pos h0],by rw[e];exact I0 hX _⟩
theorem bW{n a b:List UInt8}{w:Zi}(h:XV ⟨n,a,M,b⟩ w=M)(hg:w.gone=N){X:PL}(hX:ZI X)(hw:QG w=0):K8 n a b X w=Kl X (w.key,w.value)∧(60<(K8 n a b X w).length->Ks X (w.key,w.value)=11)∧(¬60<(K8 n a b X w).length->Ks X (w.key,w.value)=0∧Vx X (w.key,w.value)=K8 n a b X w∧ZI (K8 n a b X w)):=by
 have hk:=(XO w).1 hw;have hv:w.value.length<=32:=by have:=hk.2.2;rw[hg,if_neg (by decide)]at this;exact this
 have e:K8 n a b X w=Kl X (w.key,w.value):=by rw[K8,if_pos ((kG n a b w).1 h),hg,if_neg (by decide)]
 have h0:V5 X (w.key,w.value)=0:=by rw[V5,if_pos ((YW X).2 hX)];exact(JL _).2 ⟨hk.2.1,hv⟩
 refine⟨e,fun hl=>?_,fun hl=>?_⟩;·rw[e]at hl;rw[Ks,if_pos h0,if_pos hl]
 ·rw[e]at hl;(have h1:Ks X (w.key,w.value)=0:=by rw[Ks,if_pos h0,if_neg hl]);refine⟨h1,by rw[e,Vx,if_pos h1],?_⟩;rw[e];exact Hl hX ⟨hk.2.1,hv⟩ (by omega)
def JP(n a b:List UInt8)(X:PL)(ws:List Zi):Int×PL:=(uB n a b X ws,if uB n a b X ws=0then SJ n a b X ws else[])
theorem Ld(n a b:List UInt8)(X:PL):JP n a b X []=(0,X):=rfl
theorem PH{n a b:List UInt8}{X:PL}{ws:List Zi}{m:Nat}(hm:m<ws.length)(h:¬60<(K8 n a b X (ws.getD m Qs)).length):JP n a b X (ws.drop m)=JP n a b (K8 n a b X (ws.getD m Qs)) (ws.drop (m+1)):=by
 rw[sZ hm,show ws[m]=ws.getD m Qs by simp[hm]];rw[JP,JP,uB,if_neg h];rfl
theorem Cm{n a b:List UInt8}{X:PL}{ws:List Zi}{m:Nat}(hm:m<ws.length)(h:60<(K8 n a b X (ws.getD m Qs)).length):JP n a b X (ws.drop m)=(11,[]):=by
 rw[sZ hm,show ws[m]=ws.getD m Qs by simp[hm]];rw[JP,uB,if_pos h,if_neg (by decide)]
theorem dY{l:FL}{t:Tx}{n a b:List UInt8}(h:z9 l t≠0):KJ l t n a b=z9 l t∧V4 l t n a b=[]:=by
 have e:KJ l t n a b=z9 l t:=by rw[KJ,if_neg h]
 exact⟨e,by rw[V4,e,if_neg h]⟩
theorem Sw{l:FL}{t:Tx}{n a b:List UInt8}(h:z9 l t=0)(h1:YJ l n a b≠0):KJ l t n a b=YJ l n a b∧V4 l t n a b=[]:=by
 obtain⟨hf,ht⟩:=DI h;have hfo:=(Ya l).2 hf;have e:KJ l t n a b=YJ l n a b:=by(have hE:YJ l n a b=if Qt n.length=0then(if Qq a.length=0then Qq b.length else Qq a.length)else Qt n.length:=by rw[YJ,qI,if_pos hfo];by_cases hn:Qt n.length=0;(·rw[if_pos hn,if_pos hn,YH,Xe,if_pos ((YW _).2 (Uo hf n))]);·rw[if_neg hn,if_neg hn]);rw[KJ,if_pos h,hE];by_cases hn:Qt n.length=0;(·rw[if_pos hn,if_pos hn];by_cases ha:Qq a.length=0;(·rw[if_pos ha,if_pos ha];by_cases hb:Qq b.length=0;(·rw[hE,if_pos hn,if_pos ha]at h1;exact absurd hb h1);·rw[if_neg hb]);·rw[if_neg ha,if_neg ha]);·rw[if_neg hn,if_neg hn]
 exact⟨e,by rw[V4,e,if_neg h1]⟩
theorem Az{l:FL}{t:Tx}{n a b:List UInt8}(h:z9 l t=0)(h1:YJ l n a b=0):JP n a b (Ku l n a b) t.writes=(KJ l t n a b,V4 l t n a b)∧ZI (Ku l n a b):=by
 obtain⟨hf,ht⟩:=DI h;have hfo:=(Ya l).2 hf;have hn:qI l n=0:=by by_cases hn:qI l n=0;(·exact hn);·rw[YJ,if_neg hn]at h1;exact absurd h1 hn
 have hr:YH (Jn l n) a b=0:=by rw[YJ,if_pos hn]at h1;exact h1
 have hg:=Ae hr;have hb:Qq b.length=0:=by rw[YH,if_pos hg]at hr;exact hr
 have ha:Qq a.length=0:=(Zy _).2 (aA hg);have hnn:Qt n.length=0:=(ZG _).2 (zA hn).2;have e:Ku l n a b=Vq (Jn l n) a b:=by rw[Ku,if_pos hn,KZ,if_pos hr]
 have eE:KJ l t n a b=uB n a b (Vq (Jn l n) a b) t.writes:=by rw[KJ,if_pos h,if_pos hnn,if_pos ha,if_pos hb]
 refine⟨?_,by rw[e];exact Dy (Uo hf n) a b⟩;rw[e,JP,V4,eE]
def Ig:Prop:=∀(w:F)(v:H)(t:Tx),G2 w v t->xO t->rA O 95 #[v] w fun e w'=>e=tG (tA tD (Gp t))∧L w w' G
def Og:Prop:=∀(w:F)(v:H)(l:PL),Qr w v l->uJ l->rA O 52 #[v] w fun e w'=>e=tG (tA tD (QC l))∧L w w' G
theorem F3{w:F}{o:rM}{a:Act}{K:Act->F->Prop}{Q:Exit->Act->F->Prop}(s x:rJ)(ho:o.op=.call {callee:=.builtin .append,args:=#[s,x],argTypes:=#[41,41]})(rb base:Nat)(hrb:base<=rb)(v:H)(l:PL)(hs:a.eval s=v)(hown:Kx rb base w v l)(vk vv:H)(p:Pr)(hk:Qi base w vk p.1)(hv:Qi base w vv p.2)(nb:Nat)(hb:w.heap[nb]?=I (Y #[vk,vv] 44))(hx:a.eval x=J (I ⟨nb,0,G⟩) 1 1)(hl:(l.length+1)*48<=140737488355328)(hbase:rb<=w.heap.size)(h:∀v' w',Kx rb base w' v' (l++[p])->L w w' v.ownBlock->K (a.put o.dst v') w'):o.wp O a w K Q:=by
 obtain⟨i0,hi,hz0,hz1,hz2⟩:=r7 CA;have hrow:=hown.row hrb;obtain⟨vs,hvl,hr,hp⟩:=hown;refine wp_append_lies w s x 41 ho rb 44 i0 (sX #[J G 0 0,J G 0 0]) 2 48 Tryz.underlying41 hi hz0 hz1 hz2 rfl (by decide) v l.length (flat vs) hs hr ⟨nb,0,G⟩ 1 1 (flat [(vk,vv)]) hx rfl (rC (cs:=#[vk,vv]) hb) ?_ (by omega) (by unfold pB;omega) hl hbase _ rfl ?_;·intro u hu;simp only[flat,tP,rI,tE,tL,tN,or_false]at hu;rcases hu with rfl|rfl;(·exact Zz hk);·exact Zz hv
 ·intro g cap w' h1 h2 _ _;refine h _ w' ⟨vs++[(vk,vv)],by simp[hvl],?_,?_⟩ h2;(·rw[J6,tC];exact h1);·intro i hi;rw[Js,Js,hvl];by_cases hil:i<l.length;(·rw[if_pos hil,if_pos hil];exact⟨(hp i hil).1.kept h2 hrow,(hp i hil).2.kept h2 hrow⟩);·rw[if_neg hil,if_neg hil];(obtain rfl:i=l.length:=by simp at hi;omega);rw[oK];exact⟨hk.kept h2 hrow,hv.kept h2 hrow⟩
theorem Gl{w:F}{ops:Array rM}{o:rM}{a:Act}{K:Act->F->Prop}{Q:Exit->Act->F->Prop}{E:Prop}(hgd:o.guard=G)(s x:rJ)(ho:o.op=.call {callee:=.builtin .append,args:=#[s,x],argTypes:=#[41,41]})(rb base:Nat)(hrb:base<=rb)(v:H)(l:PL)(hs:a.eval s=v)(hown:Kx rb base w v l)(vk vv:H)(p:Pr)(hk:Qi base w vk p.1)(hv:Qi base w vv p.2)(nb:Nat)(hb:w.heap[nb]?=I (Y #[vk,vv] 44))(hx:a.eval x=J (I ⟨nb,0,G⟩) 1 1)(hl:(l.length+1)*48<=140737488355328)(hbase:rb<=w.heap.size)(h:∀v' w',Kx rb base w' v' (l++[p])->L w w' v.ownBlock->K (a.put o.dst v') w'):if sJ o (pH ops a.tmps)=M then Oper.wp O o a w K Q else E:=by
 have hw:sJ o (pH ops a.tmps)=M:=by simp[sJ,hgd]
 rw[if_pos hw];exact F3 s x ho rb base hrb v l hs hown vk vv p hk hv nb hb hx hl hbase h
theorem RY(w:F):(sizeOf (O.elem 41)).run O w=.ok 2 w:=by
 kernel_rfl
theorem Qr.sliced{w:F}{a:Option rF}{cap:Nat}{l:PL}(h:Qr w (J a l.length cap) l)(i j:Nat)(hij:i<=j)(hj:j<=l.length):Qr w (sW a i j cap 2) ((l.take j).drop i):=by
 obtain⟨a',cap',e,hc,h⟩:=h;simp only[tJ,true_and]at e;obtain⟨rfl,rfl⟩:=e;have hlen:((l.take j).drop i).length=j-i:=by simp;omega
 refine⟨if cap=i then a else a.map (·.add (i*2)),cap-i,by rw[hlen];rfl,by rw[hlen];omega,?_⟩;by_cases hci:cap=i;·left;exact⟨tM (by rw[hlen];omega),fun _=>by omega⟩
 ·rw[if_neg hci];rcases h with⟨rfl,h⟩|⟨b,o,rfl,h⟩;(·left;refine⟨by simp,fun e=>?_⟩;cases a with|none=>have:=h rfl;simp at hj;omega|some x=>cases e);·right;refine⟨b,o+i*2,by simp[ZW],fun k hk=>?_⟩;rw[hlen]at hk;have:=h (i+k) (by omega);(have e:((l.take j).drop i).getD k ([],[])=l.getD (i+k) ([],[]):=by simp[show i+k<j by omega]);rw[e,show o+i*2+k*2=o+(i+k)*2by omega];exact this
theorem vU(a:Option rF)(cap:Nat)(l:PL)(n:Nat)(hn:n<=l.length)(hc:l.length<=cap):∃a1 c1,(∀W,(rX 41 (J a l.length cap) G (I (tA tD (n:Int))) G).run O W=.ok (J a1 n c1) W)∧∀W,Qr W (J a l.length cap) l->Qr W (J a1 n c1) (l.take n):=by
 refine⟨if cap=0then a else a.map (·.add (0*2)),cap-0,fun W=>?_,fun W h=>?_⟩;·rw[run_slice_h _ _ _ _ _ (by kernel_rfl) _ _ (by omega) (by omega),RY];simp only[rN,sW,sM,pM]
 ·have:=h.sliced 0 n (by omega) hn;simpa only[sW,oJ,pM]using this
theorem Pi(a:Option rF)(cap:Nat)(l:PL)(n:Nat)(hn:n<=l.length):∃a1 c1,(∀W,(rX 41 (J a l.length cap) (I (tA tD (n:Int))) G G).run O W=.ok (J a1 (l.length-n) c1) W)∧∀W,Qr W (J a l.length cap) l->Qr W (J a1 (l.length-n) c1) (l.drop n):=by
 refine⟨if cap=n then a else a.map (·.add (n*2)),cap-n,fun W=>?_,fun W h=>?_⟩;·rw[run_slice_l _ _ _ _ _ (by kernel_rfl) _ _ (by omega) (by omega),RY];simp only[rN,sW,sM]
 ·have:=h.sliced n l.length hn (tX _);simpa only[sW,sG]using this
theorem Mg(a:Option rF)(cap:Nat)(l:PL)(i j:Nat)(hij:i<=j)(hj:j<=l.length)(hc:l.length<=cap):∃a1 c1,(∀W,(rX 41 (J a l.length cap) (I (tA tD (i:Int))) (I (tA tD (j:Int))) G).run O W=.ok (J a1 (j-i) c1) W)∧∀W,Qr W (J a l.length cap) l->Qr W (J a1 (j-i) c1) ((l.take j).drop i):=by
 refine⟨if cap=i then a else a.map (·.add (i*2)),cap-i,fun W=>?_,fun W h=>?_⟩;·rw[run_slice_lh _ _ _ _ _ (by kernel_rfl) _ _ _ _ (by omega) (by omega) (by omega),RY];simp only[rN,sW,sM]
 ·have:=h.sliced i j hij hj;simpa only[sW]using this
theorem Qr.cap{w:F}{a:Option rF}{n cap:Nat}{l:PL}(h:Qr w (J a n cap) l):l.length<=cap:=by
 obtain⟨a',cap',e,hc,_⟩:=h;simp only[tJ]at e;obtain⟨_,_,rfl⟩:=e;exact hc
def bS:Prop:=∀(w:F)(v:H)(l:FL),ZC w v l->UM l->rA O 24 #[v] w fun e w'=>e=tG (tA tD (Q9 l))∧L w w' G
def DJ:Prop:=∀(w:F)(v u:H)(l:FL)(ws:List Zi),ZC w v l->QQ w u ws->UM l->uN ws->rA O 100 #[v,u] w fun e w'=>∃x,e=tG (sN #[x,tA tD (Q5 l ws)])∧ZC w' x (Xx l ws)∧L w w' G
theorem ZH.down{base:Nat}{w:F}{v:H}{l:FL}(h:ZH base w v l)(b2:Nat)(hb:b2<=base):ZH b2 w v l:=by
 obtain⟨vs,h1,h2,h3⟩:=h;refine⟨vs,h1,⟨h2.1,?_⟩,h3⟩;rcases h2.2with h|⟨g,cap,cur,e,hb2,rest⟩;·exact .inl h
 ·exact .inr ⟨g,cap,cur,e,tR hb hb2,rest⟩
def yJ:Prop:=∀(w:F)(v u:H)(l:FL)(ws:List Zi),ZC w v l->QQ w u ws->UM l->uN ws->rA O 100 #[v,u] w fun e w'=>∃x,e=tG (sN #[x,tA tD (Q5 l ws)])∧ZH w.heap.size w' x (Xx l ws)∧L w w' G
theorem yJ.ok(h:yJ):DJ:=fun w v u l ws h1 h2 h3 h4=>(h w v u l ws h1 h2 h3 h4).mono (by
 rintro e w'⟨x,rfl,hx,hg⟩;exact⟨x,rfl,hx.list,hg⟩)
theorem zI(w:F)(b i:Nat)(u:H):∃W:F,Hid (W=tH w ⟨b,i,G⟩ u)∧L w W (I b):=⟨_,rfl,YP w b i u⟩
theorem zQ{w:F}{ops:Array rM}{o:rM}{a:Act}{K:Act->F->Prop}{Q:Exit->Act->F->Prop}{E:Prop}(hgd:o.guard=G)(s x:rJ)(ho:o.op=.call {callee:=.builtin .append,args:=#[s,x],argTypes:=#[93,93]})(rb:Nat)(v:H)(l:List Zi)(hs:a.eval s=v)(hown:Q6 rb 0 w v l)(vn vk vv:H)(p:Zi)(h1:Qi 0 w vn p.name)(h2:Qi 0 w vk p.key)(h3:Qi 0 w vv p.value)(nb:Nat)(hb:w.heap[nb]?=I (Y #[vn,vk,tQ p.gone,vv] 147))(hx:a.eval x=J (I ⟨nb,0,G⟩) 1 1)(hl:(l.length+1)*80<=140737488355328)(hbase:rb<=w.heap.size)(h:∀v' w',Q6 rb 0 w' v' (l++[p])->L w w' v.ownBlock->K (a.put o.dst v') w'):if sJ o (pH ops a.tmps)=M then Oper.wp O o a w K Q else E:=by
 have hw:sJ o (pH ops a.tmps)=M:=by simp[sJ,hgd]
 rw[if_pos hw];obtain⟨i0,hi,hz0,hz1,hz2⟩:=r7 cV;have hrow:v.ownBlock=G∨∃g cur t fz,v.ownBlock=I g∧0<=g∧w.heap[g]?=I (Y cur t fz)∧t≠5:=by rcases hown.row with h|⟨g,cur,fz,e,_,h⟩;(·exact .inl h);·exact .inr ⟨g,cur,_,fz,e,tW _,h,uI⟩
 obtain⟨us,hul,hr,hp⟩:=hown;refine wp_append_lies w s x 93 ho rb 147 i0 (sX #[J G 0 0,J G 0 0,tQ N,J G 0 0]) 4 80 Tryz.underlying93 hi hz0 hz1 hz2 rfl (by decide) v l.length (Je us) hs hr ⟨nb,0,G⟩ 1 1 (Je [(p,vn,vk,vv)]) hx rfl (rC (cs:=#[vn,vk,tQ p.gone,vv]) hb) ?_ (by omega) (by unfold pB;omega) hl hbase _ rfl ?_;·intro u hu;simp only[Je,tP,rI,tE,tL,tN,or_false]at hu;rcases hu with rfl|rfl|rfl|rfl;(·exact Zz h1);(·exact Zz h2);(·rfl);·exact Zz h3
 ·intro g cap w' q1 q2 _ _;refine h _ w' ⟨us++[(p,vn,vk,vv)],by simp[hul],?_,?_⟩ q2;(·rw[uV,tC];exact q1);·intro y hy;rcases tZ.1 hy with hy|hy;(·exact⟨(hp y hy).1.keptT q2 hrow,(hp y hy).2.1.keptT q2 hrow,(hp y hy).2.2.keptT q2 hrow⟩);·simp only[tL,tN,or_false]at hy;subst hy;exact⟨h1.keptT q2 hrow,h2.keptT q2 hrow,h3.keptT q2 hrow⟩
theorem xZ{w:F}{ops:Array rM}{o:rM}{a:Act}{K:Act->F->Prop}{Q:Exit->Act->F->Prop}{E:Prop}(hgd:o.guard=G)(s x:rJ)(ho:o.op=.call {callee:=.builtin .append,args:=#[s,x],argTypes:=#[92,92]})(rb:Nat)(v:H)(l:List Rd)(hs:a.eval s=v)(hown:ZQ rb 0 w v l)(vn vk vv:H)(p:Rd)(h1:Qi 0 w vn p.name)(h2:Qi 0 w vk p.key)(h3:Qi 0 w vv p.last)(nb:Nat)(hb:w.heap[nb]?=I (Y #[vn,vk,tQ p.wide,vv] 163))(hx:a.eval x=J (I ⟨nb,0,G⟩) 1 1)(hl:(l.length+1)*80<=140737488355328)(hbase:rb<=w.heap.size)(h:∀v' w',ZQ rb 0 w' v' (l++[p])->L w w' v.ownBlock->K (a.put o.dst v') w'):if sJ o (pH ops a.tmps)=M then Oper.wp O o a w K Q else E:=by
 have hw:sJ o (pH ops a.tmps)=M:=by simp[sJ,hgd]
 rw[if_pos hw];obtain⟨i0,hi,hz0,hz1,hz2⟩:=r7 lA;have hrow:v.ownBlock=G∨∃g cur t fz,v.ownBlock=I g∧0<=g∧w.heap[g]?=I (Y cur t fz)∧t≠5:=by rcases hown.row with h|⟨g,cur,fz,e,_,h⟩;(·exact .inl h);·exact .inr ⟨g,cur,_,fz,e,tW _,h,lC⟩
 obtain⟨us,hul,hr,hp⟩:=hown;refine wp_append_lies w s x 92 ho rb 163 i0 (sX #[J G 0 0,J G 0 0,tQ N,J G 0 0]) 4 80 Tryz.underlying92 hi hz0 hz1 hz2 rfl (by decide) v l.length (Gw us) hs hr ⟨nb,0,G⟩ 1 1 (Gw [(p,vn,vk,vv)]) hx rfl (rC (cs:=#[vn,vk,tQ p.wide,vv]) hb) ?_ (by omega) (by unfold pB;omega) hl hbase _ rfl ?_;·intro u hu;simp only[Gw,tP,rI,tE,tL,tN,or_false]at hu;rcases hu with rfl|rfl|rfl|rfl;(·exact Zz h1);(·exact Zz h2);(·rfl);·exact Zz h3
 ·intro g cap w' q1 q2 _ _;refine h _ w' ⟨us++[(p,vn,vk,vv)],by simp[hul],?_,?_⟩ q2;(·rw[Mp,tC];exact q1);·intro y hy;rcases tZ.1 hy with hy|hy;(·exact⟨(hp y hy).1.keptT q2 hrow,(hp y hy).2.1.keptT q2 hrow,(hp y hy).2.2.keptT q2 hrow⟩);·simp only[tL,tN,or_false]at hy;subst hy;exact⟨h1.keptT q2 hrow,h2.keptT q2 hrow,h3.keptT q2 hrow⟩
def cM:Prop:=∀(w:F)(v:H)(r:Rq),UJ w->Xt w v r->yN r->rA O 90 #[v] w fun e w'=>∃x,e=tG (sN #[x,tA tD (Ur r)])∧Yy w' x (Zw r)∧L w w' G
def Z5(K:Int)(n q l v:Nat):Nat->Bool|0=>N|1=>!QS K 0&&tV (0<n)|2=>(!QS K 0&&tV (0<n))||(!QS K 1&&tV (0<q))|3=>((!QS K 0&&tV (0<n))||(!QS K 1&&tV (0<q)))||(!QS K 2&&tV (0<l))|_=>(((!QS K 0&&tV (0<n))||(!QS K 1&&tV (0<q)))||(!QS K 2&&tV (0<l)))||(!QS K 3&&tV (0<v))
def mR(K:Int)(n q l v:Nat):Int:=if(tV (Qt n≠0)&&QS K 0)=M then Qt n else if(tV (Qq q≠0)&&QS K 1)=M then Qq q else if(tV (Qq l≠0)&&QS K 2)=M then Qq l else if 32<v then 1 else if Z5 K n q l v 4=M then 4 else 0
theorem i9(r:Rq)(hk:1<=r.kind∧r.kind<=8):Yl r=mR r.kind r.name.length r.key.length r.last.length r.value.length:=by
 rw[Yl,if_pos hk];have hf:Ek r=if Z5 r.kind r.name.length r.key.length r.last.length r.value.length 4=M then 4 else 0:=by unfold Ek;by_cases h1:QW r.kind=N∧0<r.name.length+r.key.length;(·rw[if_pos h1,if_pos];by_cases h2:0<r.name.length;(·simp[Z5,QS,h1.1,h2]);·(have h3:0<r.key.length:=by omega);simp[Z5,QS,h1.1,h3]);·rw[if_neg h1];by_cases h2:(r.kind≠3∧0<r.last.length)∨(r.kind≠4∧0<r.value.length);(·rw[if_pos h2,if_pos];rcases h2 with⟨h2,h3⟩|⟨h2,h3⟩;(·simp[Z5,QS,h2,h3]);·simp[Z5,QS,h2,h3]);·rw[if_neg h2,if_neg];intro hb;simp only[Z5,QS,Bool.or_eq_true,rP,Bool.not_eq_true',decide_eq_true_iff,decide_eq_false_iff_not]at hb;rcases hb with((hb|hb)|hb)|hb;(·exact h1 ⟨hb.1,by omega⟩);(·exact h1 ⟨hb.1,by omega⟩);(·exact h2 (.inl hb));·exact h2 (.inr hb)
 rw[hf];unfold yX mR;generalize Z5 r.kind r.name.length r.key.length r.last.length r.value.length 4=B;show _=if(tV (Qt r.name.length≠0)&&QW r.kind)=M then _ else if(tV (Qq r.key.length≠0)&&QW r.kind)=M then _ else if(tV (Qq r.last.length≠0)&&tV (r.kind=3))=M then _ else _;have h3:r.kind=3->QW r.kind=M:=fun h=>by rw[h];decide
 generalize Qt r.name.length=A at*;generalize Qq r.key.length=C at*;generalize Qq r.last.length=D at*;cases hN:QW r.kind with|false=>(have h3':¬r.kind=3:=fun h=>by rw[h3 h]at hN;cases hN);simp[h3']|true=>by_cases hA:A=0;(·by_cases hC:C=0;(·by_cases h4:r.kind=3;(·by_cases hD:D=0;(·simp[hA,hC,h4,hD]);·simp[hA,hC,h4,hD]);·simp[hA,hC,h4]);·simp[hA,hC]);·simp[hA]
theorem iT(r:Rq)(hk:¬(1<=r.kind∧r.kind<=8)):Yl r=5:=by
 rw[Yl,if_neg hk]
def Hk:Prop:=∀(w:F)(v u a b:H)(l:FL)(t:Tx)(n k:List UInt8),ZC w v l->UM l->G2 w u t->xO t->Qe w a n->Qe w b k->n.length<=140737488355328->k.length<=140737488355328->rA O 79 #[v,u,a,b] w fun e w'=>∃x,e=tG (sN #[sX #[tQ (Vo l t n k),x],tQ (VS l t n k),tA tD (KH l t n k)])∧Qi 0 w' x (Vb l t n k)∧L w w' G
theorem XQ{w:F}{b:Nat}{x y:H}{t:sE}(h:w.heap[b]?=I (Y #[x,y] t)):w.cell? ⟨b,0,G⟩=I x∧w.cell? ⟨b,1,G⟩=I y∧w.frozen? ⟨b,0,G⟩=N∧w.frozen? ⟨b,1,G⟩=N:=by
 refine⟨?_,?_,?_,?_⟩<;>simp[tY,r8,h]
section
structure BF (v u : Sv) : Prop extends Same v u where
  begun : u.begun = v.begun
  txns : ∀ s, v.begun s = M -> u.txns s = v.txns s
def Rz(v u v' u':Sv):Prop:=BF v' u'∧∃rs,v'.out=v.out++rs∧u'.out=u.out++rs
theorem BF.rfl{v:Sv}:BF v v:=⟨Same.rfl,by
 rfl,fun _ _=>by
 rfl⟩
variable{D:List UInt8->List UInt8}{v u:Sv}
theorem Kg(h:BF v u)(r:Rp):Rz v u (ZD v r) (ZD u r):=⟨⟨⟨h.up,h.tape,h.commits,h.synced,h.waits,h.queue⟩,h.begun,h.txns⟩,[r],rfl,rfl⟩
theorem G0(h:BF v u)(s:Nat)(r:Rp):Rz v u (ZD (XD v s) r) (ZD (XD u s) r):=⟨⟨⟨h.up,h.tape,h.commits,h.synced,h.waits,h.queue⟩,by
 show JW u.begun s N=JW v.begun s N;rw[h.begun],fun j hj=>h.txns j (yT hj).2⟩,[r],rfl,rfl⟩
theorem Cq(h:BF v u)(s:Nat)(t:Tx)(r:Rp):Rz v u (ZD {v with txns:=JW v.txns s t} r) (ZD {u with txns:=JW u.txns s t} r):=⟨⟨⟨h.up,h.tape,h.commits,h.synced,h.waits,h.queue⟩,h.begun,fun j hj=>by
 show JW u.txns s t j=JW v.txns s t j;by_cases e:j=s;·rw[e,Zp,Zp]
 ·rw[QY _ _ e,QY _ _ e];exact h.txns j hj⟩,[r],rfl,rfl⟩
theorem Mb(h:BF v u){s:Nat}(hb:v.begun s=M)(x:Rd)(o:Rp):Rz v u (KG v s x o) (KG u s x o):=by
 unfold KG;rw[h.txns s hb];split;·exact Cq h s _ _
 ·exact Kg h _
theorem BP(h:BF v u){s:Nat}(hb:v.begun s=M)(w:Zi):Rz v u (UH v s w) (UH u s w):=by
 unfold UH;rw[h.txns s hb];split;·exact Cq h s _ _
 ·exact Kg h _
theorem Pb(h:BF v u)(n:Nat):QE u n=QE v n:=by
 unfold QE;rw[h.commits]
theorem Wk(h:BF v u){s:Nat}(hb:v.begun s=M)(r:Rq):Rz v u (qD v s r) (qD u s r):=by
 unfold qD;split;·exact BP h hb _
 ·split;(·unfold Er;rw[h.txns s hb,Pb h];split;(·exact Kg h _);·exact Mb h hb _ _);·unfold jX;rw[h.txns s hb,Pb h];split;(·exact Mb h hb _ _);·exact Kg h _
theorem Bg(h:BF v u){s:Nat}(hb:v.begun s=M):Rz v u (YV D v s) (YV D u s):=by
 have e:Y5 u s=Y5 v s:=by unfold Y5;rw[h.commits,h.txns s hb]
 unfold YV;rw[e,h.txns s hb,h.commits,h.queue,h.tape,Pb h];split;·exact G0 h s _
 ·split;(·exact Kg h _);·split;(·exact G0 h s _);·split;(·exact G0 h s _);·split;(·exact G0 h s _);·refine⟨⟨⟨h.up,rfl,rfl,h.synced,?_,rfl⟩,?_,fun j hj=>h.txns j (yT hj).2⟩,[],by rw[tE];rfl,by rw[tE];rfl⟩;(·show JW u.waits s M=JW v.waits s M;rw[h.waits]);·show JW u.begun s N=JW v.begun s N;rw[h.begun]
theorem OF(h:BF v u)(s:Nat)(r:Rq):Rz v u (YY D v s r) (YY D u s r):=by
 have es:QD u s r=QD v s r:=by unfold QD;rw[h.waits,h.begun]
 unfold YY;by_cases h1:r.kind=8;·rw[if_pos h1,if_pos h1];unfold Rt;rw[Pb h,h.synced];exact Kg h _
 ·rw[if_neg h1,if_neg h1,es];by_cases h2:QD v s r=M;(·rw[if_pos h2,if_pos h2];exact Kg h _);·rw[if_neg h2,if_neg h2];by_cases h3:r.kind=1;(·rw[if_pos h3,if_pos h3,h.synced];refine⟨⟨⟨h.up,h.tape,h.commits,rfl,h.waits,h.queue⟩,?_,fun j hj=>?_⟩,[_],rfl,rfl⟩;(·show JW u.begun s M=JW v.begun s M;rw[h.begun]);·show JW u.txns s _ j=JW v.txns s _ j;by_cases e:j=s;(·rw[e,Zp,Zp]);·rw[QY _ _ e,QY _ _ e];exact h.txns j (by have:JW v.begun s M j=M:=hj;rwa[QY _ _ e]at this));·rw[if_neg h3,if_neg h3];(have hb:v.begun s=M:=by unfold QD at h2;rw[if_neg h3]at h2;cases hw:v.waits s<;>cases hv:v.begun s<;>simp[hw,hv]at h2⊢);by_cases h4:r.kind=7;(·rw[if_pos h4,if_pos h4];exact G0 h s _);·rw[if_neg h4,if_neg h4,h.synced,h.txns s hb];by_cases h5:ZJ (v.synced:Int) (v.txns s).start=N;(·rw[if_pos h5,if_pos h5];exact G0 h s _);·rw[if_neg h5,if_neg h5];by_cases h6:r.kind=6;(·rw[if_pos h6,if_pos h6];exact Bg h hb);·rw[if_neg h6,if_neg h6];exact Wk h hb r
theorem cP(h:BF v u)(s:Nat)(d:List UInt8):Rz v u (ZZ D v s d) (ZZ D u s d):=by
 unfold ZZ;rw[h.up];split;·exact Kg h _
 ·split;(·exact OF h s _);·exact Kg h _
theorem bV(h:BF v u)(a:Ac):Rz v u (QU D v a) (QU D u a):=by
 unfold QU;split;·exact cP h _ _
 ·split;(·rw[h.up];split;(·refine⟨⟨⟨h.up,?_,h.commits,?_,?_,rfl⟩,h.begun,h.txns⟩,Y1 v.synced v.queue,rfl,?_⟩;(·show Jq u.tape=Jq v.tape;rw[h.tape]);(·show u.synced+u.queue.length=v.synced+v.queue.length;rw[h.synced,h.queue]);(·show JZ u.waits u.queue=JZ v.waits v.queue;rw[h.waits,h.queue]);·show u.out++Y1 u.synced u.queue=u.out++Y1 v.synced v.queue;rw[h.synced,h.queue]);·exact⟨h,[],by rw[tE],by rw[tE]⟩);·split;(·rw[h.up];split;(·unfold Ky;rw[h.tape];exact⟨⟨⟨rfl,rfl,rfl,rfl,rfl,rfl⟩,rfl,fun _ _=>rfl⟩,[],by rw[tE];rfl,by rw[tE];rfl⟩);·exact⟨h,[],by rw[tE],by rw[tE]⟩);·exact⟨⟨⟨rfl,h.tape,h.commits,h.synced,h.waits,h.queue⟩,h.begun,h.txns⟩,[],by rw[tE],by rw[tE]⟩
theorem Wa:∀(l:List Ac){v u:Sv},BF v u->Rz v u (l.foldl (QU D) v) (l.foldl (QU D) u)|[],_,_,h=>⟨h,[],by rw[tE];rfl,by rw[tE];rfl⟩|a::l,v,u,h=>by obtain⟨h1,r1,e1,e2⟩:=bV (D:=D) h a;obtain⟨h2,r2,f1,f2⟩:=Wa l h1;exact⟨h2,r1++r2,by rw[sA,f1,e1,pA],by rw[sA,f2,e2,pA]⟩
theorem lP(h:Za D v)(hq:v.queue=[]):BF v (UL v)∧(UL v).out=v.out:=by
 have hm:=h.may;have ht:=h.turn;rw[hq]at ht;have hs:v.synced=v.commits.length:=by simpa using ht
 have hd:Jq v.tape=v.tape:=by rw[Jq,if_pos hm];have:=h.mark;rw[hs,sG,<-h.data]at this;rw[<-this]
 refine⟨⟨⟨rfl,hd,rfl,?_,?_,?_⟩,rfl,fun _ _=>rfl⟩,?_⟩;·show v.synced+v.queue.length=v.synced;rw[hq];rfl
 ·show JZ v.waits v.queue=v.waits;rw[hq];funext j;simp[JZ]
 ·show[]=v.queue;rw[hq]
 ·show v.out++Y1 v.synced v.queue=v.out;rw[hq,Y1,tE]
theorem lG(hu:v.up=M):({v with up:=M}:Sv)=v:=by
 rw[<-hu]
theorem Fq(hD:∀x,(D x).length=4)(h:Za D v)(hs:v.synced=v.commits.length){k:Int}(hk:0<=k):Ky D v k=Ge N v.tape v.commits v.out:=by
 obtain⟨j,h1,h2,h3,_⟩:=Uv hD h hk;obtain rfl:j=v.commits.length:=by omega
 rw[h3,sG];have hm:=h.mark;rw[hs,sG]at hm;have:(⟨Q7 D v.commits,((Q7 D v.commits).length:Int)⟩:Gc)=v.tape:=by rw[<-hm,<-h.data]
 rw[this]
end
section
variable{D:List UInt8->List UInt8}{v:Sv}
def Us(s:Nat)(r:Rq):Ac:=⟨1,(s:Int),0,Ki r⟩
def Pn:Ac:=⟨2,0,0,[]⟩
def Zj(k:Int):Ac:=⟨3,0,k,[]⟩
def Zh:Ac:=⟨4,0,0,[]⟩
def F7(k:Int):Rq:=⟨k,[],[],[],[]⟩
theorem mT{s:Nat}(hs:s<=7){r:Rq}(hr:X0 r):XH (Us s r):=⟨⟨(by
 decide:(1:Int)<=1),(by
 decide:(1:Int)<=4)⟩,fun _=>⟨Int.natCast_nonneg _,by
 show(s:Int)<=7;omega⟩,(fun h=>by
 cases h),(by
 have:=(uL hr).1;show(Ki r).length<=4000;omega),(fun h=>absurd rfl h),(fun _=>rfl),(fun h=>absurd rfl h)⟩
theorem lK:XH Pn:=⟨⟨by
 decide,by
 decide⟩,(fun h=>by
 cases h),(fun h=>by
 cases h),(by
 decide),(fun _=>rfl),(fun _=>rfl),(fun _=>rfl)⟩
theorem qX:XH Zh:=⟨⟨by
 decide,by
 decide⟩,(fun h=>by
 cases h),(fun h=>by
 cases h),(by
 decide),(fun _=>rfl),(fun _=>rfl),(fun _=>rfl)⟩
theorem uA{k:Int}(h0:0<=k)(h1:k<=200000):XH (Zj k):=⟨⟨(by
 decide:(1:Int)<=3),(by
 decide:(3:Int)<=4)⟩,(fun h=>by
 cases h),(fun _=>⟨h0,h1⟩),(by
 decide:(0:Nat)<=4000),(fun _=>rfl),(fun h=>absurd rfl h),(fun _=>rfl)⟩
theorem uG(v:Sv)(s:Nat){r:Rq}(hr:X0 r):QU D v (Us s r)=if v.up=N then ZD v (Ga s 13)else YY D v s r:=by
 show(if(1:Int)=1then ZZ D v (s:Int).toNat (Ki r)else _)=_;rw[if_pos rfl,sM,ZZ,(RJ hr).1,(RJ hr).2,if_pos rfl]
theorem aQ(v:Sv):QU D v Pn=if v.up=M then UL v else v:=by
 show(if(2:Int)=1then _ else if(2:Int)=2then _ else _)=_;rw[if_neg (by decide),if_pos rfl]
theorem yQ(v:Sv)(k:Int):QU D v (Zj k)=if v.up=M then Ky D v k else v:=by
 show(if(3:Int)=1then _ else if(3:Int)=2then _ else if(3:Int)=3then _ else _)=_;rw[if_neg (by decide),if_neg (by decide),if_pos rfl];rfl
theorem jM(v:Sv):QU D v Zh={v with up:=M}:=by
 show(if(4:Int)=1then _ else if(4:Int)=2then _ else if(4:Int)=3then _ else _)=_;rw[if_neg (by decide),if_neg (by decide),if_neg (by decide)]
theorem iL(v:Sv)(k:Int):(QU D v (Zj k)).up=N:=by
 rw[yQ];split;·rfl
 ·simpa using(by assumption:¬v.up=M)
def LM(l:List Ac):List Rp:=(l.filter (fun a=>tV (a.kind=1))).map (fun a=>Ga a.sess.toNat 13)
theorem E7:∀(l:List Ac)(v:Sv),v.up=N->(∀a∈l,a.kind=1∨a.kind=2)->l.foldl (QU D) v={v with out:=v.out++LM l}|[],v,_,_=>by simp[LM]|a::l,v,hu,ha=>by rw[sA];rcases ha a tU with h|h;(·(have e:QU D v a=ZD v (Ga a.sess.toNat 13):=by rw[QU,if_pos h,ZZ,if_pos hu]);rw[e,E7 l (ZD v _) hu (fun x hx=>ha x (tS _ hx))];simp[ZD,LM,h]);·(have e:QU D v a=v:=by rw[QU,if_neg (by omega),if_pos h,if_neg (by simp[hu])]);rw[e,E7 l v hu (fun x hx=>ha x (tS _ hx))];simp[LM,h]
theorem nA(v:Sv)(s:Nat){d:List UInt8}(hd:QJ d≠0):QU D v ⟨1,(s:Int),0,d⟩=ZD v (Ga s (if v.up=N then 13 else QJ d)):=by
 show(if(1:Int)=1then ZZ D v (s:Int).toNat d else _)=_;rw[if_pos rfl,sM,ZZ,if_neg hd];split<;>rfl
theorem IP(v:Sv)(s:Nat){r:Rq}(hr:X0 r)(hk:r.kind=8):QU D v (Us s r)=if v.up=N then ZD v (Ga s 13)else Rt v s r:=by
 rw[uG v s hr,YY,if_pos hk]
theorem iG(v:Sv)(s:Nat){r:Rq}(hr:X0 r)(hk:r.kind=8):Same v (QU D v (Us s r))∧∃p,(QU D v (Us s r)).out=v.out++[p]:=by
 rw[IP v s hr hk];split;·exact⟨⟨rfl,rfl,rfl,rfl,rfl,rfl⟩,_,rfl⟩
 ·exact⟨⟨rfl,rfl,rfl,rfl,rfl,rfl⟩,_,rfl⟩
theorem mF{v u:Sv}(h:Same v u):(GI u).up=(GI v).up∧(GI u).turn=(GI v).turn∧(GI u).pending=(GI v).pending∧(GI u).forest=(GI v).forest:=by
 unfold GI QE;rw[h.up,h.synced,h.queue,h.commits];exact⟨rfl,rfl,rfl,rfl⟩
theorem dK(v:Sv)(s:Nat){r:Rq}(hr:X0 r)(hk:r.kind≠6):dI s v (QU D v (Us s r)):=by
 have e:QU D v (Us s r)=ZZ D v s (Ki r):=by show(if(1:Int)=1then ZZ D v (s:Int).toNat (Ki r)else _)=_;rw[if_pos rfl,sM]
 rw[e];rcases TG D v s (Ki r)with h|⟨_,_,h,_⟩;·exact h
 ·rw[(RJ hr).2]at h;exact absurd h hk
theorem If(s:Nat):∀(l:List Rq)(v:Sv),(∀r∈l,X0 r∧r.kind≠6)->Same v ((l.map (Us s)).foldl (QU D) v)∧((l.map (Us s)).foldl (QU D) v).out.length=v.out.length+l.length|[],v,_=>⟨Same.rfl,rfl⟩|r::l,v,h=>by rw[pK,sA];have h1:=dK (D:=D) v s (h r tU).1 (h r tU).2;obtain⟨h2,h3⟩:=If s l (QU D v (Us s r)) (fun x hx=>h x (tS _ hx));obtain⟨p,h4,_⟩:=h1.out;refine⟨h1.toSame.trans h2,?_⟩;rw[h3,h4,tC,sF,sF,pN];omega
structure jP (s n : Nat) (v : Sv) : Prop where
  up : v.up = M
  begun : v.begun s = M
  waits : v.waits s = N
  txn : (v.txns s).start = (n : Int) ∧ (v.txns s).writes = []
  synced : v.synced = n
theorem Ca(n:Nat):ZJ (n:Int) (n:Int)=M:=by
 rw[ZJ,decide_eq_true_iff];omega
theorem dF{k:Int}(h:k=1∨k=6∨k=7):X0 (F7 k):=by
 have hn:QW k=N:=by rcases h with h|h|h<;>subst h<;>decide
 exact⟨by rcases h with h|h|h<;>subst h<;>decide,(fun e=>by rw[show(F7 k).kind=k from rfl,hn]at e;cases e),(fun e=>by rw[show(F7 k).kind=k from rfl,hn]at e;cases e),(fun e=>by have:k=3:=e;omega),(by decide:(0:Nat)<=32),fun _=>rfl,fun _=>rfl,fun _=>rfl,fun _=>rfl⟩
theorem lD{s:Nat}(hu:v.up=M)(hw:v.waits s=N):jP s v.synced ([Us s (F7 7),Us s (F7 1)].foldl (QU D) v)∧Same v ([Us s (F7 7),Us s (F7 1)].foldl (QU D) v):=by
 have e1:∃u,QU D v (Us s (F7 7))=u∧Same v u∧u.begun s=N:=by refine⟨_,rfl,?_⟩;rw[uG v s (dF (.inr (.inr rfl))),if_neg (by simp[hu]),YY,if_neg (by decide:¬(F7 7).kind=8)];unfold QD;rw[hw,pS,if_neg (by decide:¬(F7 7).kind=1)];by_cases hb:v.begun s=M;(·rw[if_neg (by simp[hb]),if_neg (by decide:¬(F7 7).kind=1),if_pos (show(F7 7).kind=7from rfl)];exact⟨⟨rfl,rfl,rfl,rfl,rfl,rfl⟩,Zp _ _ _⟩);·rw[if_pos (by simp[hb])];exact⟨⟨rfl,rfl,rfl,rfl,rfl,rfl⟩,(by simpa using hb:v.begun s=N)⟩
 obtain⟨u,e1,h1,h2⟩:=e1;rw[sA,sA,pQ,e1,uG u s (dF (.inl rfl)),if_neg (by simp[h1.up,hu]),YY,if_neg (by decide:¬(F7 1).kind=8)];unfold QD;rw[h1.waits,hw,pS,if_pos (show(F7 1).kind=1from rfl),h2,if_neg (by decide),if_pos (show(F7 1).kind=1from rfl)];refine⟨⟨h1.up.trans hu,Zp _ _ _,?_,?_,h1.synced⟩,⟨h1.up,h1.tape,h1.commits,h1.synced,rfl,h1.queue⟩⟩;·exact hw
 ·show(JW u.txns s _ s).start=_∧(JW u.txns s _ s).writes=[];rw[Zp,h1.synced];exact⟨rfl,rfl⟩
theorem Cr{t:Tx}{x:Rd}(h:Xi t x=0):(XU t x).start=t.start∧(XU t x).writes=t.writes:=by
 refine⟨zH h,?_⟩;unfold XU;rw[if_pos h];split<;>rfl
theorem T6{s n:Nat}(h:jP s n v)(x:Rd)(o:Rp):jP s n (KG v s x o):=by
 unfold KG;split;·have k:=Cr (by assumption:Xi (v.txns s) x=0);refine⟨h.up,h.begun,h.waits,?_,h.synced⟩;show(JW v.txns s _ s).start=_∧(JW v.txns s _ s).writes=[];rw[Zp,k.1,k.2];exact h.txn
 ·exact⟨h.up,h.begun,h.waits,h.txn,h.synced⟩
theorem kP{s n:Nat}(h:jP s n v)(r:Rp):jP s n (ZD v r):=⟨h.up,h.begun,h.waits,h.txn,h.synced⟩
theorem AG{s n:Nat}(h:jP s n v){r:Rq}(hr:X0 r)(hk:r.kind=2∨r.kind=3∨r.kind=8):jP s n (QU D v (Us s r)):=by
 rw[uG v s hr,if_neg (by simp[h.up]),YY];by_cases h8:r.kind=8;·rw[if_pos h8];exact kP h _
 ·(have hb:QD v s r=N:=by unfold QD;rw[h.waits,if_neg (by omega),h.begun];rfl);rw[if_neg h8,hb,if_neg (by decide),if_neg (by omega),if_neg (by omega),h.txn.1,h.synced,Ca,if_neg (by decide),if_neg (by omega),qD,if_neg (by omega)];split;(·unfold Er;split;(·exact kP h _);·exact T6 h _ _);·unfold jX;split;(·exact T6 h _ _);·exact kP h _
theorem DO{s n:Nat}:∀(l:List Rq)(v:Sv),jP s n v->(∀r∈l,X0 r∧(r.kind=2∨r.kind=3∨r.kind=8))->jP s n ((l.map (Us s)).foldl (QU D) v)|[],_,h,_=>h|r::l,v,h,hl=>by rw[pK,sA];exact DO l _ (AG h (hl r tU).1 (hl r tU).2) (fun x hx=>hl x (tS _ hx))
theorem dN{s n:Nat}(h:jP s n v):Same v (QU D v (Us s (F7 6)))∧(QU D v (Us s (F7 6))).out=v.out++[aS s (n:Int)]:=by
 have hb:QD v s (F7 6)=N:=by unfold QD;rw[h.waits,if_neg (by decide:¬(F7 6).kind=1),h.begun];rfl
 rw[uG v s (dF (.inr (.inl rfl))),if_neg (by simp[h.up]),YY,if_neg (by decide:¬(F7 6).kind=8),hb,if_neg (by decide),if_neg (by decide:¬(F7 6).kind=1),if_neg (by decide:¬(F7 6).kind=7),h.txn.1,h.synced,Ca,if_neg (by decide),if_pos (show(F7 6).kind=6from rfl),YV,if_pos (by rw[h.txn.2];rfl),h.txn.1];exact⟨⟨rfl,rfl,rfl,h.synced.symm▸rfl,rfl,rfl⟩,rfl⟩
theorem iM(h:Za D v):([Pn,Zh].foldl (QU D) v).up=M∧([Pn,Zh].foldl (QU D) v).queue=[]:=by
 rw[sA,sA,pQ,aQ,jM];refine⟨rfl,?_⟩;split;·rfl
 ·exact(h.down (by simpa using(by assumption:¬v.up=M))).1
theorem Za.nowait(h:Za D v)(hq:v.queue=[])(s:Nat):v.waits s=N:=by
 cases e:v.waits s with|false=>rfl|true=>have:=(h.wait s).mp e;rw[hq]at this;cases this
theorem lN{cs:List XG}{j n:Nat}(h:n<=j):(cs.take j).take n=cs.take n:=by
 rw[pG,rV h]
theorem Fy(hD:∀x,(D x).length=4)(h:Za D v){k:Int}(hk:0<=k):∃j,v.synced<=j∧j<=v.synced+v.queue.length∧(k=0->j=v.synced)∧QU D (QU D v (Zj k)) Zh={(QU D v (Zj k))with up:=M}∧(QU D v (Zj k)).up=N∧(QU D v (Zj k)).synced=j∧(QU D v (Zj k)).queue=[]∧(QU D v (Zj k)).out=v.out∧(QU D v (Zj k)).commits=v.commits.take j:=by
 rw[jM];by_cases hu:v.up=M;·obtain⟨j,h1,h2,h3,h4⟩:=Uv hD h hk;rw[yQ,if_pos hu,h3];refine⟨j,h1,by have:=h.turn;omega,h4,rfl,rfl,?_,rfl,rfl,rfl⟩;show(v.commits.take j).length=j;rw[rH,rV h2]
 ·(have hf:v.up=N:=by simpa using hu);(have e:QU D v (Zj k)=v:=by rw[yQ,if_neg hu]);rw[e];have hq:=(h.down hf).1;refine⟨v.synced,tX _,by omega,fun _=>rfl,rfl,hf,rfl,hq,rfl,?_⟩;rw[pU (by have:=h.turn;rw[hq]at this;simp at this;omega)]
end
section
structure Se where
  begun : Bool
  start : Int
  writes : List Zi
structure Md where
  ses : Nat -> Se
  states : List FL
variable{D:List UInt8->List UInt8}{v:Sv}{m:Md}
theorem Gz(v:Sv)(n:Nat):Xr (QE v n):=qW _ _ VR
end
section
variable{D:List UInt8->List UInt8}{v:Sv}{m:Md}
theorem Cj{r:Rq}(hr:X0 r)(hk:r.kind=2∨r.kind=3):(1<=r.name.length∧r.name.length<=8)∧(1<=r.key.length∧r.key.length<=16):=by
 have:QW r.kind=M:=by rcases hk with e|e<;>rw[e]<;>decide
 exact⟨hr.name this,hr.key this⟩
end
def Ik:Prop:=∀(w:F)(v u:H)(t:Tx)(l:List XG),G2 w v t->xO t->Jh w u l->At l->rA O 99 #[v,u] w fun e w'=>e=tG (sN #[tQ (UU t l),tA tD (TN t)])∧L w w' G
def fW:Prop:=∀(w:F)(v:H)(c:XG),Kb w v c->NU c->rA O 124 #[v] w fun e w'=>∃x,e=tG (sN #[x,tA tD (Zc c)])∧Qe w' x (TV c)∧L w w' G
def Hj:Prop:=∀(w:F)(v:H)(c:XG),Kb w v c->NU c->rA O 129 #[v] w fun e w'=>e=tG (tA tD (Zc c))∧L w w' G
theorem Ty(w:F):(sizeOf (O.elem 23)).run O w=.ok 1 w:=by
 kernel_rfl
theorem Qe.cap{w:F}{a:Option rF}{n cap:Nat}{bs:List UInt8}(h:Qe w (J a n cap) bs):bs.length<=cap∧n=bs.length:=by
 obtain⟨a',cap',e,hc,_⟩:=h;simp only[tJ]at e;obtain⟨_,rfl,rfl⟩:=e;exact⟨hc,rfl⟩
theorem Qe.byte{w:F}{a:Option rF}{n cap:Nat}{bs:List UInt8}(h:Qe w (J a n cap) bs)(i:Nat)(hi:i<bs.length):∃b o,a=I ⟨b,o,G⟩∧KW w b o bs:=by
 obtain⟨a',cap',e,hc,h⟩:=h;simp only[tJ]at e;obtain⟨rfl,rfl,rfl⟩:=e;rcases h with⟨rfl,_⟩|⟨b,o,rfl,h⟩;·simp at hi
 ·exact⟨b,o,rfl,h⟩
theorem Qe.sliced{w:F}{a:Option rF}{cap:Nat}{l:List UInt8}(h:Qe w (J a l.length cap) l)(i j:Nat)(hij:i<=j)(hj:j<=l.length):Qe w (sW a i j cap 1) ((l.take j).drop i):=by
 obtain⟨a',cap',e,hc,h⟩:=h;simp only[tJ,true_and]at e;obtain⟨rfl,rfl⟩:=e;have hlen:((l.take j).drop i).length=j-i:=by simp;omega
 refine⟨if cap=i then a else a.map (·.add (i*1)),cap-i,by rw[hlen];rfl,by rw[hlen];omega,?_⟩;by_cases hci:cap=i;·left;exact⟨tM (by rw[hlen];omega),fun _=>by omega⟩
 ·rw[if_neg hci];rcases h with⟨rfl,h⟩|⟨b,o,rfl,h⟩;(·left;refine⟨by simp,fun e=>?_⟩;cases a with|none=>have:=h rfl;simp at hj;omega|some x=>cases e);·right;refine⟨b,o+i,by simp[ZW],fun k hk=>?_⟩;rw[hlen]at hk;have:=h (i+k) (by omega);(have e:((l.take j).drop i).getD k 0=l.getD (i+k) 0:=by simp[show i+k<j by omega]);rw[e,show o+i+k=o+(i+k)by omega];exact this
theorem xI(a:Option rF)(cap:Nat)(l:List UInt8)(n:Nat)(hn:n<=l.length)(hc:l.length<=cap):∃a1 c1,(∀W,(rX 23 (J a l.length cap) G (I (tA tD (n:Int))) G).run O W=.ok (J a1 n c1) W)∧∀W,Qe W (J a l.length cap) l->Qe W (J a1 n c1) (l.take n):=by
 refine⟨if cap=0then a else a.map (·.add (0*1)),cap-0,fun W=>?_,fun W h=>?_⟩;·rw[run_slice_h _ _ _ _ _ (by kernel_rfl) _ _ (by omega) (by omega),Ty];simp only[rN,sW,sM,pM]
 ·have:=h.sliced 0 n (by omega) hn;simpa only[sW,oJ,pM]using this
theorem GS(a:Option rF)(cap:Nat)(l:List UInt8)(i j:Nat)(hij:i<=j)(hj:j<=l.length)(hc:l.length<=cap):∃a1 c1,(∀W,(rX 23 (J a l.length cap) (I (tA tD (i:Int))) (I (tA tD (j:Int))) G).run O W=.ok (J a1 (j-i) c1) W)∧∀W,Qe W (J a l.length cap) l->Qe W (J a1 (j-i) c1) ((l.take j).drop i):=by
 refine⟨if cap=i then a else a.map (·.add (i*1)),cap-i,fun W=>?_,fun W h=>?_⟩;·rw[run_slice_lh _ _ _ _ _ (by kernel_rfl) _ _ _ _ (by omega) (by omega) (by omega),Ty];simp only[rN,sW,sM]
 ·have:=h.sliced i j hij hj;simpa only[sW]using this
theorem VY(a:Option rF)(cap:Nat)(l:List UInt8)(n:Nat)(hn:n<=l.length):∃a1 c1,(∀W,(rX 23 (J a l.length cap) (I (tA tD (n:Int))) G G).run O W=.ok (J a1 (l.length-n) c1) W)∧∀W,Qe W (J a l.length cap) l->Qe W (J a1 (l.length-n) c1) (l.drop n):=by
 refine⟨if cap=n then a else a.map (·.add (n*1)),cap-n,fun W=>?_,fun W h=>?_⟩;·rw[run_slice_l _ _ _ _ _ (by kernel_rfl) _ _ (by omega) (by omega),Ty];simp only[rN,sW,sM]
 ·have:=h.sliced n l.length hn (tX _);simpa only[sW,sG]using this
theorem Ck{ws:List Zi}(hn:ws.length<=1000)(h:∀w∈ws,QG w=0):uN ws:=⟨by
 omega,fun j hj=>by
 have h0:=h ws[j] (sV hj);rw[show ws[j]=ws.getD j Qs by simp[hj]]at h0;have h2:=(XO _).1 h0;have h3:(ws.getD j Qs).value.length<=32:=by have:=h2.2.2;split at this;(·rw[this];simp);·exact this
 exact⟨by omega,by omega,by omega⟩⟩
theorem Du{c:XG}(h:Zc c=0):NU c:=by
 obtain⟨h1,h2,h3⟩:=(K4 c).1 h;exact⟨by omega,Ck (by omega) h3⟩
def IC:Prop:=∀(w:F)(v u a b c:H)(l:FL)(t:Tx)(n k m:List UInt8),ZC w v l->UM l->G2 w u t->xO t->Qe w a n->Qe w b k->Qe w c m->n.length<=140737488355328->k.length<=140737488355328->m.length<=140737488355328->rA O 81 #[v,u,a,b,c] w fun e w'=>∃x,e=tG (sN #[x,tA tD (KJ l t n k m)])∧QN 0 w' x (V4 l t n k m)∧L w w' G
def Oa:Prop:=∀(w:F)(v u x:H)(l:PL)(f t:List UInt8),Qr w v l->Qe w u f->Qe w x t->uJ l->f.length<=140737488355328->t.length<=140737488355328->rA O 113 #[v,u,x] w fun e w'=>∃y,e=tG (sN #[y,tA tD (YH l f t)])∧QN 0 w' y (KZ l f t)∧L w w' G
def ID:Prop:=∀(w:F)(v r u t:H)(l:FL)(n k m:List UInt8),ZC w v l->Qe w r n->Qe w u k->Qe w t m->UM l->n.length<=140737488355328->k.length<=140737488355328->m.length<=140737488355328->rA O 92 #[v,r,u,t] w fun e w'=>∃x,e=tG (sN #[x,tA tD (YJ l n k m)])∧QN 0 w' x (Ku l n k m)∧L w w' G
def Mj:Prop:=∀(w:F)(v:H)(bs:List UInt8)(i:Int),Qe w v bs->rA O 143 #[v,tA tD i] w fun e w'=>e=tG (sN #[tQ (AJ bs i).1,tA tD (AJ bs i).2])∧L w w' G
theorem Mj.of(hB:Mj)(w:F)(v:H)(k:List UInt8)(i:Nat)(hv:Qe w v k)(hk:1<=k.length∧k.length<=16)(hi:i<145):rA O 143 #[v,tA tD (i:Int)] w fun e w'=>e=tG (sN #[tQ (ZX k i),tA tD 0])∧L w w' G:=by
 have:=hB w v k i hv;rw[eP k i hk hi]at this;exact this
def Ed:Prop:=∀(w:F)(v u:H)(a b:List UInt8),Qe w v a->Qe w u b->rA O 154 #[v,u] w fun e w'=>e=tG (sN #[tA tD (Tl a b).1,tA tD (Tl a b).2])∧L w w' G
theorem Ed.of(hP:Ed)(w:F)(v u:H)(a b:List UInt8)(hv:Qe w v a)(hu:Qe w u b)(ha:1<=a.length∧a.length<=16)(hb:1<=b.length∧b.length<=16):rA O 154 #[v,u] w fun e w'=>e=tG (sN #[tA tD (JT a b),tA tD 0])∧L w w' G:=by
 have:=hP w v u a b hv hu;rw[aV a b ha hb]at this;exact this
def S5:Prop:=∀(w:F)(v u:H)(t:Tx)(r:Zi),G2 w v t->xO t->Xd w u r->YX r->rA O 83 #[v,u] w fun e w'=>∃x,e=tG (sN #[x,tA tD (Xk t r)])∧GU w' x (Yj t r)∧L w w' G
def Hs:Prop:=∀(w:F)(v:H)(r:Rq),UJ w->Xt w v r->yN r->rA O 82 #[v] w fun e w'=>∃x,e=tG (sN #[x,tA tD (Jg r)])∧Xd w' x (Xl r)∧L w w' G
def aW:Prop:=∀(w:F)(n t:Int),-9223372036854775808<=n->n<=9223372036854775807->-9223372036854775808<=t->t<=9223372036854775807->rA O 78 #[tA tD n,tA tD t] w fun e w'=>e=tG (tQ (ZJ n t))∧L w w' G
def dW:Prop:=∀(w:F)(v:H)(b:List UInt8),UJ w->Qe w v b->b.length<=140737488355328->rA O 17 #[v] w fun e w'=>∃x,e=tG (sN #[x,tA tD (QJ b)])∧Xt w' x (Qu b)∧L w w' G
theorem IM(b:List UInt8)(n:Nat)(h:n<b.length):Zx (b.drop n)=if n+1+(b.getD n 0).toNat<=b.length then I ((b.take (n+1+(b.getD n 0).toNat)).drop (n+1),b.drop (n+1+(b.getD n 0).toNat))else G:=by
 rw[sZ h,Zx,show b[n]=b.getD n 0 by simp[h],oD];by_cases hc:n+1+(b.getD n 0).toNat<=b.length;·rw[if_pos (by omega),if_pos hc,List.drop_take,List.drop_drop,Nat.add_sub_cancel_left]
 ·rw[if_neg (by omega),if_neg hc]
def RQ(ws:List Zi):Prop:=∀p∈ws,p.name.length<=255∧p.key.length<=255∧p.value.length<=255
theorem Bj{ws:List Zi}{p:Zi}(h:RQ ws)(hp:p.name.length<=255∧p.key.length<=255∧p.value.length<=255):RQ (ws++[p]):=fun q hq=>by
 rcases tZ.1 hq with hq|hq;·exact h q hq
 ·simp only[tL,tN,or_false]at hq;rw[hq];exact hp
theorem Ia{b:List UInt8}(h:4000<b.length):YL b=1∧JN b=Zn:=by
 have:YL b=1:=by rw[YL,if_pos h]
 exact⟨this,by rw[JN,this,if_neg (by decide)]⟩
theorem SS{b:List UInt8}(h:b.length<4):YL b=14∧JN b=Zn:=by
 have:YL b=14:=by rw[YL,if_neg (by omega),if_pos h]
 exact⟨this,by rw[JN,this,if_neg (by decide)]⟩
theorem Hu{b:List UInt8}(h1:¬4000<b.length)(h2:¬b.length<4)(h:G6 b=G):YL b=14∧JN b=Zn:=by
 have:YL b=14:=by rw[YL,if_neg h1,if_neg h2,h]
 exact⟨this,by rw[JN,this,if_neg (by decide)]⟩
theorem Hg{b r:List UInt8}{ws:List Zi}(h1:¬4000<b.length)(h2:¬b.length<4)(h:G6 b=I (ws,r))(hr:r.length≠0):YL b=4∧JN b=Zn:=by
 have:YL b=4:=by rw[YL,if_neg h1,if_neg h2,h];show(if r.length=0then _ else(4:Int))=4;rw[if_neg hr]
 exact⟨this,by rw[JN,this,if_neg (by decide)]⟩
theorem Ir{b r:List UInt8}{ws:List Zi}(h1:¬4000<b.length)(h2:¬b.length<4)(h:G6 b=I (ws,r))(hr:r.length=0):YL b=Zc ⟨(Gg b:Int),ws⟩∧(YL b=0->JN b=⟨(Gg b:Int),ws⟩)∧(YL b≠0->JN b=Zn):=by
 have:YL b=Zc ⟨(Gg b:Int),ws⟩:=by rw[YL,if_neg h1,if_neg h2,h];show(if r.length=0then _ else(4:Int))=_;rw[if_pos hr]
 refine⟨this,fun h0=>?_,fun h0=>?_⟩;·rw[JN,if_pos h0,h]
 ·rw[JN,if_neg h0]
def Xj(k:Int)(m:Nat)(p0 p1 p2 p3 r:List UInt8):Option (Rq×List UInt8):=match m with|0=>Yf k r|1=>Vt k p0 r|2=>Vv k p0 p1 r|3=>Vu k p0 p1 p2 r|_=>I (⟨k,p0,p1,p2,p3⟩,r)
theorem Ka(r:List UInt8):Jr M r=Zx r:=rfl
theorem yZ(r:List UInt8)(h:r.length=0):Zx r=G:=by
 rw[tM h];rfl
theorem uQ(r:List UInt8)(h:0<r.length):Zx r=if 1+(r.getD 0 0).toNat<=r.length then I ((r.take (1+(r.getD 0 0).toNat)).drop 1,r.drop (1+(r.getD 0 0).toNat))else G:=by
 have:=IM r 0 h;rw[sU]at this;exact this
theorem qJ(k:Int)(p0 p1 p2 p3 r:List UInt8):(QS k 0=N->Xj k 0 p0 p1 p2 p3 r=Xj k 1 [] p1 p2 p3 r)∧(QS k 1=N->Xj k 1 p0 p1 p2 p3 r=Xj k 2 p0 [] p2 p3 r)∧(QS k 2=N->Xj k 2 p0 p1 p2 p3 r=Xj k 3 p0 p1 [] p3 r)∧(QS k 3=N->Xj k 3 p0 p1 p2 p3 r=Xj k 4 p0 p1 p2 [] r):=by
 refine⟨fun h=>?_,fun h=>?_,fun h=>?_,fun h=>?_⟩;·show Yf k r=Vt k [] r;rw[Yf,show QW k=N from h];rfl
 ·show Vt k p0 r=Vv k p0 [] r;rw[Vt,show QW k=N from h];rfl
 ·show Vv k p0 p1 r=Vu k p0 p1 [] r;rw[Vv,show tV (k=3)=N from h];rfl
 ·show Vu k p0 p1 p2 r=I (⟨k,p0,p1,p2,[]⟩,r);rw[Vu,show tV (k=4)=N from h];rfl
theorem Gj(k:Int)(p0 p1 p2 p3 r:List UInt8)(h0:Zx r=G)(m:Nat)(hm:m<4)(h:QS k m=M):Xj k m p0 p1 p2 p3 r=G:=by
 match m,hm with|0,_=>show Yf k r=G;rw[Yf,show QW k=M from h,Ka,h0]|1,_=>show Vt k p0 r=G;rw[Vt,show QW k=M from h,Ka,h0]|2,_=>show Vv k p0 p1 r=G;rw[Vv,show tV (k=3)=M from h,Ka,h0]|3,_=>show Vu k p0 p1 p2 r=G;rw[Vu,show tV (k=4)=M from h,Ka,h0]
theorem Gk(k:Int)(p0 p1 p2 p3 r p r2:List UInt8)(h0:Zx r=I (p,r2)):(QS k 0=M->Xj k 0 p0 p1 p2 p3 r=Xj k 1 p p1 p2 p3 r2)∧(QS k 1=M->Xj k 1 p0 p1 p2 p3 r=Xj k 2 p0 p p2 p3 r2)∧(QS k 2=M->Xj k 2 p0 p1 p2 p3 r=Xj k 3 p0 p1 p p3 r2)∧(QS k 3=M->Xj k 3 p0 p1 p2 p3 r=Xj k 4 p0 p1 p2 p r2):=by
 refine⟨fun h=>?_,fun h=>?_,fun h=>?_,fun h=>?_⟩;·show Yf k r=Vt k p r2;rw[Yf,show QW k=M from h,Ka,h0]
 ·show Vt k p0 r=Vv k p0 p r2;rw[Vt,show QW k=M from h,Ka,h0]
 ·show Vv k p0 p1 r=Vu k p0 p1 p r2;rw[Vv,show tV (k=3)=M from h,Ka,h0]
 ·show Vu k p0 p1 p2 r=I (⟨k,p0,p1,p2,p⟩,r2);rw[Vu,show tV (k=4)=M from h,Ka,h0]
def Ie(k:Int)(b:List UInt8):Int:=match Yf k b with|none=>14|I (_,x)=>if x.length=0then 0 else 4
def TW(k:Int)(b:List UInt8):Rq:=match Yf k b with|none=>Gd|I (r,x)=>if x.length=0then r else Gd
theorem F9{k:Int}{b:List UInt8}(h:Yf k b=G):Ie k b=14∧TW k b=Gd:=by
 unfold Ie TW;rw[h];exact⟨rfl,rfl⟩
theorem Te{k:Int}{b x:List UInt8}{r:Rq}(h:Yf k b=I (r,x))(hx:0<x.length):Ie k b=4∧TW k b=Gd:=by
 unfold Ie TW;rw[h];exact⟨if_neg (by omega),if_neg (by omega)⟩
theorem F8{k:Int}{b x:List UInt8}{r:Rq}(h:Yf k b=I (r,x))(hx:x.length=0):Ie k b=0∧TW k b=r:=by
 unfold Ie TW;rw[h];exact⟨if_pos hx,if_pos hx⟩
theorem fE{k:Int}{b:List UInt8}(h:Ie k b=0):(TW k b).kind=k:=by
 match hD:Yf k b with|none=>rw[(F9 hD).1]at h;cases h|I (r,x)=>by_cases hx:x.length=0;(·rw[(F8 hD hx).2];exact(TU hD).2);·rw[(Te hD (by omega)).1]at h;cases h
theorem eU{b:List UInt8}(h1:¬4000<b.length)(h2:¬b.length=0)(hk:1<=UC b∧UC b<=8):QJ b=(if Ie (UC b) (b.drop 1)=0then Yl (TW (UC b) (b.drop 1))else Ie (UC b) (b.drop 1))∧(QJ b=0->Qu b=TW (UC b) (b.drop 1)):=by
 match hD:Yf (UC b) (b.drop 1)with|none=>obtain⟨e1,e2⟩:=F9 hD;(have:QJ b=14:=by rw[QJ,if_neg h1,if_neg h2,if_pos hk,hD]);rw[e1,this];exact⟨rfl,fun h=>by cases h⟩|I (r,x)=>(have hw:QJ b=if x.length=0then Yl r else 4:=by rw[QJ,if_neg h1,if_neg h2,if_pos hk,hD]);by_cases hx:x.length=0;(·obtain⟨e1,e2⟩:=F8 hD hx;rw[if_pos hx]at hw;rw[e1,e2,if_pos rfl];exact⟨hw,fun h=>by rw[Qu,if_pos h,hD]⟩);·obtain⟨e1,e2⟩:=Te hD (by omega);rw[if_neg hx]at hw;rw[e1,hw];exact⟨rfl,fun h=>by cases h⟩
theorem dX{k:Int}{b:List UInt8}(hb:b.length<=4000):(TW k b).name.length<=4000∧(TW k b).key.length<=4000∧(TW k b).last.length<=4000∧(TW k b).value.length<=4000:=by
 match hD:Yf k b with|none=>rw[(F9 hD).2];simp[Gd]|I (r,x)=>by_cases hx:x.length=0;(·rw[(F8 hD hx).2];obtain⟨_,r1,r2,r3,h1,h2,h3,h4⟩:=uC hD;(have key:∀{c:Bool}{r p r2:List UInt8},Jr c r=I (p,r2)->p.length<=r.length∧r2.length<=r.length:=by intro c r p r2 h;have hf:=VW h;cases c with|false=>have:=Io h rfl;subst this;rw[hf];exact⟨tW _,by simp[Xp]⟩|true=>rw[hf];simp[Xp,XP];omega);have a1:=key h1;have a2:=key h2;have a3:=key h3;have a4:=key h4;omega);·rw[(Te hD (by omega)).2];simp[Gd]
section
variable{D:List UInt8->List UInt8}{v:Sv}
theorem Cy:∀(l:List Ac)(v:Sv),∃rs,(l.foldl (QU D) v).out=v.out++rs|[],_=>⟨[],by simp⟩|a::l,v=>by obtain⟨r1,e1⟩:=fG D v a;obtain⟨r2,e2⟩:=Cy l (QU D v a);exact⟨r1++r2,by rw[sA,e2,e1,pA]⟩
theorem lO(l:List Ac)(k:Nat):∃rs,(Xm D l).out=(Xm D (l.take k)).out++rs:=by
 obtain⟨rs,e⟩:=Cy (D:=D) (l.drop k) (Xm D (l.take k));refine⟨rs,?_⟩;rw[<-e,<-Gh,pF]
theorem N0(hD:∀x,(D x).length=4):∀(l:List Ac)(v:Sv),Za D v->(∀a∈l,XH a)->v.synced<=(l.foldl (QU D) v).synced|[],_,_,_=>tX _|a::l,v,h,ha=>by have h1:=(Bu hD h (ha a tU)).1;exact tR h1 (N0 hD l _ (h.act hD (ha a tU)) (fun x hx=>ha x (tS _ hx)))
def P8(D:List UInt8->List UInt8):Sv->List Ac->List Int|_,[]=>[]|v,a::l=>(if a.kind=2then((QU D v a).out.drop v.out.length).map (fun r=>r.turn)else[])++P8 D (QU D v a) l
theorem FA:∀(q:List Nat)(n:Nat),(∀t∈(Y1 n q).map (fun r=>r.turn),(n:Int)<t∧t<=((n+q.length:Nat):Int))∧((Y1 n q).map (fun r=>r.turn)).Pairwise (·<·)|[],n=>⟨fun t ht=>by simp[Y1]at ht,by simp[Y1]⟩|s::q,n=>by obtain⟨h1,h2⟩:=FA q (n+1);rw[Y1,pK];refine⟨fun t ht=>?_,rD.2 ⟨fun t ht=>?_,h2⟩⟩;(·rcases tL.1 ht with e|e;(·rw[e];show(n:Int)<((n+1:Nat):Int)∧((n+1:Nat):Int)<=((n+(q.length+1):Nat):Int);omega);·have:=h1 t e;rw[sF];omega);·show((n+1:Nat):Int)<t;exact(h1 t ht).1
theorem SU(v:Sv){a:Ac}(ha:a.kind=2):(∀t∈((QU D v a).out.drop v.out.length).map (fun r=>r.turn),(v.synced:Int)<t∧t<=((QU D v a).synced:Int))∧(((QU D v a).out.drop v.out.length).map (fun r=>r.turn)).Pairwise (·<·):=by
 rw[QU,if_neg (by omega),if_pos ha];split;·show(∀t∈((v.out++Y1 v.synced v.queue).drop v.out.length).map _,_∧t<=((v.synced+v.queue.length:Nat):Int))∧(((v.out++Y1 v.synced v.queue).drop v.out.length).map _).Pairwise _;rw[List.drop_left];exact FA v.queue v.synced
 ·rw[List.drop_length];exact⟨fun t ht=>by simp at ht,by simp⟩
theorem bU(hD:∀x,(D x).length=4):∀(l:List Ac)(v:Sv),Za D v->(∀a∈l,XH a)->(∀t∈P8 D v l,(v.synced:Int)<t∧t<=((l.foldl (QU D) v).synced:Int))∧(P8 D v l).Pairwise (·<·)|[],v,_,_=>⟨fun t ht=>by simp[P8]at ht,by simp[P8]⟩|a::l,v,h,ha=>by have hA:=ha a tU;have hl:∀x∈l,XH x:=fun x hx=>ha x (tS _ hx);have hg:=h.act hD hA;have ht:=(Bu hD h hA).1;have hr:=N0 hD l _ hg hl;obtain⟨h1,h2⟩:=bU hD l _ hg hl;rw[P8,sA];by_cases e:a.kind=2;(·rw[if_pos e];obtain⟨k1,k2⟩:=SU (D:=D) v e;refine⟨fun t hm=>?_,List.pairwise_append.2 ⟨k2,h2,fun x hx y hy=>?_⟩⟩;(·rcases tZ.1 hm with hm|hm;(·have:=k1 t hm;omega);·have:=h1 t hm;omega);·have:=k1 x hx;have:=h1 y hy;omega);·rw[if_neg e,pO];exact⟨fun t hm=>by have:=h1 t hm;omega,h2⟩
theorem iB(v:Sv){a:Ac}(ha:a.kind=1):((QU D v a).out.length=v.out.length+1∧(∃p,(QU D v a).out=v.out++[p]∧p.sess=(a.sess.toNat:Int))∧(QU D v a).waits=v.waits∧(QU D v a).queue=v.queue∧(QU D v a).up=v.up)∨((QU D v a).out=v.out∧v.up=M∧QJ a.data=0∧(Qu a.data).kind=6∧v.waits a.sess.toNat=N∧(QU D v a).waits=JW v.waits a.sess.toNat M∧(QU D v a).queue=v.queue++[a.sess.toNat]∧(QU D v a).up=v.up):=by
 rw[QU,if_pos ha];rcases TG D v a.sess.toNat a.data with h|⟨h1,h2,h3,h4,_,h6⟩;·obtain⟨p,e1,e2⟩:=h.out;exact .inl ⟨by rw[e1];simp,⟨p,e1,e2⟩,h.waits,h.queue,h.up⟩
 ·exact .inr ⟨h6.out,h1,h2,h3,h4,h6.waits,h6.queue,h6.up⟩
theorem gT(v:Sv)(hu:v.up=M){a:Ac}(ha:a.kind=2):(QU D v a).out=v.out++Y1 v.synced v.queue∧(QU D v a).waits=JZ v.waits v.queue∧(QU D v a).queue=[]∧(QU D v a).up=M:=by
 rw[QU,if_neg (by omega),if_pos ha,if_pos hu];exact⟨rfl,rfl,rfl,hu⟩
theorem eC(h:Za D v){a:Ac}(ha:a.kind=3):(QU D v a).out=v.out∧(∀s,(QU D v a).waits s=N)∧(QU D v a).queue=[]∧(QU D v a).up=N:=by
 rw[QU,if_neg (by omega),if_neg (by omega),if_pos ha];split;·exact⟨rfl,fun _=>rfl,rfl,rfl⟩
 ·(have hf:v.up=N:=by simpa using(by assumption:¬v.up=M));exact⟨rfl,fun s=>h.nowait (h.down hf).1 s,(h.down hf).1,hf⟩
end
theorem ML{w:F}{o:rM}{a:Act}{K:Act->F->Prop}{Q:Exit->Act->F->Prop}(s x:rJ)(ho:o.op=.call {callee:=.builtin .append,args:=#[s,x],argTypes:=#[24,24]})(rb:Nat)(v:H)(l:List Ac)(hs:a.eval s=v)(hown:Jp rb w v l)(vd:H)(r:Ac)(h1:Qi 0 w vd r.data)(nb:Nat)(hb:w.heap[nb]?=I (Y #[tA tD r.kind,tA tD r.sess,tA tD r.keep,vd] 39))(hx:a.eval x=J (I ⟨nb,0,G⟩) 1 1)(hl:(l.length+1)*48<=140737488355328)(hbase:rb<=w.heap.size)(h:∀v' w',Jp rb w' v' (l++[r])->L w w' v.ownBlock->K (a.put o.dst v') w'):o.wp O a w K Q:=by
 obtain⟨i0,hi,hz0,hz1,hz2⟩:=r7 M7;have hrow:v.ownBlock=G∨∃g cur t fz,v.ownBlock=I g∧0<=g∧w.heap[g]?=I (Y cur t fz)∧t≠5:=by rcases hown.row with h|⟨g,cur,fz,e,_,h⟩;(·exact .inl h);·exact .inr ⟨g,cur,_,fz,e,tW _,h,aY⟩
 obtain⟨us,hul,hr,hp⟩:=hown;refine wp_append_lies w s x 24 ho rb 39 i0 (sX #[tA tD 0,tA tD 0,tA tD 0,J G 0 0]) 4 48 Tryz.underlying24 hi hz0 hz1 hz2 rfl (by decide) v l.length (Y6 us) hs hr ⟨nb,0,G⟩ 1 1 (Y6 [(r,vd)]) hx rfl (rC (cs:=#[tA tD r.kind,tA tD r.sess,tA tD r.keep,vd]) hb) ?_ (by omega) (by unfold pB;omega) hl hbase _ rfl ?_;·intro u hu;simp only[Y6,tP,rI,tE,tL,tN,or_false]at hu;rcases hu with rfl|rfl|rfl|rfl;(·rfl);(·rfl);(·rfl);·exact Zz h1
 ·intro g cap w' q1 q2 _ _;refine h _ w' ⟨us++[(r,vd)],by simp[hul],?_,?_⟩ q2;(·rw[vN,tC];exact q1);·intro y hy;rcases tZ.1 hy with hy|hy;(·exact(hp y hy).keptT q2 hrow);·simp only[tL,tN,or_false]at hy;subst hy;exact h1.keptT q2 hrow
theorem Po{w:F}{ops:Array rM}{rest:List rM}{o:rM}{a:Act}{Q:Exit->Act->F->Prop}(hgd:o.guard=G)(s x:rJ)(ho:o.op=.call {callee:=.builtin .append,args:=#[s,x],argTypes:=#[24,24]})(rb:Nat)(v:H)(l:List Ac)(hs:a.eval s=v)(hown:Jp rb w v l)(vd:H)(r:Ac)(h1:Qi 0 w vd r.data)(nb:Nat)(hb:w.heap[nb]?=I (Y #[tA tD r.kind,tA tD r.sess,tA tD r.keep,vd] 39))(hx:a.eval x=J (I ⟨nb,0,G⟩) 1 1)(hl:(l.length+1)*48<=140737488355328)(hbase:rb<=w.heap.size)(h:∀v' w',Jp rb w' v' (l++[r])->L w w' v.ownBlock->wpList O ops Q rest (a.put o.dst v') w'):wpList O ops Q (o::rest) a w:=wpList_plain hgd fun _ hK=>ML s x ho rb v l hs hown vd r h1 nb hb hx hl hbase fun v' w' h1 h2=>hK _ _ (h v' w' h1 h2)
section
variable{D:List UInt8->List UInt8}
theorem aF{v u:Sv}{j:Nat}(hc:u.commits=v.commits.take j)(hs:u.synced=v.synced)(hj:v.synced<=j):QE u u.synced=QE v v.synced:=by
 unfold QE;rw[hc,hs,pG,rV hj]
theorem gO(hD:∀x,(D x).length=4){S:List Ac}(hok:∀a∈S,XH a){k:Int}(hk:0<=k){A B:Oc}(hA:A=GI (Xm D S))(hB:B=GI (Xm D (S++[Zh]++[Zj k,Zh]))):A.turn<=B.turn∧B.turn<=A.turn+A.pending∧B.replies.length=A.replies.length∧B.pending=0∧B.up=M∧(k=0->B.turn=A.turn∧B.forest=A.forest)∧0<=A.turn∧0<=A.pending∧A.turn+A.pending<=300:=by
 have hG:=xE hD S hok;have hG1:=hG.act hD qX;have e1:QU D (Xm D S) Zh={Xm D S with up:=M}:=jM _;obtain⟨j,h1,h2,h3,h4,h5,h6,h7,h8,h9⟩:=Fy hD hG1 hk;have eB:Xm D (S++[Zh]++[Zj k,Zh])={(QU D (QU D (Xm D S) Zh) (Zj k))with up:=M}:=by rw[Gh,Nd,sA,sA,pQ];exact h4
 have q1:(QU D (Xm D S) Zh).synced=(Xm D S).synced:=by rw[e1]
 have q2:(QU D (Xm D S) Zh).queue=(Xm D S).queue:=by rw[e1]
 have q3:(QU D (Xm D S) Zh).out=(Xm D S).out:=by rw[e1]
 have q4:(QU D (Xm D S) Zh).commits=(Xm D S).commits:=by rw[e1]
 rw[q1]at h1 h2 h3;rw[q2]at h2;rw[q3]at h8;rw[q4]at h9;generalize hV:QU D (QU D (Xm D S) Zh) (Zj k)=V at*;have t1:=hG.turn;have t2:=hG.many;have s1:(Xm D S).synced<=j:=h1;have s2:j<=(Xm D S).synced+(Xm D S).queue.length:=h2;rw[hA,hB,eB];refine⟨?_,?_,?_,?_,rfl,fun hk0=>⟨?_,?_⟩,?_,?_,?_⟩;·show(((Xm D S).synced:Nat):Int)<=((V.synced:Nat):Int);omega
 ·show((V.synced:Nat):Int)<=(((Xm D S).synced:Nat):Int)+(((Xm D S).queue.length:Nat):Int);omega
 ·show V.out.length=(Xm D S).out.length;rw[h8]
 ·show((V.queue.length:Nat):Int)=0;rw[h7];rfl
 ·have:=h3 hk0;show((V.synced:Nat):Int)=(((Xm D S).synced:Nat):Int);rw[h6,this]
 ·have e:=h3 hk0;show QE V V.synced=QE (Xm D S) (Xm D S).synced;exact aF (v:=Xm D S) (u:=V) h9 (by rw[h6,e]) s1
 ·show(0:Int)<=((_:Nat):Int);omega
 ·show(0:Int)<=((_:Nat):Int);omega
 ·show((_:Nat):Int)+((_:Nat):Int)<=300;omega
end
structure Vz where
  rest : List UInt8
  short : Bool
def FU(r:Vz)(n:Nat):List UInt8:=if r.short=M∨r.rest.length<n then[]else r.rest.take n
def BR(r:Vz)(n:Nat):Vz:=if r.short=M∨r.rest.length<n then⟨r.rest,M⟩else⟨r.rest.drop n,N⟩
theorem Tk{r:Vz}{n:Nat}(h:r.short=M∨r.rest.length<n):FU r n=[]∧BR r n=⟨r.rest,M⟩:=⟨if_pos h,if_pos h⟩
theorem vS{r:Vz}{n:Nat}(h:¬(r.short=M∨r.rest.length<n)):FU r n=r.rest.take n∧BR r n=⟨r.rest.drop n,N⟩:=⟨if_neg h,if_neg h⟩
theorem dP(r:Vz)(n:Nat):(FU r n).length<=n:=by
 unfold FU;split;·simp
 ·rw[rH];omega
def Xh(r:Vz):Vz:=BR r 1
def JQ(r:Vz):Nat:=if(Xh r).short=M then 0 else((FU r 1).getD 0 0).toNat
theorem Ys(r:Vz):JQ r<256:=by
 unfold JQ;split;·omega
 ·exact((FU r 1).getD 0 0).toNat_lt
theorem Y8(x:UInt8)(l:List UInt8):Xh ⟨x::l,N⟩=⟨l,N⟩∧JQ ⟨x::l,N⟩=x.toNat:=by
 have h:¬((⟨x::l,N⟩:Vz).short=M∨(⟨x::l,N⟩:Vz).rest.length<1):=by simp
 obtain⟨h1,h2⟩:=vS h;have h3:Xh ⟨x::l,N⟩=⟨l,N⟩:=h2;refine⟨h3,?_⟩;rw[JQ,h3,h1,if_neg (by simp)];rfl
theorem Ps{r:Vz}(h:r.short=M)(n:Nat):(BR r n).short=M:=by
 rw[(Tk (.inl h)).2]
theorem Kr{r:Vz}(h:r.short=M):(Xh r).short=M:=Ps h 1
theorem yR:(Xh ⟨[],N⟩).short=M:=rfl
def Ly(r:Vz):List UInt8:=FU (Xh r) (JQ r)
def KS(r:Vz):Vz:=BR (Xh r) (JQ r)
theorem VL{r:Vz}(h:r.short=M):(KS r).short=M:=Ps (Kr h) _
theorem Pe{l p l2:List UInt8}(h:Zx l=I (p,l2)):Ly ⟨l,N⟩=p∧KS ⟨l,N⟩=⟨l2,N⟩:=by
 cases l with|nil=>cases h|cons x l=>rw[Zx]at h;obtain⟨h1,h2⟩:=Y8 x l;unfold Ly KS;rw[h1,h2];by_cases hx:x.toNat<=l.length;(·rw[if_pos hx]at h;simp only[tB,rY]at h;obtain⟨rfl,rfl⟩:=h;exact vS (by simp;omega));·rw[if_neg hx]at h;cases h
theorem Ta{l:List UInt8}(h:Zx l=G):(KS ⟨l,N⟩).short=M:=by
 cases l with|nil=>exact Ps yR _|cons x l=>rw[Zx]at h;obtain⟨h1,h2⟩:=Y8 x l;unfold KS;rw[h1,h2];by_cases hx:x.toNat<=l.length;(·rw[if_pos hx]at h;cases h);·rw[(Tk (.inr (by show l.length<x.toNat;omega))).2]
theorem Ry(r:Vz):(Ly r).length<=255:=tR (dP _ _) (oE (Ys r))
def Tm(r:Vz):Zi:=if JQ (KS (KS r))=255then⟨Ly r,Ly (KS r),[],M⟩else⟨Ly r,Ly (KS r),Ly (KS (KS r)),N⟩
def BE(r:Vz):Vz:=if JQ (KS (KS r))=255then Xh (KS (KS r))else KS (KS (KS r))
theorem Cz{r:Vz}(h:r.short=M):(BE r).short=M:=by
 unfold BE;split;·exact Kr (VL (VL h))
 ·exact VL (VL (VL h))
theorem Ro{r:Vz}(h:(KS (KS r)).short=M):(BE r).short=M:=by
 unfold BE;split;·exact Kr h
 ·exact VL h
theorem eX{l l2:List UInt8}{p:Zi}(h:Ji l=I (p,l2)):Tm ⟨l,N⟩=p∧BE ⟨l,N⟩=⟨l2,N⟩:=by
 unfold Ji at h;cases h1:Zx l with|none=>rw[h1]at h;cases h|some q=>obtain⟨n,la⟩:=q;rw[h1]at h;have h:M3 n la=I (p,l2):=h;unfold M3 at h;obtain⟨a1,a2⟩:=Pe h1;cases h2:Zx la with|none=>rw[h2]at h;cases h|some q=>obtain⟨k,lb⟩:=q;rw[h2]at h;have h:vB n k lb=I (p,l2):=h;unfold vB at h;obtain⟨b1,b2⟩:=Pe h2;unfold Tm BE;rw[a1,a2,b1,b2];cases lb with|nil=>cases h|cons x lb=>obtain⟨c1,c2⟩:=Y8 x lb;by_cases hx:(x::lb).head?=I 255;(·rw[if_pos hx]at h;simp only[tB,rY]at h;obtain⟨rfl,rfl⟩:=h;have:x=255:=oM hx;subst this;rw[c2,c1,if_pos (by rfl),if_pos (by rfl)];exact⟨rfl,rfl⟩);·rw[if_neg hx]at h;have hne:¬x.toNat=255:=fun e=>hx (by rw[show x=255from oF.1 e];rfl);rw[c2,if_neg hne,if_neg hne];cases h3:Zx (x::lb)with|none=>rw[h3]at h;cases h|some q=>obtain⟨v,lc⟩:=q;rw[h3]at h;simp only[tB,rY]at h;obtain⟨rfl,rfl⟩:=h;obtain⟨d1,d2⟩:=Pe h3;rw[d1,d2];exact⟨rfl,rfl⟩
theorem eV{l:List UInt8}(h:Ji l=G):(BE ⟨l,N⟩).short=M:=by
 unfold Ji at h;cases h1:Zx l with|none=>exact Ro (VL (Ta h1))|some q=>obtain⟨n,la⟩:=q;rw[h1]at h;have h:M3 n la=G:=h;unfold M3 at h;obtain⟨a1,a2⟩:=Pe h1;cases h2:Zx la with|none=>exact Ro (by rw[a2];exact Ta h2)|some q=>obtain⟨k,lb⟩:=q;rw[h2]at h;have h:vB n k lb=G:=h;unfold vB at h;obtain⟨b1,b2⟩:=Pe h2;unfold BE;rw[a2,b2];cases lb with|nil=>split;(·exact yR);·exact Ta rfl|cons x lb=>obtain⟨c1,c2⟩:=Y8 x lb;by_cases hx:(x::lb).head?=I 255;(·rw[if_pos hx]at h;cases h);·rw[if_neg hx]at h;have hne:¬x.toNat=255:=fun e=>hx (by rw[show x=255from oF.1 e];rfl);rw[c2,if_neg hne];cases h3:Zx (x::lb)with|none=>exact Ta h3|some q=>obtain⟨v,lc⟩:=q;rw[h3]at h;cases h
theorem OP(r:Vz):(Tm r).name.length<=255∧(Tm r).key.length<=255∧(Tm r).value.length<=255:=by
 unfold Tm;split;·exact⟨Ry _,Ry _,by simp⟩
 ·exact⟨Ry _,Ry _,Ry _⟩
def US:Nat->Vz->Vz|0,r=>r|n+1,r=>BE (US n r)
def UK:Nat->Vz->List Zi|0,_=>[]|n+1,r=>UK n r++[Tm (US n r)]
theorem De:∀(n:Nat)(r:Vz),(UK n r).length=n|0,_=>rfl|n+1,r=>by rw[UK,tC,De n r];rfl
theorem Nt:∀(n:Nat)(r:Vz),RQ (UK n r)|0,_=>fun p hp=>by simp[UK]at hp|n+1,r=>Bj (Nt n r) (OP _)
theorem No:∀(n:Nat){r:Vz},r.short=M->(US n r).short=M|0,_,h=>h|n+1,_,h=>Cz (No n h)
theorem vR:∀(n:Nat){l l2:List UInt8}{ws:List Zi},ZY n l=I (ws,l2)->UK n ⟨l,N⟩=ws∧US n ⟨l,N⟩=⟨l2,N⟩|0,l,l2,ws,h=>by rw[ZY]at h;simp only[tB,rY]at h;obtain⟨rfl,rfl⟩:=h;exact⟨rfl,rfl⟩|n+1,l,l2,ws,h=>by rw[xJ]at h;cases h1:ZY n l with|none=>rw[h1]at h;cases h|some q=>obtain⟨ws1,l1⟩:=q;rw[h1]at h;have h:(match Ji l1 with|I (w,r2)=>I (ws1++[w],r2)|none=>G)=I (ws,l2):=h;obtain⟨e1,e2⟩:=vR n h1;cases h2:Ji l1 with|none=>rw[h2]at h;cases h|some q=>obtain⟨p,l3⟩:=q;rw[h2]at h;simp only[tB,rY]at h;obtain⟨rfl,rfl⟩:=h;obtain⟨d1,d2⟩:=eX h2;rw[UK,US,e1,e2,d1,d2];exact⟨rfl,rfl⟩
theorem Co:∀(n:Nat){l:List UInt8},ZY n l=G->(US n ⟨l,N⟩).short=M|0,l,h=>by rw[ZY]at h;cases h|n+1,l,h=>by rw[xJ]at h;cases h1:ZY n l with|none=>exact Cz (Co n h1)|some q=>obtain⟨ws1,l1⟩:=q;rw[h1]at h;have h:(match Ji l1 with|I (w,r2)=>I (ws1++[w],r2)|none=>G)=G:=h;obtain⟨e1,e2⟩:=vR n h1;cases h2:Ji l1 with|none=>rw[US,e2];exact eV h2|some q=>obtain⟨p,l3⟩:=q;rw[h2]at h;cases h
def ET(r:Vz):Vz:=US (JQ (Xh (Xh (Xh r)))) (Xh (Xh (Xh (Xh r))))
def E5(r:Vz):XG:=⟨((65536*JQ r+256*JQ (Xh r)+JQ (Xh (Xh r)):Nat):Int),UK (JQ (Xh (Xh (Xh r)))) (Xh (Xh (Xh (Xh r))))⟩
theorem DW(r:Vz):RQ (E5 r).writes∧(E5 r).writes.length<=255:=⟨Nt _ _,by
 show(UK _ _).length<=255;rw[De];exact oE (Ys _)⟩
theorem L6(b:List UInt8)(h:¬b.length<4):JQ ⟨b,N⟩=(b.getD 0 0).toNat∧JQ (Xh ⟨b,N⟩)=(b.getD 1 0).toNat∧JQ (Xh (Xh ⟨b,N⟩))=(b.getD 2 0).toNat∧JQ (Xh (Xh (Xh ⟨b,N⟩)))=(b.getD 3 0).toNat∧Xh (Xh (Xh (Xh ⟨b,N⟩)))=⟨b.drop 4,N⟩:=by
 match b,h with|[],h=>exact absurd (by simp) h|[_],h=>exact absurd (by simp) h|[_,_],h=>exact absurd (by simp) h|[_,_,_],h=>exact absurd (by simp) h|x0::x1::x2::x3::b,_=>obtain⟨a1,a2⟩:=Y8 x0 (x1::x2::x3::b);obtain⟨b1,b2⟩:=Y8 x1 (x2::x3::b);obtain⟨c1,c2⟩:=Y8 x2 (x3::b);obtain⟨d1,d2⟩:=Y8 x3 b;rw[a1,b1,c1,d1];exact⟨a2,b2,c2,d2,rfl⟩
theorem i6(b:List UInt8)(h:b.length<4):(ET ⟨b,N⟩).short=M:=by
 unfold ET;refine No _ ?_;match b,h with|[],_=>exact Kr (Kr (Kr yR))|[x],_=>rw[(Y8 x []).1];exact Kr (Kr yR)|[x,y],_=>rw[(Y8 x [y]).1,(Y8 y []).1];exact Kr yR|[x,y,z],_=>rw[(Y8 x [y,z]).1,(Y8 y [z]).1,(Y8 z []).1];exact yR|_::_::_::_::_,h=>exact absurd h (by simp only[sF];omega)
theorem OI{b:List UInt8}(h0:¬4000<b.length)(h:(ET ⟨b,N⟩).short=M):YL b=14∧JN b=Zn:=by
 by_cases h4:b.length<4;·exact SS h4
 ·obtain⟨_,_,_,e3,e4⟩:=L6 b h4;cases hb:G6 b with|none=>exact Hu h0 h4 hb|some q=>obtain⟨ws,l⟩:=q;obtain⟨_,e5⟩:=vR _ hb;unfold ET at h;rw[e3,e4,e5]at h;cases h
theorem DK{b:List UInt8}(h:(ET ⟨b,N⟩).short=N):¬b.length<4∧G6 b=I ((E5 ⟨b,N⟩).writes,(ET ⟨b,N⟩).rest)∧(Gg b:Int)=(E5 ⟨b,N⟩).turn:=by
 by_cases h4:b.length<4;·rw[i6 b h4]at h;cases h
 ·obtain⟨e0,e1,e2,e3,e4⟩:=L6 b h4;refine⟨h4,?_,?_⟩;(·cases hb:G6 b with|none=>have:=Co _ hb;unfold ET at h;rw[e3,e4,this]at h;cases h|some q=>obtain⟨ws,l⟩:=q;obtain⟨e5,e6⟩:=vR _ hb;unfold ET E5;rw[e3,e4,e5,e6]);·unfold E5;rw[e0,e1,e2];rfl
theorem gA{b:List UInt8}(h0:¬4000<b.length)(h:(ET ⟨b,N⟩).short=N)(hr:(ET ⟨b,N⟩).rest.length≠0):YL b=4∧JN b=Zn:=by
 obtain⟨h4,hb,_⟩:=DK h;exact Hg h0 h4 hb hr
theorem fS{b:List UInt8}(h0:¬4000<b.length)(h:(ET ⟨b,N⟩).short=N)(hr:(ET ⟨b,N⟩).rest.length=0):YL b=Zc (E5 ⟨b,N⟩)∧(YL b=0->JN b=E5 ⟨b,N⟩)∧(YL b≠0->JN b=Zn):=by
 obtain⟨h4,hb,ht⟩:=DK h;have:=Ir h0 h4 hb hr;rw[ht]at this;exact this
theorem ZL(w:F)(o:Obj):∃W:F,Hid (W=w.alloc o)∧L w W G∧Hid (W.heap[w.heap.size]?=I o):=⟨w.alloc o,rfl,sS _ _ _,oL w o⟩
theorem kJ(w:F)(b i:Nat)(u:H):∃W:F,Hid (W=tH w ⟨b,i,G⟩ u)∧L w W (I b):=⟨_,rfl,YP w b i u⟩
theorem mS:(207:Nat)≠5:=by
 decide
theorem gK:(207:Nat)≠147:=by
 decide
theorem Qe.rdr{w w':F}{b:Nat}{a0:Option rF}{n0 c0:Nat}{s:Bool}{t:sE}{v:H}{bs:List UInt8}(h:Qe w v bs)(hb:w.heap[b]?=I (Y #[J a0 n0 c0,tQ s] t))(hg:L w w' (I b)):Qe w' v bs:=by
 obtain⟨a,cap,rfl,hc,h⟩:=h;refine⟨a,cap,rfl,hc,?_⟩;rcases h with h|⟨pb,o,rfl,h⟩;·exact .inl h
 ·by_cases h0:bs=[];(·exact .inl ⟨h0,fun e=>by cases e⟩);·refine .inr ⟨pb,o,rfl,h.grown hg ?_⟩;intro e;cases e;have hc0:=h 0 (rW.2 h0);simp only[tY,hb,Nat.add_zero]at hc0;match o,hc0 with|0,hc0=>simp at hc0|1,hc0=>simp at hc0|o+2,hc0=>simp at hc0
structure Zf (w0 w : F) (b : Nat) (r : Vz) : Prop where
  at_ : ∃ a cap, w.heap[b]? = I (Y #[J a r.rest.length cap, tQ r.short] 207) ∧ Qe w0 (J a r.rest.length cap) r.rest
  old : ∃ a n c s, w0.heap[b]? = I (Y #[J a n c, tQ s] 207)
  grown : L w0 w (I b)
theorem Zf.lt{w0 w:F}{b:Nat}{r:Vz}(h:Zf w0 w b r):b<w.heap.size:=by
 obtain⟨a,cap,h,_⟩:=h.at_;exact(tK.1 h).1
theorem Zf.now{w0 w:F}{b:Nat}{r:Vz}(h:Zf w0 w b r){v:H}{bs:List UInt8}(hv:Qe w0 v bs):Qe w v bs:=by
 obtain⟨a,n,c,s,h0⟩:=h.old;exact hv.rdr h0 h.grown
theorem Zf.row{w0 w:F}{b:Nat}{r:Vz}(h:Zf w0 w b r):I b=G∨∃g cur t fz,I b=I g∧0<=g∧w.heap[g]?=I (Y cur t fz)∧t≠5:=by
 obtain⟨a,cap,h,_⟩:=h.at_;exact .inr ⟨b,_,_,_,rfl,tW _,h,mS⟩
theorem Qi.rdr{w0 w w':F}{b:Nat}{r:Vz}{v:H}{bs:List UInt8}(h:Qi 0 w v bs)(hb:Zf w0 w b r)(hg:L w w' (I b)):Qi 0 w' v bs:=h.keptT hg hb.row
theorem Xs{w w':F}(hg:L w w' G)(r:Option Nat):L w w' r:=⟨hg.os,hg.tape,hg.output,hg.size,fun i hi _=>hg.block i hi (by
 simp)⟩
theorem Zf.kept{w0 w w':F}{b:Nat}{r:Vz}(h:Zf w0 w b r)(hg:L w w' G):Zf w0 w' b r:=by
 have hl:=h.lt;obtain⟨a,cap,h1,hs⟩:=h.at_;exact⟨⟨a,cap,by rw[hg.block b hl (by simp)];exact h1,hs⟩,h.old,Qa h.grown (Xs hg _)⟩
theorem Xf{w w':F}{b:Nat}(hg:L w w' (I b)){c:Nat}{o:Obj}(hc:w.heap[c]?=I o)(hne:c≠b):w'.heap[c]?=I o:=by
 rw[hg.block c (tK.1 hc).1 (by simpa using hne)];exact hc
theorem Zf.apart{w0 w w':F}{b:Nat}{r:Vz}(h:Zf w0 w b r){c:Nat}(hne:b≠c)(hc:w0.heap.size<=c)(hg:L w w' (I c)):Zf w0 w' b r:=by
 have hl:=h.lt;obtain⟨a,cap,h1,hs⟩:=h.at_;exact⟨⟨a,cap,by rw[hg.block b hl (by simpa using hne)];exact h1,hs⟩,h.old,JI h.grown hc hg⟩
theorem Q6.rdr{rb:Nat}{w0 w w':F}{b:Nat}{r:Vz}{v:H}{l:List Zi}(h:Q6 rb 0 w v l)(hb:Zf w0 w b r)(hg:L w w' (I b)):Q6 rb 0 w' v l:=by
 obtain⟨a,cap,h0,_⟩:=hb.at_;exact h.kept hg (.inr (h.ne h0 gK)) hb.row
theorem Zf.ownV{rb:Nat}{w0 w w':F}{b:Nat}{r:Vz}{v:H}{l:List Zi}(h:Zf w0 w b r)(ho:Q6 rb 0 w v l)(hb:w0.heap.size<=rb)(hg:L w w' v.ownBlock):Zf w0 w' b r:=by
 obtain⟨a,cap,h1,hs⟩:=h.at_;have hne:=ho.ne h1 gK;cases hv:v.ownBlock with|none=>rw[hv]at hg;exact h.kept hg|some g=>rw[hv]at hg hne;exact h.apart (c:=g) (fun e=>hne (by rw[e])) (tR hb (ho.lt g hv).1) hg
section
open Go.ChangeShapes Go.WideShapes Go.ChangeAt Go.RowKit
theorem own:ownKnob O.godebug=G:=by
 kernel_rfl
theorem eD:laidOutB O=M:=by
 kernel_rfl
def mU(k:IntKind)(w:F)(a:Option rF)(len cap:Nat)(zs:List Int):Prop:=(a=G∧len=0∧cap=0∧zs=[])∨∃x,a=I x∧len<=cap∧cap<=pB∧zs.length=cap∧(∀i,i<zs.length->w.cell? (x.add i)=I (tA k (zs.getD i 0)))∧∀n∈zs,(Lit.int k n).wf=M
theorem gU{w:F}{a:Option rF}{len cap:Nat}{zs:List Int}(h:mU pD w a len cap zs):∃bs:List UInt8,bs.length=len∧len<=pB∧Qe w (J a len cap) bs:=by
 rcases h with⟨rfl,rfl,rfl,rfl⟩|⟨x,rfl,hl,hm,hz,hc,hw⟩;·exact⟨[],rfl,by unfold pB;omega,Qx w⟩
 ·(have hlen:((zs.take len).map fun z=>sK z.toNat).length=len:=by simp;omega);refine⟨(zs.take len).map fun z=>sK z.toNat,hlen,by omega,_,cap,by rw[hlen],by omega,?_⟩;by_cases h0:len=0;(·subst h0;exact .inl ⟨by simp,fun h=>by cases h⟩);·obtain⟨b,o,sp⟩:=x;have h00:=hc 0 (by omega);(obtain rfl:sp=G:=by cases sp with|none=>rfl|some q=>simp[Addr.add,tY]at h00;split at h00<;>simp at h00);refine .inr ⟨b,o,rfl,fun i hi=>?_⟩;rw[hlen]at hi;(have hi2:i<zs.length:=by omega);have:=hc i hi2;rw[ZW]at this;rw[this];have hwf:=hw (zs.getD i 0) (by simp[hi2]);have hb:=bounds_u8 hwf;simp[hi,hi2]at hb⊢;omega
theorem JB{n:Int}(h:(Lit.int tD n).wf=M):-9223372036854775808<=n∧n<=9223372036854775807:=bounds_i64 h
theorem nB{n:Int}(h:(Lit.int pD n).wf=M):∃c:UInt8,n=(c.toNat:Int):=by
 have hb:=bounds_u8 h;exact⟨sK n.toNat,by simp;omega⟩
theorem nD:O.bytesOf 5=1:=by
 kernel_rfl
theorem aT{w w':F}(h:L w w' G):Below w.heap.size w w':=⟨h.os,h.tape,h.output,h.size,fun k hk=>h.block k hk (by
 simp)⟩
end
structure TJ(g:Gr):Prop where kind:-9223372036854775808<=g.kind∧g.kind<=9223372036854775807sess:-9223372036854775808<=g.sess∧g.sess<=9223372036854775807name:-9223372036854775808<=g.name∧g.name<=9223372036854775807key:-9223372036854775808<=g.key∧g.key<=9223372036854775807value:-9223372036854775808<=g.value∧g.value<=9223372036854775807
def dH(w:F)(b o:Nat)(g:Gr):Prop:=w.cell? ⟨b,o,G⟩=I (tA tD g.kind)∧w.cell? ⟨b,o+1,G⟩=I (tA tD g.sess)∧w.cell? ⟨b,o+2,G⟩=I (tA tD g.name)∧w.cell? ⟨b,o+3,G⟩=I (tA tD g.key)∧w.cell? ⟨b,o+4,G⟩=I (tA tD g.value)
theorem dH.grown{w w':F}{b o:Nat}{g:Gr}(h:dH w b o g)(hg:L w w' G):dH w' b o g:=⟨hg.cell h.1 (by
 simp),hg.cell h.2.1 (by
 simp),hg.cell h.2.2.1 (by
 simp),hg.cell h.2.2.2.1 (by
 simp),hg.cell h.2.2.2.2 (by
 simp)⟩
def KV(w:F)(v:H)(l:List Gr):Prop:=∃a cap,v=J a l.length cap∧l.length<=cap∧(l=[]∨∃b o,a=I ⟨b,o,G⟩∧∀i,i<l.length->dH w b (o+i*5) (l.getD i kW))
theorem KV.shape{w:F}{v:H}{l:List Gr}(h:KV w v l):∃a cap,v=J a l.length cap:=by
 obtain⟨a,cap,rfl,_⟩:=h;exact⟨a,cap,rfl⟩
theorem KV.grown{w w':F}{v:H}{l:List Gr}(h:KV w v l)(hg:L w w' G):KV w' v l:=by
 obtain⟨a,cap,rfl,hc,h⟩:=h;refine⟨a,cap,rfl,hc,?_⟩;rcases h with h|⟨b,o,rfl,h⟩;·exact .inl h
 ·exact .inr ⟨b,o,rfl,fun i hi=>(h i hi).grown hg⟩
theorem KV.at{w:F}{a:Option rF}{n cap:Nat}{l:List Gr}(h:KV w (J a n cap) l)(i:Nat)(hi:i<l.length):∃b o,a=I ⟨b,o,G⟩∧dH w b (o+i*5) (l.getD i kW):=by
 obtain⟨a',cap',e,_,h⟩:=h;simp only[tJ]at e;obtain⟨rfl,_,_⟩:=e;rcases h with rfl|⟨b,o,rfl,h⟩;·simp at hi
 ·exact⟨b,o,rfl,h i hi⟩
def Mf(l:List Gr):Prop:=∀g∈l,TJ g
theorem Dc{l:List Gr}{m:Nat}(h:m<l.length):X9 l (m+1)=X9 l m++[Ez (l.getD m kW)]:=by
 unfold X9;rw[List.take_add_one,List.map_append];simp[h]
theorem Bn(l:List Gr)(m:Nat):(X9 l m).length=min m l.length:=by
 simp[X9]
def Hp:Prop:=∀(w:F)(v:H)(l:List Gr)(most:Nat),KV w v l->Mf l->UJ w->most<=1000->rA O 15 #[v,tA tD (most:Int)] w fun e w'=>∃x,e=tG x∧Jp w.heap.size w' x (X9 l most)∧L w w' G
def IY:Prop:=∀(w:F)(v:H)(t:Gc),K6 w v t->yD t->rA O 65 #[v] w fun e w'=>∃x,e=tG (sN #[x,tA tD (RI t)])∧YD w' x (Jq t)∧L w w' G
def AI:Prop:=∀(w:F)(v:H)(t:Gc)(keep:Int),K6 w v t->yD t->-9223372036854775808<=keep->keep<=9223372036854775807->rA O 76 #[v,tA tD keep] w fun e w'=>∃x,e=tG (sN #[x,tA tD (Uy t keep)])∧YD w' x (Xu t keep)∧L w w' G
theorem E0:(89:Nat)≠5:=by
 decide
theorem LS:(89:Nat)≠147:=by
 decide
theorem EV:(89:Nat)≠157:=by
 decide
def IR:Prop:=∀(w:F)(v:H)(a:Ac),Wo w v a->Sf a->rA O 38 #[v] w fun e w'=>e=tG (tA tD (Jb a))∧L w w' G
theorem OJ(s q:Int)(d:List UInt8):Jb ⟨1,s,q,d⟩=if 0<=s∧s<=7then(if 4000<d.length then 1 else if q=0then 0 else 4)else 2:=by
 unfold Jb;rw[if_pos (by show(1:Int)<=1∧(1:Int)<=4;omega)];by_cases h1:0<=s∧s<=7;·rw[if_pos h1,if_neg (by rintro(⟨_,h⟩|⟨h,_⟩);exact h h1;cases h)];by_cases h2:4000<d.length;(·rw[if_pos h2,if_pos h2]);·rw[if_neg h2,if_neg h2];by_cases h3:q=0;(·rw[if_pos h3,if_neg];rintro(⟨h,_⟩|⟨_,h⟩|⟨h,_⟩);(·exact h rfl);(·exact h h3);·exact h rfl);·rw[if_neg h3,if_pos (.inr (.inl ⟨by show(1:Int)≠3;decide,h3⟩))]
 ·rw[if_neg h1,if_pos (.inl ⟨rfl,h1⟩)]
theorem SG(s q:Int)(d:List UInt8):Jb ⟨3,s,q,d⟩=if 0<=q∧q<=200000then(if 4000<d.length then 1 else if s=0then(if 0<d.length then 4 else 0)else 4)else 2:=by
 unfold Jb;rw[if_pos (by show(1:Int)<=3∧(3:Int)<=4;omega)];by_cases h1:0<=q∧q<=200000;·rw[if_pos h1,if_neg (by rintro(⟨h,_⟩|⟨_,h⟩);cases h;exact h h1)];by_cases h2:4000<d.length;(·rw[if_pos h2,if_pos h2]);·rw[if_neg h2,if_neg h2];by_cases h3:s=0;(·rw[if_pos h3];by_cases h4:0<d.length;(·rw[if_pos h4,if_pos (.inr (.inr ⟨by show(3:Int)≠1;decide,h4⟩))]);·rw[if_neg h4,if_neg];rintro(⟨_,h⟩|⟨h,_⟩|⟨_,h⟩);(·exact h h3);(·exact h rfl);·exact h4 h);·rw[if_neg h3,if_pos (.inl ⟨by show(3:Int)≠1;decide,h3⟩)]
 ·rw[if_neg h1,if_pos (.inr ⟨rfl,h1⟩)]
theorem Bw(k s q:Int)(d:List UInt8)(hk:k=2∨k=4):Jb ⟨k,s,q,d⟩=if 4000<d.length then 1 else if s=0then(if q=0then(if 0<d.length then 4 else 0)else 4)else 4:=by
 unfold Jb;have k1:¬k=1:=by omega
 have k3:¬k=3:=by omega
 rw[if_pos (by show 1<=k∧k<=4;omega),if_neg (by rintro(⟨h,_⟩|⟨h,_⟩);exact k1 h;exact k3 h)];by_cases h2:4000<d.length;·rw[if_pos h2,if_pos h2]
 ·rw[if_neg h2,if_neg h2];by_cases h3:s=0;(·rw[if_pos h3];by_cases h5:q=0;(·rw[if_pos h5];by_cases h4:0<d.length;(·rw[if_pos h4,if_pos (.inr (.inr ⟨k1,h4⟩))]);·rw[if_neg h4,if_neg];rintro(⟨_,h⟩|⟨_,h⟩|⟨_,h⟩);(·exact h h3);(·exact h h5);·exact h4 h);·rw[if_neg h5,if_pos (.inr (.inl ⟨k3,h5⟩))]);·rw[if_neg h3,if_pos (.inl ⟨k1,h3⟩)]
def XW(r:Rq):Nat->List UInt8|0=>[sK r.kind.toNat]|1=>[sK r.kind.toNat]++Xp (QS r.kind 0) r.name|2=>[sK r.kind.toNat]++Xp (QS r.kind 0) r.name++Xp (QS r.kind 1) r.key|3=>[sK r.kind.toNat]++Xp (QS r.kind 0) r.name++Xp (QS r.kind 1) r.key++Xp (QS r.kind 2) r.last|_=>[sK r.kind.toNat]++Xp (QS r.kind 0) r.name++Xp (QS r.kind 1) r.key++Xp (QS r.kind 2) r.last++Xp (QS r.kind 3) r.value
theorem WY(r:Rq):XW r 4=Ki r:=by
 show[sK r.kind.toNat]++Xp (QW r.kind) r.name++Xp (QW r.kind) r.key++Xp (tV (r.kind=3)) r.last++Xp (tV (r.kind=4)) r.value=_;rw[Ki,zV];simp[pA]
theorem Hz{r:Rq}(h:X0 r)(m:Nat):(XW r m).length<=200:=by
 have k1:r.name.length<=8:=by by_cases e:QW r.kind=M;(·exact(h.name e).2);·rw[h.noName (by simpa using e)];simp
 have k2:r.key.length<=16:=by by_cases e:QW r.kind=M;(·exact(h.key e).2);·rw[h.noKey (by simpa using e)];simp
 have k3:r.last.length<=16:=by by_cases e:r.kind=3;(·exact(h.last e).2);·rw[h.noLast e];simp
 have k4:=h.value;have l1:=Ua (QS r.kind 0) r.name;have l2:=Ua (QS r.kind 1) r.key;have l3:=Ua (QS r.kind 2) r.last;have l4:=Ua (QS r.kind 3) r.value;match m with|0=>simp[XW]|1=>simp only[XW,tC,sH];omega|2=>simp only[XW,tC,sH];omega|3=>simp only[XW,tC,sH];omega|m+4=>simp only[XW,tC,sH];omega
end Go.Proofs.YtgnknpcnpjnohaaGreatDoor
