/-
  Texts of this proof, joined, with few blanks: AcM0, PairM0, PairB, WrMem, CmtMem, TapeA, TapeB, TapeK, HistF, HistC, TxnF, TxnG, SrvF, SrvI, SrvO, TopF, TenMem, CmtSet, RdMem, StepMem, SvK, SvG, CmtTy, CmtRow, CmtRowD, TxNote, TxM, TxnL, TxCheck, TCCheck, PairStepQ, PairSlice, FCCheck, FCApply, TxMs, RqRd, WrCkF, TxLook, FindM, SrvS, SrvL, SrvM, SrvN, TxClash, TpEnc, TpCheck, BSlice, CmtFit, TxScan, TCRange, FCRange, BitC, PartC, TxWrite, RqWt, HsKept, RqDe, TapeH, WrDtF, SrvT, RdrF, RdrMem, FrameB, GearM, LineH, LnCk, TpSync, TpCrash, TapTy, WrEnF.
-/
import Derived.Deep.AppendLies
import Derived.Test.YtghhckgnmfgjeaaGreatDoorQ1
import Derived.Maps.AppendAt
import Derived.Deep.RegionWith
import Derived.Handy
import Derived.ProofKit
import Derived.OpenShut
import Derived.ShutString
import Derived.ChangeOld
import Derived.Deep.DeepHandedRow
import Derived.SizedLaws
import Derived.Test.YtghhckgnmfgjeaaGreatDoorRows
set_option maxRecDepth 100000
set_option maxHeartbeats 8000000
open Array renaming getElem?_eq_some_iff->tI,getElem?_modify->tY,getElem?_toList->pA
open Bool renaming true->M,false->N,and_eq_true->rM,or_eq_false_iff->rS,false_or->pP
open Classical renaming byContradiction->sV
open Decidable renaming decide->tR
open Go renaming World->F,Value->H,TypeId->sA,undef->sN,sliced->sU,Calls->sY,Addr->rC,Operand->rK,Oper->rP,info_parts->pC,maxLen->pD,yielded->pE,heap_alloc_new->oI
open Go.Addr.mk renaming injEq->rJ
open Go.Ending renaming returned->tD
open Go.Instr renaming slice->rV
open Go.IntKind renaming i64->tC,u8->r7
open Go.Obj renaming cells->S
open Go.Obj.cells renaming injEq->tZ
open Go.Proofs.Tryz renaming prog->O
open Go.Region renaming wanted->sG
open Go.Result renaming andThen->rI
open Go.Value renaming slice->J,int->Y,bool->tL,tuple->sL,agg->sW,ownBlock->pM
open Go.Value.slice renaming injEq->tH
open Go.World renaming grownBy->L,setCell->tE,cell?->tW,cell?_of_block->sO,ownsRow_nil->sP,grownBy_alloc->rA,news_of_block->rG,frozen?->rX,cell?_setCell_same'->pO
open Go.World.ownsRow renaming kept->tX,lt->sI
open Int renaming toNat_natCast->sJ
open List renaming length_append->tB,eq_nil_of_length_eq_zero->tJ,mem_cons->tK,mem_cons_of_mem->tN,flatMap_cons->tP,mem_cons_self->tQ,not_mem_nil->tS,mem_append->sB,length_cons->sC,length_singleton->sD,getElem?_take->sE,take_length->sF,append_nil->sK,getElem?_eq_some_iff->sM,foldl_cons->sQ,getElem_mem->sS,drop_eq_getElem_cons->sX,take_succ_eq_append_getElem->sZ,pairwise_cons->rB,any_eq_true->rD,length_take->rF,take_succ_cons->rH,flatMap_nil->rN,length_set->rT,length_pos_iff->rU,take_append_drop->pB,any_cons->pG,map_cons->pH,take_set->pI,length_nil->pK,nil_append->pL,take_take->pN,getElem?_append_left->pQ,take_of_length_le->pR,getElem?_append->pS,drop_succ_cons->pT,set_cons_succ->pU,nodup_append->pV,append_assoc->pW,cons_append->pX,length_drop->pY,nodup_cons->oD,mem_filter->oE,drop_zero->oF,foldl_nil->oG
open Nat renaming lt_of_lt_of_le->tG,le_trans->tM,zero_le->tU,le_refl->tV,zero_add->sR,succ_mul->rY,min_eq_left->r8,mul_le_mul_right->pF,sub_zero->pJ,le_of_lt_succ->pZ,sub_self->oH
open Option renaming none->G,some->I,map_some->rO
open Option.some renaming injEq->tA,inj->oJ
open Prod.mk renaming injEq->rW
open UInt8 renaming ofNat->sH,toNat_inj->oC
namespace Go.Proofs.YtghhckgnmfgjeaaGreatDoor
open Go.RowKit
def Ln(w:F)(v:H)(a:Ac):Prop:=∃vd,v=sW #[Y tC a.kind,Y tC a.sess,Y tC a.keep,vd]∧Qe w vd a.data
theorem Ln.grown{w w':F}{v:H}{a:Ac}(h:Ln w v a)(hg:L w w' G):Ln w' v a:=by
 obtain⟨vd,rfl,h1⟩:=h;exact⟨vd,rfl,h1.grown hg⟩
theorem Ln.agg{w:F}{v:H}{a:Ac}(h:Ln w v a):∃da dc,v=sW #[Y tC a.kind,Y tC a.sess,Y tC a.keep,J da a.data.length dc]∧Qe w (J da a.data.length dc) a.data:=by
 obtain⟨vd,rfl,h1⟩:=h;obtain⟨da,dc,rfl⟩:=h1.shape;exact⟨da,dc,rfl,h1⟩
def DW(w:F)(b o:Nat)(a:Ac):Prop:=∃vd,w.cell? ⟨b,o,G⟩=I (Y tC a.kind)∧w.cell? ⟨b,o+1,G⟩=I (Y tC a.sess)∧w.cell? ⟨b,o+2,G⟩=I (Y tC a.keep)∧w.cell? ⟨b,o+3,G⟩=I vd∧Qe w vd a.data
theorem DW.grown{w w':F}{b o:Nat}{a:Ac}(h:DW w b o a)(hg:L w w' G):DW w' b o a:=by
 obtain⟨vd,c1,c2,c3,c4,h1⟩:=h;exact⟨vd,hg.cell c1 (by simp),hg.cell c2 (by simp),hg.cell c3 (by simp),hg.cell c4 (by simp),h1.grown hg⟩
def YD(w:F)(v:H)(l:List Ac):Prop:=∃a cap,v=J a l.length cap∧l.length<=cap∧((l=[]∧(a=G->cap=0))∨∃b o,a=I ⟨b,o,G⟩∧∀i,i<l.length->DW w b (o+i*4) (l.getD i Uk))
theorem TZ(w:F):YD w (J G 0 0) []:=⟨G,0,rfl,tV _,.inl ⟨rfl,fun _=>rfl⟩⟩
theorem YD.shape{w:F}{v:H}{l:List Ac}(h:YD w v l):∃a cap,v=J a l.length cap:=by
 obtain⟨a,cap,rfl,_⟩:=h;exact⟨a,cap,rfl⟩
theorem YD.grown{w w':F}{v:H}{l:List Ac}(h:YD w v l)(hg:L w w' G):YD w' v l:=by
 obtain⟨a,cap,rfl,hc,h⟩:=h;refine⟨a,cap,rfl,hc,?_⟩;rcases h with h|⟨b,o,rfl,h⟩;·exact .inl h
 ·exact .inr ⟨b,o,rfl,fun i hi=>(h i hi).grown hg⟩
theorem YD.at{w:F}{a:Option rC}{n cap:Nat}{l:List Ac}(h:YD w (J a n cap) l)(i:Nat)(hi:i<l.length):∃b o,a=I ⟨b,o,G⟩∧DW w b (o+i*4) (l.getD i Uk):=by
 obtain⟨a',cap',e,hc,h⟩:=h;simp only[tH]at e;obtain⟨rfl,rfl,rfl⟩:=e;rcases h with⟨rfl,_⟩|⟨b,o,rfl,h⟩;·simp at hi
 ·exact⟨b,o,rfl,h i hi⟩
structure Bz(a:Ac):Prop where kind:-9223372036854775808<=a.kind∧a.kind<=9223372036854775807sess:-9223372036854775808<=a.sess∧a.sess<=9223372036854775807keep:-9223372036854775808<=a.keep∧a.keep<=9223372036854775807data:a.data.length<=140737488355328
structure Tw (l : List Ac) : Prop where
  many : l.length * 48 <= 140737488355328
  each : ∀ i, i < l.length -> Bz (l.getD i Uk)
theorem Sn{a:Ac}(h:Y1 a):Bz a:=by
 have h0:=h.kind;have h1:=h.data;have h2:0<=a.sess∧a.sess<=7:=by by_cases e:a.kind=1;(·exact h.sess e);·rw[h.noSess e];omega
 have h3:0<=a.keep∧a.keep<=200000:=by by_cases e:a.kind=3;(·exact h.keep e);·rw[h.noKeep e];omega
 exact⟨by omega,by omega,by omega,by omega⟩
abbrev AV:=Ac×H
def BY:AV:=(Uk,sN)
def Jh(us:List AV):List H:=us.flatMap fun x=>[Y tC x.1.kind,Y tC x.1.sess,Y tC x.1.keep,x.2]
theorem xT(us:List AV):(Jh us).length=us.length*4:=by
 induction us with|nil=>rfl|cons x us ih=>rw[Jh,tP,tB,<-Jh,ih,sC];simp;omega
theorem NQ(a b:List AV):Jh (a++b)=Jh a++Jh b:=by
 simp[Jh]
theorem ER:∀(us:List AV)(i:Nat),i<us.length->(Jh us)[i*4]?=I (Y tC (us.getD i BY).1.kind)∧(Jh us)[i*4+1]?=I (Y tC (us.getD i BY).1.sess)∧(Jh us)[i*4+2]?=I (Y tC (us.getD i BY).1.keep)∧(Jh us)[i*4+3]?=I (us.getD i BY).2|[],i,h=>by simp at h|x::us,0,_=>⟨rfl,rfl,rfl,rfl⟩|x::us,i+1,h=>by have:=ER us i (by simpa using h);rw[show(i+1)*4=i*4+4by omega];exact this
theorem fZ:(27:Nat)≠5:=by
 decide
def KM(rb:Nat)(w:F)(v:H)(l:List Ac):Prop:=∃us:List AV,us.map (·.1)=l∧w.ownsRow rb 27 4 v l.length (Jh us)∧∀x∈us,Qi 0 w x.2 x.1.data
theorem WT(rb:Nat)(w:F):KM rb w (J G 0 0) []:=⟨[],rfl,sP _ _ _ _,fun x hx=>by
 simp at hx⟩
theorem KM.row{rb:Nat}{w:F}{v:H}{l:List Ac}(h:KM rb w v l):v.ownBlock=G∨∃g cur fz,v.ownBlock=I g∧rb<=g∧w.heap[g]?=I (S cur 27 fz):=by
 obtain⟨us,_,h,_⟩:=h;rcases h.2with⟨rfl,_⟩|⟨g,cap,cur,rfl,hb,hg,_⟩;·exact .inl rfl
 ·exact .inr ⟨g,cur,_,rfl,hb,hg⟩
theorem KM.lt{rb:Nat}{w:F}{v:H}{l:List Ac}(h:KM rb w v l):∀k,v.ownBlock=I k->rb<=k∧k<w.heap.size:=by
 obtain⟨us,_,h,_⟩:=h;exact sI h
theorem KM.grownNone{rb:Nat}{w w':F}{v:H}{l:List Ac}(h:KM rb w v l)(hg:L w w' G):KM rb w' v l:=by
 obtain⟨us,h1,h2,h3⟩:=h;refine⟨us,h1,tX h2 hg ?_,fun x hx=>(h3 x hx).keptT hg (.inl rfl)⟩;cases hv:v.ownBlock with|none=>exact .inl rfl|some k=>exact .inr (by simp)
theorem KM.shape{rb:Nat}{w:F}{v:H}{l:List Ac}(h:KM rb w v l):∃a cap,v=J a l.length cap:=by
 obtain⟨us,_,h,_⟩:=h;rcases h.2with⟨rfl,h0⟩|⟨g,cap,cur,rfl,_⟩;·exact⟨G,0,by rw[h0]⟩
 ·exact⟨_,cap,rfl⟩
theorem Lv{us:List AV}{l:List Ac}(h:us.map (·.1)=l)(i:Nat)(hi:i<l.length):(us.getD i BY).1=l.getD i Uk∧us.getD i BY∈us:=by
 subst h;have hi':i<us.length:=by simpa using hi
 refine⟨by simp[hi'],?_⟩;rw[show us.getD i BY=us[i]by simp[hi']];exact sS hi'
theorem KM.list{rb:Nat}{w:F}{v:H}{l:List Ac}(h:KM rb w v l):YD w v l:=by
 obtain⟨us,hl,hr,h3⟩:=h;rcases hr.2with⟨rfl,h0⟩|⟨g,cap,cur,rfl,hb,hg,hn,hm,hs,ht⟩;·have:l=[]:=tJ h0;rw[this];exact TZ w
 ·(have hcell:∀j u,(Jh us)[j]?=I u->w.cell? ⟨g,j,G⟩=I u:=by intro j u hj;(have hlt:j<l.length*4:=by have:=(sM.1 hj).1;rw[hr.1]at this;exact this);(have e2:(cur.toList.take (l.length*4))[j]?=(Jh us)[j]?:=by rw[ht]);rw[sE,if_pos hlt,hj]at e2;simp[tW,hg];simpa using e2);refine⟨_,cap,rfl,hn,.inr ⟨g,0,rfl,fun i hi=>?_⟩⟩;obtain⟨e1,e2⟩:=Lv hl i hi;(have hlen:us.length=l.length:=by rw[<-hl];simp);obtain⟨c1,c2,c3,c4⟩:=ER us i (by omega);have hp:=h3 _ e2;rw[e1]at c1 c2 c3 hp;rw[sR];exact⟨_,hcell _ _ c1,hcell _ _ c2,hcell _ _ c3,hcell _ _ c4,hp.1⟩
theorem Ct{rb:Nat}{w W w1:F}{v:H}{l:List Ac}(h:L w W G)(ho:KM rb W v l)(hb:w.heap.size<=rb)(hg:L W w1 v.ownBlock):L w w1 G:=⟨hg.os.trans h.os,hg.tape.trans h.tape,hg.output.trans h.output,tM h.size hg.size,fun i hi hn=>(hg.block i (tG hi h.size) (fun e=>by
 have:=(ho.lt i e.symm).1;omega)).trans (h.block i hi hn)⟩
theorem Aj:(O.info? 27).map (fun i=>(i.zero,i.size,i.bytes))=I (I (sW #[Y tC 0,Y tC 0,Y tC 0,J G 0 0]),4,48):=by
 kernel_rfl
def NY(w:F)(v:H)(p:Pr):Prop:=∃vk vv,v=sW #[vk,vv]∧Qe w vk p.1∧Qe w vv p.2
theorem NY.grown{w w':F}{v:H}{p:Pr}(h:NY w v p)(hg:L w w' G):NY w' v p:=by
 obtain⟨vk,vv,rfl,h1,h2⟩:=h;exact⟨vk,vv,rfl,h1.grown hg,h2.grown hg⟩
def Pd(w:F)(b o:Nat)(p:Pr):Prop:=∃vk vv,w.cell? ⟨b,o,G⟩=I vk∧w.cell? ⟨b,o+1,G⟩=I vv∧Qe w vk p.1∧Qe w vv p.2
theorem Pd.grown{w w':F}{b o:Nat}{p:Pr}(h:Pd w b o p)(hg:L w w' G):Pd w' b o p:=by
 obtain⟨vk,vv,c1,c2,h1,h2⟩:=h;exact⟨vk,vv,hg.cell c1 (by simp),hg.cell c2 (by simp),h1.grown hg,h2.grown hg⟩
def Qr(w:F)(v:H)(l:PL):Prop:=∃a cap,v=J a l.length cap∧l.length<=cap∧((l=[]∧(a=G->cap=0))∨∃b o,a=I ⟨b,o,G⟩∧∀i,i<l.length->Pd w b (o+i*2) (l.getD i ([],[])))
theorem Yh(w:F):Qr w (J G 0 0) []:=⟨G,0,rfl,tV _,.inl ⟨rfl,fun _=>rfl⟩⟩
theorem Qr.grown{w w':F}{v:H}{l:PL}(h:Qr w v l)(hg:L w w' G):Qr w' v l:=by
 obtain⟨a,cap,rfl,hc,h⟩:=h;refine⟨a,cap,rfl,hc,?_⟩;rcases h with h|⟨b,o,rfl,h⟩;·exact .inl h
 ·exact .inr ⟨b,o,rfl,fun i hi=>(h i hi).grown hg⟩
theorem Qr.shape{w:F}{v:H}{l:PL}(h:Qr w v l):∃a cap,v=J a l.length cap:=by
 obtain⟨a,cap,rfl,_⟩:=h;exact⟨a,cap,rfl⟩
theorem Qr.at{w:F}{a:Option rC}{n cap:Nat}{l:PL}(h:Qr w (J a n cap) l)(i:Nat)(hi:i<l.length):∃b o,a=I ⟨b,o,G⟩∧Pd w b (o+i*2) (l.getD i ([],[])):=by
 obtain⟨a',cap',e,hc,h⟩:=h;simp only[tH]at e;obtain⟨rfl,rfl,rfl⟩:=e;rcases h with⟨rfl,_⟩|⟨b,o,rfl,h⟩;·simp at hi
 ·exact⟨b,o,rfl,h i hi⟩
theorem Qi.kept{base:Nat}{w w':F}{v:H}{bs:List UInt8}(h:Qi base w v bs){row:Option Nat}(hg:L w w' row)(hrow:row=G∨∃g cur fz,row=I g∧base<=g∧w.heap[g]?=I (S cur 42 fz)):Qi base w' v bs:=by
 obtain⟨hs,ho⟩:=h;rcases ho with rfl|⟨b,hb,hlt,hc⟩;·obtain⟨a,cap,rfl,hc,h⟩:=hs;refine⟨⟨a,cap,rfl,hc,?_⟩,.inl rfl⟩;rcases h with h|⟨b,o,rfl,h⟩;(·exact .inl h);·exact .inr ⟨b,o,rfl,fun i hi=>by simp at hi⟩
 ·(have hne:I b≠row:=by intro e;rcases hrow with rfl|⟨g,cur,fz,rfl,hbg,hgc⟩;(·cases e);·cases e;rcases hc with hc|⟨cur2,fz2,hc⟩;(·omega);·rw[hc]at hgc;simp at hgc);have hblk:=hg.block b hlt hne;refine⟨?_,.inr ⟨b,hb,tG hlt hg.size,?_⟩⟩;(·obtain⟨a,cap,rfl,hcp,h⟩:=hs;refine⟨a,cap,rfl,hcp,?_⟩;rcases h with h|⟨b',o,rfl,h⟩;(·exact .inl h);·refine .inr ⟨b',o,rfl,fun i hi=>?_⟩;simp[pM]at hb;subst hb;exact hg.cell (h i hi) (by simpa using hne));·rcases hc with hc|⟨cur,fz,hc⟩;(·exact .inl hc);·exact .inr ⟨cur,fz,by rw[hblk];exact hc⟩
def flat(vs:List (H×H)):List H:=vs.flatMap fun x=>[x.1,x.2]
theorem Kk(vs:List (H×H)):(flat vs).length=vs.length*2:=by
 induction vs with|nil=>rfl|cons x r ih=>simp only[flat,tP,tB,sC,pK]at ih⊢;omega
theorem JN(a b:List (H×H)):flat (a++b)=flat a++flat b:=by
 simp[flat]
theorem zV:∀(vs:List (H×H))(i:Nat),i<vs.length->(flat vs)[i*2]?=I (vs.getD i (sN,sN)).1∧(flat vs)[i*2+1]?=I (vs.getD i (sN,sN)).2|[],i,h=>by simp at h|x::r,0,_=>by simp[flat]|x::r,i+1,h=>by have:=zV r i (by simpa using h);rw[show(i+1)*2=i*2+2by omega,show i*2+2+1=(i*2+1)+2by omega];simpa[flat]using this
def Gh(base:Nat)(w:F)(v:H)(l:PL):Prop:=∃vs:List (H×H),vs.length=l.length∧w.ownsRow base 42 2 v l.length (flat vs)∧∀i,i<l.length->Qi base w (vs.getD i (sN,sN)).1 (l.getD i ([],[])).1∧Qi base w (vs.getD i (sN,sN)).2 (l.getD i ([],[])).2
theorem Gh.row{base:Nat}{w:F}{v:H}{l:PL}(h:Gh base w v l):v.ownBlock=G∨∃g cur fz,v.ownBlock=I g∧base<=g∧w.heap[g]?=I (S cur 42 fz):=by
 obtain⟨vs,_,h,_⟩:=h;rcases h.2with⟨rfl,_⟩|⟨g,cap,cur,rfl,hb,hg,_⟩;·exact .inl rfl
 ·exact .inr ⟨g,cur,_,rfl,hb,hg⟩
theorem Gh.lt{base:Nat}{w:F}{v:H}{l:PL}(h:Gh base w v l):∀k,v.ownBlock=I k->base<=k∧k<w.heap.size:=by
 obtain⟨vs,_,h,_⟩:=h;exact sI h
theorem Gh.grownNone{base:Nat}{w w':F}{v:H}{l:PL}(h:Gh base w v l)(hg:L w w' G):Gh base w' v l:=by
 obtain⟨vs,h1,h2,h3⟩:=h;refine⟨vs,h1,tX h2 hg ?_,fun i hi=>⟨((h3 i hi).1).kept hg (.inl rfl),((h3 i hi).2).kept hg (.inl rfl)⟩⟩;cases hv:v.ownBlock with|none=>exact .inl rfl|some k=>exact .inr (by simp)
theorem Gh.alloc{base:Nat}{w:F}{v:H}{l:PL}(h:Gh base w v l)(o:Obj):Gh base (w.alloc o) v l:=h.grownNone (rA _ _ _)
theorem Gh.shape{base:Nat}{w:F}{v:H}{l:PL}(h:Gh base w v l):∃a cap,v=J a l.length cap:=by
 obtain⟨vs,_,h,_⟩:=h;rcases h.2with⟨rfl,h0⟩|⟨g,cap,cur,rfl,_⟩;·exact⟨G,0,by rw[h0]⟩
 ·exact⟨_,cap,rfl⟩
theorem cH{base:Nat}{w W w1:F}{v:H}{l:PL}(h:L w W G)(ho:Gh base W v l)(hb:w.heap.size<=base)(hg:L W w1 v.ownBlock):L w w1 G:=⟨hg.os.trans h.os,hg.tape.trans h.tape,hg.output.trans h.output,tM h.size hg.size,fun i hi hn=>(hg.block i (tG hi h.size) (fun e=>by
 have:=(ho.lt i e.symm).1;omega)).trans (h.block i hi hn)⟩
theorem Du:(O.info? 42).map (fun i=>(i.zero,i.size,i.bytes))=I (I (sW #[J G 0 0,J G 0 0]),2,48):=by
 kernel_rfl
theorem Je{α:Type}(a b:List α)(i:Nat)(d:α):(a++b).getD i d=if i<a.length then a.getD i d else b.getD (i-a.length) d:=by
 by_cases h:i<a.length;·rw[if_pos h];simp[pS,h]
 ·rw[if_neg h];simp[pS,h]
theorem yD(vs:List (H×H))(k:Nat):flat (vs.take k)=(flat vs).take (k*2):=by
 induction vs generalizing k with|nil=>simp[flat]|cons x r ih=>cases k with|zero=>simp[flat]|succ k=>rw[rH,show(k+1)*2=k*2+2by omega];have:=ih k;simp only[flat,tP,pX,pL,rH]at this⊢;rw[this]
theorem R9(vs:List (H×H))(k:Nat):flat (vs.drop k)=(flat vs).drop (k*2):=by
 induction vs generalizing k with|nil=>simp[flat]|cons x r ih=>cases k with|zero=>simp[flat]|succ k=>rw[pT,show(k+1)*2=k*2+2by omega];have:=ih k;simp only[flat,tP,pX,pL,pT]at this⊢;rw[this]
theorem Gh.cells{base:Nat}{w:F}{g n cap:Nat}{vs:List (H×H)}{l:PL}(hr:w.ownsRow base 42 2 (J (I ⟨g,0,G⟩) n cap) l.length (flat vs)):∀j u,(flat vs)[j]?=I u->w.cell? ⟨g,j,G⟩=I u:=by
 intro j u hj;rcases hr.2with⟨e,_⟩|⟨g',cap',cur,e,hb,hg,hn,hm,hs,ht⟩;·cases e
 ·simp only[tH,tA,rJ]at e;obtain⟨⟨rfl,_⟩,_,_⟩:=e;(have hlt:j<l.length*2:=by have:=(sM.1 hj).1;rw[hr.1]at this;exact this);(have e2:(cur.toList.take (l.length*2))[j]?=(flat vs)[j]?:=by rw[ht]);rw[sE,if_pos hlt,hj]at e2;simp[tW,hg];simpa using e2
theorem Q8.setOther{base:Nat}{w:F}{v:H}{bs:List UInt8}(h:Q8 base w v bs)(c i:Nat)(x:H)(hc:c<base):Q8 base (tE w ⟨c,i,G⟩ x) v bs:=by
 refine h.grown (row:=I c) (Qf (Qb _ _) i x) ?_;cases hv:v.ownBlock with|none=>exact .inl rfl|some k=>have:=(h.lt k hv).1;exact .inr (by simp;omega)
theorem UM{W w:F}{b:Nat}{x y:H}{t:sA}(hg:L W w G)(h:W.heap[b]?=I (S #[x,y] t))(u v:H):(tE w ⟨b,0,G⟩ u).cell? ⟨b,0,G⟩=I u∧((tE w ⟨b,0,G⟩ u).setCell ⟨b,1,G⟩ v).cell? ⟨b,1,G⟩=I v:=by
 have hb:w.heap[b]?=I (S #[x,y] t):=by rw[hg.block b (tI.1 h).1 (by simp)];exact h
 have c0:w.cell? ⟨b,0,G⟩=I x:=by simp[tW,hb]
 have c1:w.cell? ⟨b,1,G⟩=I y:=by simp[tW,hb]
 refine⟨pO _ _ _ (by rw[c0];rfl),pO _ _ _ ?_⟩;rw[World.cell?_setCell_other _ _ _ _ (by simp),c1];rfl
theorem V8{base:Nat}{W:F}{pb:Nat}{x y:H}(h:W.heap[pb]?=I (S #[x,y] 42))(hb:base<=pb)(u v:H):((tE W ⟨pb,0,G⟩ u).setCell ⟨pb,1,G⟩ v).heap[pb]?=I (S #[u,v] 42)∧(∀z bs,Qi base W z bs->Qi base ((tE W ⟨pb,0,G⟩ u).setCell ⟨pb,1,G⟩ v) z bs)∧∀w0:F,w0.heap.size<=pb->L w0 W G->L w0 ((tE W ⟨pb,0,G⟩ u).setCell ⟨pb,1,G⟩ v) G:=by
 refine⟨?_,fun z bs hz=>?_,fun w0 h0 hg=>Qd (Qd hg _ h0 _ _) _ h0 _ _⟩;·simp only[tE,tY,if_true,h,rO];first|rfl|simp
 ·exact hz.kept (Qf (Qf (Qb _ _) _ _) _ _) (.inr ⟨pb,_,_,rfl,hb,h⟩)
def Kg(rb pb:Nat)(w:F)(v:H)(l:PL):Prop:=∃vs:List (H×H),vs.length=l.length∧w.ownsRow rb 42 2 v l.length (flat vs)∧∀i,i<l.length->Qi pb w (vs.getD i (sN,sN)).1 (l.getD i ([],[])).1∧Qi pb w (vs.getD i (sN,sN)).2 (l.getD i ([],[])).2
theorem Cl(rb pb:Nat)(w:F):Kg rb pb w (J G 0 0) []:=⟨[],rfl,sP _ _ _ _,fun i hi=>by
 simp at hi⟩
theorem Kg.p{rb pb:Nat}{w:F}{v:H}{l:PL}(h:Kg rb pb w v l)(hb:pb<=rb):Gh pb w v l:=by
 obtain⟨vs,h1,h2,h3⟩:=h;refine⟨vs,h1,⟨h2.1,?_⟩,h3⟩;rcases h2.2with h|⟨g,cap,cur,h1,h2,h3⟩;·exact .inl h
 ·exact .inr ⟨g,cap,cur,h1,tM hb h2,h3⟩
theorem Kg.row{rb base:Nat}{w:F}{v:H}{l:PL}(h:Kg rb base w v l)(hb:base<=rb):v.ownBlock=G∨∃g cur fz,v.ownBlock=I g∧base<=g∧w.heap[g]?=I (S cur 42 fz):=(h.p hb).row
theorem Kg.lt{rb pb:Nat}{w:F}{v:H}{l:PL}(h:Kg rb pb w v l):∀k,v.ownBlock=I k->rb<=k∧k<w.heap.size:=by
 obtain⟨vs,_,h,_⟩:=h;exact sI h
theorem Kg.grownNone{rb pb:Nat}{w w':F}{v:H}{l:PL}(h:Kg rb pb w v l)(hg:L w w' G):Kg rb pb w' v l:=by
 obtain⟨vs,h1,h2,h3⟩:=h;refine⟨vs,h1,tX h2 hg ?_,fun i hi=>⟨((h3 i hi).1).kept hg (.inl rfl),((h3 i hi).2).kept hg (.inl rfl)⟩⟩;cases hv:v.ownBlock with|none=>exact .inl rfl|some k=>exact .inr (by simp)
theorem Kg.alloc{rb pb:Nat}{w:F}{v:H}{l:PL}(h:Kg rb pb w v l)(o:Obj):Kg rb pb (w.alloc o) v l:=h.grownNone (rA _ _ _)
theorem Kg.shape{rb pb:Nat}{w:F}{v:H}{l:PL}(h:Kg rb pb w v l):∃a cap,v=J a l.length cap:=by
 obtain⟨vs,_,h,_⟩:=h;rcases h.2with⟨rfl,h0⟩|⟨g,cap,cur,rfl,_⟩;·exact⟨G,0,by rw[h0]⟩
 ·exact⟨_,cap,rfl⟩
theorem Tv{rb pb:Nat}{w W w1:F}{v:H}{l:PL}(h:L w W G)(ho:Kg rb pb W v l)(hb:w.heap.size<=rb)(hg:L W w1 v.ownBlock):L w w1 G:=⟨hg.os.trans h.os,hg.tape.trans h.tape,hg.output.trans h.output,tM h.size hg.size,fun i hi hn=>(hg.block i (tG hi h.size) (fun e=>by
 have:=(ho.lt i e.symm).1;omega)).trans (h.block i hi hn)⟩
def dW(base:Nat)(w:F)(b o:Nat)(p:Pr):Prop:=∃vk vv,w.cell? ⟨b,o,G⟩=I vk∧w.cell? ⟨b,o+1,G⟩=I vv∧Qi base w vk p.1∧Qi base w vv p.2
def QN(base:Nat)(w:F)(v:H)(l:PL):Prop:=∃a cap,v=J a l.length cap∧l.length<=cap∧((l=[]∧(a=G->cap=0))∨∃b o,a=I ⟨b,o,G⟩∧(b<base∨∃cur fz,w.heap[b]?=I (S cur 42 fz))∧∀i,i<l.length->dW base w b (o+i*2) (l.getD i ([],[])))
theorem QN.list{base:Nat}{w:F}{v:H}{l:PL}(h:QN base w v l):Qr w v l:=by
 obtain⟨a,cap,rfl,hc,h⟩:=h;refine⟨a,cap,rfl,hc,?_⟩;rcases h with h|⟨b,o,rfl,_,h⟩;·exact .inl h
 ·refine .inr ⟨b,o,rfl,fun i hi=>?_⟩;obtain⟨vk,vv,c1,c2,h1,h2⟩:=h i hi;exact⟨vk,vv,c1,c2,h1.1,h2.1⟩
theorem Qr.pairsB{w w':F}{v:H}{l:PL}(h:Qr w v l)(hg:L w w' G)(base:Nat)(hb:w.heap.size<=base):QN base w' v l:=by
 obtain⟨a,cap,rfl,hc,h⟩:=h;refine⟨a,cap,rfl,hc,?_⟩;rcases h with h|⟨b,o,rfl,h⟩;·exact .inl h
 ·by_cases h0:l=[];(·exact .inl ⟨h0,fun e=>by cases e⟩);·have hl:0<l.length:=rU.2 h0;refine .inr ⟨b,o,rfl,.inl ?_,fun i hi=>?_⟩;(·obtain⟨vk,vv,c1,_⟩:=h 0 hl;exact tG (Vn c1) hb);·obtain⟨vk,vv,c1,c2,h1,h2⟩:=h i hi;exact⟨vk,vv,hg.cell c1 (by simp),hg.cell c2 (by simp),h1.part hg base hb,h2.part hg base hb⟩
theorem Gh.pairsB{base:Nat}{w:F}{v:H}{l:PL}(h:Gh base w v l):QN base w v l:=by
 obtain⟨vs,hl,hr,h3⟩:=h;have hr':=hr;rcases hr.2with⟨rfl,h0⟩|⟨g,cap,cur,rfl,hb,hg,hn,hm,hs,ht⟩;·have:l=[]:=tJ h0;subst this;exact⟨G,0,rfl,tV _,.inl ⟨rfl,fun _=>rfl⟩⟩
 ·refine⟨_,cap,rfl,hn,.inr ⟨g,0,rfl,.inr ⟨cur,_,hg⟩,fun i hi=>?_⟩⟩;have hf:=zV vs i (by omega);refine⟨(vs.getD i (sN,sN)).1,(vs.getD i (sN,sN)).2,?_,?_,(h3 i hi).1,(h3 i hi).2⟩;(·have:=Gh.cells hr' _ _ hf.1;rw[sR];exact this);·have:=Gh.cells hr' _ _ hf.2;rw[sR];exact this
theorem QN.kept{base:Nat}{w w':F}{v:H}{l:PL}(h:QN base w v l){row:Option Nat}(hg:L w w' row)(hrow:row=G∨∃g cur t fz,row=I g∧base<=g∧w.heap[g]?=I (S cur t fz)∧t≠5∧t≠42):QN base w' v l:=by
 obtain⟨a,cap,rfl,hc,h⟩:=h;refine⟨a,cap,rfl,hc,?_⟩;rcases h with h|⟨b,o,rfl,hb,h⟩;·exact .inl h
 ·by_cases h0:l=[];(·exact .inl ⟨h0,fun e=>by cases e⟩);·have hl:0<l.length:=rU.2 h0;(have hlt:b<w.heap.size:=by obtain⟨vk,vv,c1,_⟩:=h 0 hl;exact Vn c1);(have hne:I b≠row:=by intro e;rcases hrow with rfl|⟨g,cur,t,fz,rfl,hbg,hgc,ht,ht2⟩;(·cases e);·cases e;rcases hb with hb|⟨cur2,fz2,hb⟩;(·omega);·rw[hb]at hgc;simp only[tA,tZ]at hgc;exact ht2 hgc.2.1.symm);(have hrow':row=G∨∃g cur t fz,row=I g∧base<=g∧w.heap[g]?=I (S cur t fz)∧t≠5:=by rcases hrow with h|⟨g,cur,t,fz,h1,h2,h3,h4,_⟩;(·exact .inl h);·exact .inr ⟨g,cur,t,fz,h1,h2,h3,h4⟩);refine .inr ⟨b,o,rfl,?_,fun i hi=>?_⟩;(·rcases hb with hb|⟨cur,fz,hb⟩;(·exact .inl hb);·exact .inr ⟨cur,fz,by rw[hg.block b hlt hne];exact hb⟩);·obtain⟨vk,vv,c1,c2,h1,h2⟩:=h i hi;exact⟨vk,vv,hg.cell c1 (by simpa using hne),hg.cell c2 (by simpa using hne),h1.keptT hg hrow',h2.keptT hg hrow'⟩
theorem QN.grown{base:Nat}{w w':F}{v:H}{l:PL}(h:QN base w v l)(hg:L w w' G):QN base w' v l:=h.kept hg (.inl rfl)
theorem xG{base:Nat}{w:F}{v:H}{l:PL}(h:QN base w v l):v.oneCell'=M:=by
 obtain⟨a,cap,rfl,_⟩:=h;rfl
theorem Yv(base:Nat)(w:F):QN base w (J G 0 0) []:=⟨G,0,rfl,tV _,.inl ⟨rfl,fun _=>rfl⟩⟩
theorem QN.shape{base:Nat}{w:F}{v:H}{l:PL}(h:QN base w v l):∃a cap,v=J a l.length cap:=by
 obtain⟨a,cap,rfl,_⟩:=h;exact⟨a,cap,rfl⟩
theorem QN.mono{base base':Nat}{w:F}{v:H}{l:PL}(h:QN base w v l)(hb:base<=base'):QN base' w v l:=by
 obtain⟨a,cap,rfl,hc,h⟩:=h;refine⟨a,cap,rfl,hc,?_⟩;rcases h with h|⟨b,o,rfl,h1,h2⟩;·exact .inl h
 ·refine .inr ⟨b,o,rfl,?_,fun i hi=>?_⟩;(·rcases h1 with h1|h1;(·exact .inl (by omega));·exact .inr h1);·obtain⟨vk,vv,c1,c2,p1,p2⟩:=h2 i hi;exact⟨vk,vv,c1,c2,p1.mono hb,p2.mono hb⟩
theorem Kg.pairsB{rb:Nat}{w:F}{v:H}{l:PL}(h:Kg rb 0 w v l):QN 0 w v l:=(h.p (tU _)).pairsB
theorem QN.up{w:F}{v:H}{l:PL}(h:QN 0 w v l)(base:Nat):QN base w v l:=h.mono (tU _)
abbrev WV:=Zf×H×H×H
def Cz:WV:=(Qq,sN,sN,sN)
def YW(us:List WV):List H:=us.flatMap fun x=>[x.2.1,x.2.2.1,tL x.1.gone,x.2.2.2]
theorem Lp(us:List WV):(YW us).length=us.length*4:=by
 induction us with|nil=>rfl|cons x r ih=>simp only[YW,tP,tB,sC,pK]at ih⊢;omega
theorem kO(a b:List WV):YW (a++b)=YW a++YW b:=by
 simp[YW]
theorem EV:∀(us:List WV)(i:Nat),i<us.length->(YW us)[i*4]?=I (us.getD i Cz).2.1∧(YW us)[i*4+1]?=I (us.getD i Cz).2.2.1∧(YW us)[i*4+2]?=I (tL (us.getD i Cz).1.gone)∧(YW us)[i*4+3]?=I (us.getD i Cz).2.2.2|[],i,h=>by simp at h|x::r,0,_=>by simp[YW]|x::r,i+1,h=>by have:=EV r i (by simpa using h);rw[show(i+1)*4=i*4+4by omega,show i*4+4+1=(i*4+1)+4by omega,show i*4+4+2=(i*4+2)+4by omega,show i*4+4+3=(i*4+3)+4by omega];simpa[YW]using this
theorem kC:(75:Nat)≠5:=by
 decide
theorem Lo{us:List WV}{l:List Zf}(h:us.map (·.1)=l)(i:Nat)(hi:i<l.length):(us.getD i Cz).1=l.getD i Qq∧us.getD i Cz∈us:=by
 subst h;have hi':i<us.length:=by simpa using hi
 refine⟨by simp[hi'],?_⟩;rw[show us.getD i Cz=us[i]by simp[hi']];exact sS hi'
theorem Oq:(O.info? 75).map (fun i=>(i.zero,i.size,i.bytes))=I (I (sW #[J G 0 0,J G 0 0,tL N,J G 0 0]),4,80):=by
 kernel_rfl
theorem Rb(w:F)(vn vk vv:H)(p:Zf)(h1:Qe w vn p.name)(h2:Qe w vk p.key)(h3:Qe w vv p.value)(t:sA):QQ (w.alloc (S #[vn,vk,tL p.gone,vv] t)) (J (I ⟨w.heap.size,0,G⟩) 1 1) [p]:=by
 refine⟨_,1,rfl,by simp,.inr ⟨w.heap.size,0,rfl,fun i hi=>?_⟩⟩;match i,hi with|0,_=>exact⟨vn,vk,vv,by simp,by simp,by simp,by simp,h1.alloc _,h2.alloc _,h3.alloc _⟩
def Ic(base:Nat)(w:F)(b o:Nat)(p:Zf):Prop:=∃vn vk vv,w.cell? ⟨b,o,G⟩=I vn∧w.cell? ⟨b,o+1,G⟩=I vk∧w.cell? ⟨b,o+2,G⟩=I (tL p.gone)∧w.cell? ⟨b,o+3,G⟩=I vv∧Qi base w vn p.name∧Qi base w vk p.key∧Qi base w vv p.value
def Xm(base:Nat)(w:F)(v:H)(l:List Zf):Prop:=∃a cap,v=J a l.length cap∧l.length<=cap∧((l=[]∧(a=G->cap=0))∨∃b o,a=I ⟨b,o,G⟩∧(b<base∨∃cur fz,w.heap[b]?=I (S cur 75 fz))∧∀i,i<l.length->Ic base w b (o+i*4) (l.getD i Qq))
theorem M9(base:Nat)(w:F):Xm base w (J G 0 0) []:=⟨G,0,rfl,tV _,.inl ⟨rfl,fun _=>rfl⟩⟩
theorem Xm.shape{base:Nat}{w:F}{v:H}{l:List Zf}(h:Xm base w v l):∃a cap,v=J a l.length cap:=by
 obtain⟨a,cap,rfl,_⟩:=h;exact⟨a,cap,rfl⟩
theorem Xm.oneCell{base:Nat}{w:F}{v:H}{l:List Zf}(h:Xm base w v l):v.oneCell'=M:=by
 obtain⟨a,cap,rfl,_⟩:=h;rfl
theorem Xm.list{base:Nat}{w:F}{v:H}{l:List Zf}(h:Xm base w v l):QQ w v l:=by
 obtain⟨a,cap,rfl,hc,h⟩:=h;refine⟨a,cap,rfl,hc,?_⟩;rcases h with h|⟨b,o,rfl,_,h⟩;·exact .inl h
 ·refine .inr ⟨b,o,rfl,fun i hi=>?_⟩;obtain⟨vn,vk,vv,c1,c2,c3,c4,h1,h2,h3⟩:=h i hi;exact⟨vn,vk,vv,c1,c2,c3,c4,h1.1,h2.1,h3.1⟩
theorem Xm.kept{base:Nat}{w w':F}{v:H}{l:List Zf}(h:Xm base w v l){row:Option Nat}(hg:L w w' row)(hrow:row=G∨∃g cur t fz,row=I g∧base<=g∧w.heap[g]?=I (S cur t fz)∧t≠5∧t≠75):Xm base w' v l:=by
 obtain⟨a,cap,rfl,hc,h⟩:=h;refine⟨a,cap,rfl,hc,?_⟩;rcases h with h|⟨b,o,rfl,hb,h⟩;·exact .inl h
 ·by_cases h0:l=[];(·exact .inl ⟨h0,fun e=>by cases e⟩);·have hl:0<l.length:=rU.2 h0;(have hlt:b<w.heap.size:=by obtain⟨vn,vk,vv,c1,_⟩:=h 0 hl;exact Vn c1);(have hne:I b≠row:=by intro e;rcases hrow with rfl|⟨g,cur,t,fz,rfl,hbg,hgc,ht,ht2⟩;(·cases e);·cases e;rcases hb with hb|⟨cur2,fz2,hb⟩;(·omega);·rw[hb]at hgc;simp only[tA,tZ]at hgc;exact ht2 hgc.2.1.symm);(have hrow':row=G∨∃g cur t fz,row=I g∧base<=g∧w.heap[g]?=I (S cur t fz)∧t≠5:=by rcases hrow with h|⟨g,cur,t,fz,h1,h2,h3,h4,_⟩;(·exact .inl h);·exact .inr ⟨g,cur,t,fz,h1,h2,h3,h4⟩);refine .inr ⟨b,o,rfl,?_,fun i hi=>?_⟩;(·rcases hb with hb|⟨cur,fz,hb⟩;(·exact .inl hb);·exact .inr ⟨cur,fz,by rw[hg.block b hlt hne];exact hb⟩);·obtain⟨vn,vk,vv,c1,c2,c3,c4,h1,h2,h3⟩:=h i hi;exact⟨vn,vk,vv,hg.cell c1 (by simpa using hne),hg.cell c2 (by simpa using hne),hg.cell c3 (by simpa using hne),hg.cell c4 (by simpa using hne),h1.keptT hg hrow',h2.keptT hg hrow',h3.keptT hg hrow'⟩
theorem Xm.grown{base:Nat}{w w':F}{v:H}{l:List Zf}(h:Xm base w v l)(hg:L w w' G):Xm base w' v l:=h.kept hg (.inl rfl)
def JT(w:F)(v:H)(c:Xz):Prop:=∃vs,v=sW #[Y tC c.turn,vs]∧QQ w vs c.writes
theorem JT.grown{w w':F}{v:H}{c:Xz}(h:JT w v c)(hg:L w w' G):JT w' v c:=by
 obtain⟨vs,rfl,h⟩:=h;exact⟨vs,rfl,h.grown hg⟩
theorem JT.agg{w:F}{v:H}{c:Xz}(h:JT w v c):∃a cap,v=sW #[Y tC c.turn,J a c.writes.length cap]:=by
 obtain⟨vs,rfl,h⟩:=h;obtain⟨a,cap,rfl⟩:=h.shape;exact⟨a,cap,rfl⟩
theorem JT.writes{w:F}{c:Xz}{x y:H}(h:JT w (sW #[x,y]) c):x=Y tC c.turn∧QQ w y c.writes:=by
 obtain⟨vs,e,h⟩:=h;injection e with e;injection e with e;injection e with e1 e;injection e with e2 e;exact⟨e1,e2▸h⟩
structure EF(c:Xz):Prop where turn:-9223372036854775808<=c.turn∧c.turn<=9223372036854775807writes:kH c.writes
structure VQ where
  data : List UInt8
  synced : Int
def VU:VQ:=⟨[],0⟩
def KJ(w:F)(v:H)(t:VQ):Prop:=∃vd,v=sW #[vd,Y tC t.synced]∧Qe w vd t.data
theorem KJ.grown{w w':F}{v:H}{t:VQ}(h:KJ w v t)(hg:L w w' G):KJ w' v t:=by
 obtain⟨vd,rfl,h⟩:=h;exact⟨vd,rfl,h.grown hg⟩
theorem KJ.agg{w:F}{v:H}{t:VQ}(h:KJ w v t):∃a cap,v=sW #[J a t.data.length cap,Y tC t.synced]:=by
 obtain⟨vd,rfl,h⟩:=h;obtain⟨a,cap,rfl⟩:=h.shape;exact⟨a,cap,rfl⟩
theorem KJ.data{w:F}{t:VQ}{x y:H}(h:KJ w (sW #[x,y]) t):Qe w x t.data∧y=Y tC t.synced:=by
 obtain⟨vd,e,h⟩:=h;injection e with e;injection e with e;injection e with e1 e;injection e with e2 e;exact⟨e1▸h,e2⟩
structure xC(t:VQ):Prop where data:t.data.length<=140737488355328synced:-9223372036854775808<=t.synced∧t.synced<=9223372036854775807
def Yu(w:F)(v:H)(t:VQ):Prop:=∃vd,v=sW #[vd,Y tC t.synced]∧Qi 0 w vd t.data
theorem Yu.is{w:F}{v:H}{t:VQ}(h:Yu w v t):KJ w v t:=by
 obtain⟨vd,rfl,h⟩:=h;exact⟨vd,rfl,h.slice⟩
theorem VF(w:F):Yu w (sW #[J G 0 0,Y tC 0]) VU:=⟨_,rfl,QK w,.inl rfl⟩
def Gg(t:VQ):Bool:=tR (t.data.length<=200000)&&tR (0<=t.synced∧t.synced<=(t.data.length:Int))
theorem Ko(t:VQ):Gg t=M↔t.data.length<=200000∧0<=t.synced∧t.synced<=(t.data.length:Int):=by
 unfold Gg;rw[rM,decide_eq_true_iff,decide_eq_true_iff]
def F3(c:Xz):List UInt8:=if Q9 c=0then Zi c else[]
def TL(t:VQ):Int:=if Gg t=M then 0 else 6
def Kf(t:VQ):VQ:=if Gg t=M then⟨t.data,(t.data.length:Int)⟩else VU
def Uf(t:VQ)(keep:Int):Int:=if Gg t=M then(if keep<0then 2 else 0)else 6
def Xt(t:VQ)(keep:Int):Nat:=if keep<(t.data.length:Int)-t.synced then(t.synced+keep).toNat else t.data.length
def Xp(t:VQ)(keep:Int):VQ:=if Uf t keep=0then⟨t.data.take (Xt t keep),(Xt t keep:Int)⟩else VU
def Vj(D:List UInt8->List UInt8)(t:VQ)(c:Xz):Int:=if Gg t=M then(if Q9 c=0then(if 200000<t.data.length+(ZC D c).length then 11 else 0)else Q9 c)else 6
def qW(D:List UInt8->List UInt8)(t:VQ)(c:Xz):VQ:=if Vj D t c=0then⟨t.data++ZC D c,t.synced⟩else VU
def Ry(t:VQ):Int:=if Gg t=M then 0 else 6
def xM(D:List UInt8->List UInt8)(t:VQ):List Xz:=if Gg t=M then(Kr D 1 t.data).1 else[]
def zH(D:List UInt8->List UInt8)(t:VQ):VQ:=if Gg t=M then⟨t.data.take (ML D t.data),if t.synced>(ML D t.data:Int)then(ML D t.data:Int)else t.synced⟩else VU
theorem D9{D:List UInt8->List UInt8}(hD:∀x,(D x).length=4){c:Xz}(hc:Q9 c=0):6<=(ZC D c).length∧(ZC D c).length<=600:=by
 have h1:=vZ hD c;have h2:=UO hc;omega
theorem Cy(D:List UInt8->List UInt8)(cs:List Xz)(i:Nat)(h:i<cs.length):Q5 D (cs.take (i+1))=Q5 D (cs.take i)++ZC D (cs.getD i Zl):=by
 rw[sZ h,Vm,vU,show cs[i]=cs.getD i Zl by simp[h]]
theorem cX{D:List UInt8->List UInt8}{t:VQ}(hm:Gg t=M){cs:List Xz}{r:List UInt8}{n:Nat}(h:Kr D 1 t.data=(cs,r))(hn:ML D t.data=n):Ry t=0∧xM D t=cs∧zH D t=⟨t.data.take n,if t.synced>(n:Int)then(n:Int)else t.synced⟩:=by
 refine⟨by rw[Ry,if_pos hm],by rw[xM,if_pos hm,h],by rw[zH,if_pos hm,hn]⟩
theorem Iq{D:List UInt8->List UInt8}(hD:∀x,(D x).length=4){cs:List Xz}(h:G9 1 cs)(k:Nat)(s:Int)(hk:k<=(Q5 D cs).length)(hs:0<=s∧s<=(k:Int))(hl:(Q5 D cs).length<=200000):∃j,j<=cs.length∧(Q5 D (cs.take j)).length<=k∧(j<cs.length->k<(Q5 D (cs.take (j+1))).length)∧Ry ⟨(Q5 D cs).take k,s⟩=0∧xM D ⟨(Q5 D cs).take k,s⟩=cs.take j∧zH D ⟨(Q5 D cs).take k,s⟩=⟨Q5 D (cs.take j),if s>((Q5 D (cs.take j)).length:Int)then((Q5 D (cs.take j)).length:Int)else s⟩:=by
 obtain⟨j,h1,h2,h3,h4,h5⟩:=D7 hD h k;have hkl:((Q5 D cs).take k).length=k:=by simp;omega
 have hm:Gg ⟨(Q5 D cs).take k,s⟩=M:=(Ko _).2 ⟨by show((Q5 D cs).take k).length<=_;omega,by show 0<=s∧s<=(((Q5 D cs).take k).length:Int);omega⟩;have hn:ML D ((Q5 D cs).take k)=(Q5 D (cs.take j)).length:=by rw[ML,h2,hkl];show k-(((Q5 D cs).take k).drop _).length=_;rw[pY,hkl];omega
 obtain⟨a,b,c⟩:=cX hm h2 hn;refine⟨j,h1,h3,h5,a,b,?_⟩;rw[c];have e:((Q5 D cs).take k).take (Q5 D (cs.take j)).length=Q5 D (cs.take j):=by rw[pN,r8 h3];(conv=>lhs;rw[<-pB j cs,Vm]);rw[show(cs.take j++cs.drop j).take j=cs.take j by rw[pB]];exact List.take_left' rfl
 show(⟨((Q5 D cs).take k).take _,_⟩:VQ)=_;rw[e]
def WX:FL->Nat->List Xz->Int|_,_,[]=>0|f,i,c::cs=>if Q9 c=0then(if c.turn=((i+1:Nat):Int)then(if QZ f c.writes=0then WX (Xs f c.writes) (i+1) cs else QZ f c.writes)else 3)else Q9 c
def GJ:FL->List Xz->FL|f,[]=>f|f,c::cs=>GJ (Xs f c.writes) cs
theorem uV:∀(a b:List Xz)(f:FL),GJ f (a++b)=GJ (GJ f a) b|[],_,_=>rfl|_::a,b,_=>uV a b _
theorem BM(cs:List Xz)(f:FL)(c:Xz):GJ f (cs++[c])=Xs (GJ f cs) c.writes:=by
 rw[uV];rfl
def uI:FL->Nat->List Xz->Prop|_,_,[]=>True|f,i,c::cs=>Q9 c=0∧c.turn=((i+1:Nat):Int)∧QZ f c.writes=0∧uI (Xs f c.writes) (i+1) cs
theorem uI.take:∀{cs:List Xz}{f:FL}{i:Nat}(_:uI f i cs)(j:Nat),uI f i (cs.take j)|[],_,_,_,j=>by rw[List.take_nil];trivial|_::_,_,_,_,0=>trivial|_::_,_,_,h,j+1=>⟨h.1,h.2.1,h.2.2.1,uI.take h.2.2.2 j⟩
theorem uI.at:∀{cs:List Xz}{f:FL}{i:Nat}(_:uI f i cs)(j:Nat)(_:j<cs.length),Q9 (cs.getD j Zl)=0∧(cs.getD j Zl).turn=((i+j+1:Nat):Int)∧QZ (GJ f (cs.take j)) (cs.getD j Zl).writes=0|[],_,_,_,j,hj=>by simp at hj|c::cs,f,i,h,0,_=>⟨h.1,h.2.1,h.2.2.1⟩|c::cs,f,i,h,j+1,hj=>by have:=uI.at h.2.2.2 j (by simpa using hj);rw[show i+(j+1)+1=i+1+j+1by omega];simpa[GJ]using this
theorem Fa{l:FL}(h:Xn l)(ws:List Zf):Xn (Xs l ws):=by
 unfold Xs;by_cases h0:QZ l ws=0;·rw[if_pos h0];unfold QZ at h0;rw[if_pos ((XY l).2 h)]at h0;by_cases h10:10<ws.length;(·rw[if_pos h10]at h0;omega);·rw[if_neg h10]at h0;exact uL ws l h h0
 ·rw[if_neg h0];exact GU
theorem uD:∀(cs:List Xz)(f:FL),Xn f->Xn (GJ f cs)|[],_,h=>h|c::cs,_,h=>uD cs _ (Fa h c.writes)
def ZG(n t:Int):Bool:=tR (0<=t∧t<=n∧n-t<6)
def Tu(a b:Zf):Prop:=a.name=b.name∧a.key=b.key
def EB(l:List Zf):Prop:=l.Pairwise fun a b=>¬Tu a b
def XC(a b:Rd):Bool:=a.wide==b.wide&&(tR (a.name=b.name)&&(tR (a.key=b.key)&&tR (a.last=b.last)))
theorem GY(a b:Rd):XC a b=M↔a=b:=by
 obtain⟨n,k,w,l⟩:=a;obtain⟨n2,k2,w2,l2⟩:=b;simp only[XC,rM,decide_eq_true_iff,beq_iff_eq,Rd.mk.injEq];exact⟨fun⟨h1,h2,h3,h4⟩=>⟨h2,h3,h1,h4⟩,fun⟨h1,h2,h3,h4⟩=>⟨h3,h1,h2,h4⟩⟩
def ZN(a b:Zf):Bool:=tR (a.name=b.name)&&tR (a.key=b.key)
theorem G8(a b:Zf):ZN a b=M↔Tu a b:=by
 simp only[ZN,rM,decide_eq_true_iff];exact Iff.rfl
def Gx:List Rd->List Rd->Int|_,[]=>0|p,r::rs=>if XA r=0then(if p.any (fun q=>XC q r)=M then 3 else Gx (p++[r]) rs)else XA r
def zZ:List Zf->List Zf->Int|_,[]=>0|p,w::ws=>if QA w=0then(if p.any (fun q=>ZN q w)=M then 3 else zZ (p++[w]) ws)else QA w
theorem FX:∀(rs p:List Rd),Gx p rs=0↔(∀r∈rs,XA r=0)∧(∀r∈rs,r∉p)∧rs.Nodup|[],p=>by simp[Gx]|r::rs,p=>by have ih:=FX rs (p++[r]);rw[Gx];by_cases h1:XA r=0;(·rw[if_pos h1];by_cases h2:p.any (fun q=>XC q r)=M;(·rw[if_pos h2];refine⟨fun h=>by omega,fun h=>?_⟩;obtain⟨q,hq,he⟩:=rD.1 h2;rw[(GY q r).1 he]at hq;exact absurd hq (h.2.1 r (tQ ..)));·rw[if_neg h2,ih];have hr:r∉p:=fun hm=>h2 (rD.2 ⟨r,hm,(GY r r).2 rfl⟩);constructor;(·rintro⟨a,b,c⟩;refine⟨fun x hx=>?_,fun x hx=>?_,oD.2 ⟨fun hm=>b r hm (by simp),c⟩⟩;(·rcases tK.1 hx with rfl|hx;(·exact h1);·exact a x hx);·rcases tK.1 hx with rfl|hx;(·exact hr);·exact fun hm=>b x hx (sB.2 (.inl hm)));·rintro⟨a,b,c⟩;have c':=oD.1 c;refine⟨fun x hx=>a x (tN _ hx),fun x hx hm=>?_,c'.2⟩;rcases sB.1 hm with hm|hm;(·exact b x (tN _ hx) hm);·simp only[tK,tS,or_false]at hm;subst hm;exact c'.1 hx);·rw[if_neg h1];exact⟨fun h=>absurd h h1,fun h=>absurd (h.1 r (tQ ..)) h1⟩
theorem Mw:∀(ws p:List Zf),zZ p ws=0↔(∀w∈ws,QA w=0)∧(∀w∈ws,∀q∈p,¬Tu q w)∧EB ws|[],p=>by simp[zZ,EB]|w::ws,p=>by have ih:=Mw ws (p++[w]);rw[zZ];by_cases h1:QA w=0;(·rw[if_pos h1];by_cases h2:p.any (fun q=>ZN q w)=M;(·rw[if_pos h2];refine⟨fun h=>by omega,fun h=>?_⟩;obtain⟨q,hq,he⟩:=rD.1 h2;exact absurd ((G8 q w).1 he) (h.2.1 w (tQ ..) q hq));·rw[if_neg h2,ih];have hr:∀q∈p,¬Tu q w:=fun q hm e=>h2 (rD.2 ⟨q,hm,(G8 q w).2 e⟩);constructor;(·rintro⟨a,b,c⟩;refine⟨fun x hx=>?_,fun x hx q hq=>?_,rB.2 ⟨fun x hx=>b x hx w (by simp),c⟩⟩;(·rcases tK.1 hx with rfl|hx;(·exact h1);·exact a x hx);·rcases tK.1 hx with rfl|hx;(·exact hr q hq);·exact b x hx q (sB.2 (.inl hq)));·rintro⟨a,b,c⟩;have c':=rB.1 c;refine⟨fun x hx=>a x (tN _ hx),fun x hx q hm=>?_,c'.2⟩;rcases sB.1 hm with hm|hm;(·exact b x (tN _ hx) q hm);·simp only[tK,tS,or_false]at hm;subst hm;exact c'.1 x hx);·rw[if_neg h1];exact⟨fun h=>absurd h h1,fun h=>absurd (h.1 w (tQ ..)) h1⟩
structure Tx where
  start : Int
  reads : List Rd
  writes : List Zf
def P9:Tx:=⟨0,[],[]⟩
def V1(t:Tx):Int:=if 0<=t.start∧t.start<=1048576then(if 20<t.reads.length∨10<t.writes.length then 1 else(if Gx [] t.reads=0then zZ [] t.writes else Gx [] t.reads))else 2
structure GQ (t : Tx) : Prop where
  start : 0 <= t.start ∧ t.start <= 1048576
  reads : t.reads.length <= 20
  writes : t.writes.length <= 10
  each : ∀ r ∈ t.reads, XA r = 0
  once : t.reads.Nodup
  wrs : ∀ w ∈ t.writes, QA w = 0
  apart : EB t.writes
theorem j8(t:Tx):V1 t=0↔GQ t:=by
 unfold V1;by_cases h1:0<=t.start∧t.start<=1048576;·rw[if_pos h1];by_cases h2:20<t.reads.length∨10<t.writes.length;(·rw[if_pos h2];exact⟨fun h=>by omega,fun h=>by have:=h.reads;have:=h.writes;omega⟩);·rw[if_neg h2];by_cases h3:Gx [] t.reads=0;(·rw[if_pos h3,Mw];have h3':=(FX _ _).1 h3;exact⟨fun h=>⟨h1,by omega,by omega,h3'.1,h3'.2.2,h.1,h.2.2⟩,fun h=>⟨h.wrs,fun _ _ _ hq=>by simp at hq,h.apart⟩⟩);·rw[if_neg h3];exact⟨fun h=>absurd h h3,fun h=>absurd ((FX _ _).2 ⟨h.each,fun _ _ hq=>by simp at hq,h.once⟩) h3⟩
 ·rw[if_neg h1];exact⟨fun h=>by omega,fun h=>absurd h.start h1⟩
def Rx(t:Tx)(r:Rd):Bool:=t.reads.any (fun q=>XC q r)
theorem Ia(t:Tx)(r:Rd):Rx t r=M↔r∈t.reads:=by
 unfold Rx;rw[rD];exact⟨fun⟨q,hq,e⟩=>(GY q r).1 e▸hq,fun h=>⟨r,h,(GY r r).2 rfl⟩⟩
def Xe(t:Tx)(r:Rd):Int:=if V1 t=0then(if XA r=0then(if Rx t r=M then 0 else(if t.reads.length=20then 11 else 0))else XA r)else V1 t
def XN(t:Tx)(r:Rd):Tx:=if Xe t r=0then(if Rx t r=M then t else⟨t.start,t.reads++[r],t.writes⟩)else P9
theorem bQ{t:Tx}(h:GQ t){r:Rd}(hr:XA r=0):Xe t r=if Rx t r=M then 0 else(if t.reads.length=20then 11 else 0):=by
 rw[Xe,if_pos ((j8 t).2 h),if_pos hr]
theorem aR{t:Tx}(h:GQ t){r:Rd}(hr:XA r=0)(he:Xe t r=0):GQ (XN t r):=by
 rw[XN,if_pos he];by_cases hh:Rx t r=M;·rw[if_pos hh];exact h
 ·rw[if_neg hh];rw[bQ h hr,if_neg hh]at he;have hm:r∉t.reads:=fun e=>hh ((Ia t r).2 e);(have h20:t.reads.length≠20:=fun e=>by rw[if_pos e]at he;omega);refine⟨h.start,?_,h.writes,fun x hx=>?_,?_,h.wrs,h.apart⟩;(·have:=h.reads;simp;omega);(·rcases sB.1 hx with hx|hx;(·exact h.each x hx);·simp only[tK,tS,or_false]at hx;rw[hx];exact hr);·rw[pV];refine⟨h.once,by simp,fun a ha b hb e=>?_⟩;simp only[tK,tS,or_false]at hb;subst hb;subst e;exact hm ha
def P7(l:List Zf)(w:Zf):Bool:=l.any (fun q=>ZN q w)
def zG:List Zf->Zf->List Zf|[],w=>[w]|a::l,w=>if ZN a w=M then w::l else a::zG l w
def Xg(t:Tx)(w:Zf):Int:=if V1 t=0then(if QA w=0then(if P7 t.writes w=M then 0 else(if t.writes.length=10then 11 else 0))else QA w)else V1 t
def Yb(t:Tx)(w:Zf):Tx:=if Xg t w=0then⟨t.start,t.reads,zG t.writes w⟩else P9
theorem M2:∀(l:List Zf)(w:Zf),(zG l w).length=if P7 l w=M then l.length else l.length+1|[],w=>rfl|a::l,w=>by rw[zG,P7,pG];by_cases h:ZN a w=M;(·rw[if_pos h,h];rfl);·rw[if_neg h,sC,M2 l w];(have hf:ZN a w=N:=by simpa using h);rw[hf,pP];show _=if P7 l w=M then _ else _;by_cases h2:P7 l w=M;(·rw[if_pos h2,if_pos h2];rfl);·rw[if_neg h2,if_neg h2];rfl
theorem F7:∀(l:List Zf)(w x:Zf),x∈zG l w->x=w∨x∈l|[],w,x,h=>by simpa[zG]using h|a::l,w,x,h=>by rw[zG]at h;by_cases h1:ZN a w=M;(·rw[if_pos h1]at h;rcases tK.1 h with h|h;(·exact .inl h);·exact .inr (tN _ h));·rw[if_neg h1]at h;rcases tK.1 h with h|h;(·exact .inr (by rw[h];exact tQ ..));·exact(F7 l w x h).elim .inl fun h=>.inr (tN _ h)
theorem M4{a b c:Zf}(h:Tu a b)(k:Tu b c):Tu a c:=⟨h.1.trans k.1,h.2.trans k.2⟩
theorem FP:∀(l:List Zf)(w:Zf),EB l->EB (zG l w)|[],w,_=>List.pairwise_singleton ..|a::l,w,h=>by have h':=rB.1 h;rw[zG];by_cases h1:ZN a w=M;(·rw[if_pos h1];exact rB.2 ⟨fun x hx e=>h'.1 x hx (M4 ((G8 a w).1 h1) e),h'.2⟩);·rw[if_neg h1];refine rB.2 ⟨fun x hx e=>?_,FP l w h'.2⟩;rcases F7 l w x hx with rfl|hx;(·exact h1 ((G8 _ _).2 e));·exact h'.1 x hx e
theorem Il{t:Tx}(h:GQ t){w:Zf}(hw:QA w=0):Xg t w=if P7 t.writes w=M then 0 else(if t.writes.length=10then 11 else 0):=by
 rw[Xg,if_pos ((j8 t).2 h),if_pos hw]
theorem Ou{t:Tx}(h:GQ t){w:Zf}(hw:QA w=0)(he:Xg t w=0):GQ (Yb t w):=by
 rw[Yb,if_pos he];rw[Il h hw]at he;refine⟨h.start,h.reads,?_,h.each,h.once,fun x hx=>?_,FP _ _ h.apart⟩;·show(zG t.writes w).length<=10;rw[M2];have:=h.writes;by_cases hh:P7 t.writes w=M;(·rw[if_pos hh];exact this);·rw[if_neg hh]at he⊢;(have h10:t.writes.length≠10:=fun e=>by rw[if_pos e]at he;omega);omega
 ·rcases F7 _ _ _ hx with rfl|hx;(·exact hw);·exact h.wrs x hx
def eP(l:List Zf)(n k:List UInt8):Option Zf:=l.find? fun q=>tR (q.name=n)&&tR (q.key=k)
theorem W9{l:List Zf}{n k:List UInt8}{w:Zf}(h:eP l n k=I w):w∈l∧w.name=n∧w.key=k:=by
 refine⟨List.mem_of_find?_eq_some h,?_⟩;have:=List.find?_some h;simpa using this
def fL(a b k:List UInt8):Bool:=!YF k a&&!YF b k
def KP(n a b:List UInt8)(l:PL)(w:Zf):PL:=if w.name=n∧fL a b w.key=M then(if w.gone=M then jJ l w.key else J5 l (w.key,w.value))else l
def Ak(n a b:List UInt8):PL->List Zf->PL|l,[]=>l|l,w::ws=>Ak n a b (KP n a b l w) ws
def jY(n a b:List UInt8):PL->List Zf->Int|_,[]=>0|l,w::ws=>if 60<(KP n a b l w).length then 11 else jY n a b (KP n a b l w) ws
def XO(r:Rd)(w:Zf):Bool:=tR (r.name=w.name)&&(if r.wide=M then fL r.key r.last w.key else tR (r.key=w.key))
def gC(t:Tx)(ws:List Zf):Bool:=ws.any fun w=>t.reads.any fun r=>XO r w
def Is(t:Tx)(l:List Xz):Bool:=l.any fun c=>tR (t.start<c.turn)&&gC t c.writes
def FY(t:Tx):Int:=V1 t
def Ux(t:Tx)(l:List Xz):Bool:=if V1 t=0then Is t l else N
def qZ(l:FL)(t:Tx):Int:=if Q7 l=0then V1 t else Q7 l
def Kj(l:FL)(t:Tx)(n k:List UInt8):Int:=if qZ l t=0then(if Qt n.length=0then Qp k.length else Qt n.length)else qZ l t
def Vw(l:FL)(t:Tx)(n k:List UInt8):Bool:=if Kj l t n k=0then(eP t.writes n k).isSome else N
def UX(l:FL)(t:Tx)(n k:List UInt8):Bool:=if Kj l t n k=0then(match eP t.writes n k with|I w=>!w.gone|none=>UU l n k)else N
def UK(l:FL)(t:Tx)(n k:List UInt8):List UInt8:=if Kj l t n k=0then(match eP t.writes n k with|I w=>w.value|none=>UW l n k)else[]
theorem AM{l:FL}{t:Tx}(hl:Xn l)(ht:GQ t){n k:List UInt8}(hn:1<=n.length∧n.length<=8)(hk:1<=k.length∧k.length<=16):Kj l t n k=0:=by
 rw[Kj,qZ,if_pos ((XY l).2 hl),if_pos ((j8 t).2 ht),if_pos ((Zw _).2 hn),(Zt _).2 hk]
def Kl(l:FL)(t:Tx)(n a b:List UInt8):Int:=if qZ l t=0then(if Qt n.length=0then(if Qp a.length=0then(if Qp b.length=0then jY n a b (UZ (Jb l n) a b) t.writes else Qp b.length)else Qp a.length)else Qt n.length)else qZ l t
def VH(l:FL)(t:Tx)(n a b:List UInt8):PL:=if Kl l t n a b=0then Ak n a b (UZ (Jb l n) a b) t.writes else[]
structure Rp where
  sess : Int
  code : Int
  turn : Int
  found : Bool
  value : List UInt8
  pairs : PL
  pf : Option (FL × List UInt8 × List UInt8)
def VN(s:Nat)(e:Int):Rp:=⟨(s:Int),e,0,N,[],[],G⟩
def IE(s:Nat)(t:Int):Rp:=⟨(s:Int),0,t,N,[],[],G⟩
structure Sv where
  up : Bool
  tape : VQ
  commits : List Xz
  synced : Nat
  begun : Nat -> Bool
  waits : Nat -> Bool
  txns : Nat -> Tx
  queue : List Nat
  out : List Rp
def Um{α:Type}(f:Nat->α)(i:Nat)(x:α):Nat->α:=fun j=>if j=i then x else f j
theorem ZI{α:Type}(f:Nat->α)(i:Nat)(x:α):Um f i x i=x:=by
 simp[Um]
theorem Zk{α:Type}(f:Nat->α){i j:Nat}(x:α)(h:j≠i):Um f i x j=f j:=by
 simp[Um,h]
def VS(up:Bool)(t:VQ)(cs:List Xz)(o:List Rp):Sv:=⟨up,t,cs,cs.length,fun _=>N,fun _=>N,fun _=>P9,[],o⟩
def LD:Sv:=VS M VU [] []
def ZJ(v:Sv)(r:Rp):Sv:={v with out:=v.out++[r]}
def QH(v:Sv)(n:Nat):FL:=GJ [] (v.commits.take n)
def Uo(v:Sv)(s:Nat)(x:Rd)(o:Rp):Sv:=if Xe (v.txns s) x=0then ZJ {v with txns:=Um v.txns s (XN (v.txns s) x)} o else ZJ v (VN s (Xe (v.txns s) x))
def VK(v:Sv)(s:Nat)(w:Zf):Sv:=ZJ (if Xg (v.txns s) w=0then{v with txns:=Um v.txns s (Yb (v.txns s) w)}else v) (VN s (Xg (v.txns s) w))
def Nb(v:Sv)(s:Nat)(r:Rq):Sv:=if Vw (QH v (v.txns s).start.toNat) (v.txns s) r.name r.key=M then ZJ v ⟨(s:Int),0,(v.txns s).start,UX (QH v (v.txns s).start.toNat) (v.txns s) r.name r.key,UK (QH v (v.txns s).start.toNat) (v.txns s) r.name r.key,[],G⟩else Uo v s (Zr r) ⟨(s:Int),0,(v.txns s).start,UX (QH v (v.txns s).start.toNat) (v.txns s) r.name r.key,UK (QH v (v.txns s).start.toNat) (v.txns s) r.name r.key,[],G⟩
def uP(v:Sv)(s:Nat)(r:Rq):Sv:=if Kl (QH v (v.txns s).start.toNat) (v.txns s) r.name r.key r.last=0then Uo v s (Zr r) ⟨(s:Int),0,(v.txns s).start,N,[],VH (QH v (v.txns s).start.toNat) (v.txns s) r.name r.key r.last,G⟩else ZJ v (VN s (Kl (QH v (v.txns s).start.toNat) (v.txns s) r.name r.key r.last))
def yT(v:Sv)(s:Nat)(r:Rq):Sv:=if r.kind=4∨r.kind=5then VK v s (Xi r)else if r.kind=2then Nb v s r else uP v s r
def Jg(v:Sv)(s:Nat):Xz:=⟨((v.commits.length+1:Nat):Int),(v.txns s).writes⟩
def XF(v:Sv)(s:Nat):Sv:={v with begun:=Um v.begun s N}
def JC(D:List UInt8->List UInt8)(v:Sv)(s:Nat):Sv:=if(v.txns s).writes.length=0then ZJ (XF v s) (IE s (v.txns s).start)else if v.queue.length=6∨v.commits.length=300then ZJ v (VN s 11)else if Ux (v.txns s) v.commits=M then ZJ (XF v s) (VN s 9)else if QZ (QH v v.commits.length) (v.txns s).writes≠0then ZJ (XF v s) (VN s (QZ (QH v v.commits.length) (v.txns s).writes))else if Vj D v.tape (Jg v s)≠0then ZJ (XF v s) (VN s (Vj D v.tape (Jg v s)))else{XF v s with tape:=qW D v.tape (Jg v s),commits:=v.commits++[Jg v s],queue:=v.queue++[s],waits:=Um v.waits s M}
def Ew(v:Sv)(s:Nat)(r:Rq):Sv:=ZJ v ⟨(s:Int),0,(v.synced:Int),UU (QH v v.synced) r.name r.key,UW (QH v v.synced) r.name r.key,[],I (QH v v.synced,r.name,r.key)⟩
def QG(v:Sv)(s:Nat)(r:Rq):Bool:=v.waits s||(if r.kind=1then v.begun s else !v.begun s)
def Y6(D:List UInt8->List UInt8)(v:Sv)(s:Nat)(r:Rq):Sv:=if r.kind=8then Ew v s r else if QG v s r=M then ZJ v (VN s 6)else if r.kind=1then ZJ {v with begun:=Um v.begun s M,txns:=Um v.txns s ⟨(v.synced:Int),[],[]⟩} (IE s (v.synced:Int))else if r.kind=7then ZJ (XF v s) (VN s 0)else if ZG (v.synced:Int) (v.txns s).start=N then ZJ (XF v s) (VN s 10)else if r.kind=6then JC D v s else yT v s r
def Z5(D:List UInt8->List UInt8)(v:Sv)(s:Nat)(data:List UInt8):Sv:=if v.up=N then ZJ v (VN s 13)else if QI data=0then Y6 D v s (Qu data)else ZJ v (VN s (QI data))
def JF:Nat->List Nat->List Rp|_,[]=>[]|n,s::q=>IE s ((n+1:Nat):Int)::JF (n+1) q
def Ut(f:Nat->Bool)(q:List Nat):Nat->Bool:=fun j=>if j∈q then N else f j
def U5(v:Sv):Sv:={v with tape:=Kf v.tape,synced:=v.synced+v.queue.length,waits:=Ut v.waits v.queue,queue:=[],out:=v.out++JF v.synced v.queue}
def KN(D:List UInt8->List UInt8)(v:Sv)(k:Int):Sv:=VS N (zH D (Xp v.tape k)) (xM D (Xp v.tape k)) v.out
def Zg(D:List UInt8->List UInt8)(v:Sv)(a:Ac):Sv:=if a.kind=1then Z5 D v a.sess.toNat a.data else if a.kind=2then(if v.up=M then U5 v else v)else if a.kind=3then(if v.up=M then KN D v a.keep else v)else{v with up:=M}
def U3(D:List UInt8->List UInt8)(l:List Ac):Sv:=l.foldl (Zg D) LD
theorem Lg(D:List UInt8->List UInt8)(l:List Ac)(a:Ac):U3 D (l++[a])=Zg D (U3 D l) a:=by
 simp[U3]
theorem MX(D:List UInt8->List UInt8)(l k:List Ac):U3 D (l++k)=k.foldl (Zg D) (U3 D l):=by
 simp[U3]
def GI(l:List Ac):Int:=VY l
structure Oc where
  up : Bool
  turn : Int
  pending : Int
  forest : FL
  replies : List Rp
def jX(v:Sv):Oc:=⟨v.up,(v.synced:Int),(v.queue.length:Int),QH v v.synced,v.out⟩
def L6:Oc:=⟨N,0,0,[],[]⟩
def zX(D:List UInt8->List UInt8)(l:List Ac):Oc:=if GI l=0then jX (U3 D l)else L6
section
theorem Eh:∀{cs:List Xz}{f:FL}{i:Nat},uI f i cs->G9 (i+1) cs|[],_,_,_=>trivial|_::_,_,_,h=>⟨by rw[h.2.1],h.1,Eh h.2.2.2⟩
theorem Ez:∀{cs:List Xz}{f:FL}{i:Nat}{c:Xz},uI f i cs->Q9 c=0->c.turn=((i+cs.length+1:Nat):Int)->QZ (GJ f cs) c.writes=0->uI f i (cs++[c])|[],_,_,_,_,h1,h2,h3=>⟨h1,by rw[h2];rfl,h3,trivial⟩|d::cs,f,i,c,h,h1,h2,h3=>⟨h.1,h.2.1,h.2.2.1,Ez h.2.2.2 h1 (by rw[h2,sC];congr 1;omega) h3⟩
structure Za (D : List UInt8 -> List UInt8) (v : Sv) : Prop where
  goes : uI [] 0 v.commits
  many : v.commits.length <= 300
  data : v.tape.data = Q5 D v.commits
  mark : v.tape.synced = ((Q5 D (v.commits.take v.synced)).length : Int)
  room : v.tape.data.length <= 200000
  turn : v.synced + v.queue.length = v.commits.length
  few : v.queue.length <= 6
  wait : ∀ s, v.waits s = M ↔ s ∈ v.queue
  once : v.queue.Nodup
  tx : ∀ s, v.begun s = M -> GQ (v.txns s) ∧ (v.txns s).start <= (v.synced : Int)
  idle : ∀ s, v.waits s = M -> v.begun s = N
  down : v.up = N -> v.queue = [] ∧ ∀ s, v.begun s = N
variable{D:List UInt8->List UInt8}{v:Sv}
theorem Za.tell(h:Za D v)(r:Rp):Za D (ZJ v r):=⟨h.goes,h.many,h.data,h.mark,h.room,h.turn,h.few,h.wait,h.once,h.tx,h.idle,h.down⟩
theorem Ec{f:Nat->Bool}{s j:Nat}(h:Um f s N j=M):j≠s∧f j=M:=by
 by_cases e:j=s;·rw[e,ZI]at h;cases h
 ·exact⟨e,by rwa[Zk f _ e]at h⟩
theorem Za.end(h:Za D v)(s:Nat):Za D (XF v s):=by
 refine⟨h.goes,h.many,h.data,h.mark,h.room,h.turn,h.few,h.wait,h.once,fun j hj=>h.tx j (Ec hj).2,fun j hj=>?_,fun hu=>⟨(h.down hu).1,fun j=>?_⟩⟩;·show Um v.begun s N j=N;by_cases e:j=s;(·rw[e,ZI]);·rw[Zk _ _ e];exact h.idle j hj
 ·show Um v.begun s N j=N;by_cases e:j=s;(·rw[e,ZI]);·rw[Zk _ _ e];exact(h.down hu).2 j
theorem Za.txn(h:Za D v){s:Nat}{t:Tx}(ht:GQ t)(hs:t.start<=(v.synced:Int)):Za D {v with txns:=Um v.txns s t}:=by
 refine⟨h.goes,h.many,h.data,h.mark,h.room,h.turn,h.few,h.wait,h.once,fun j hj=>?_,h.idle,h.down⟩;show GQ (Um v.txns s t j)∧(Um v.txns s t j).start<=_;by_cases e:j=s;·rw[e,ZI];exact⟨ht,hs⟩
 ·rw[Zk _ _ e];exact h.tx j hj
theorem Za.may(h:Za D v):Gg v.tape=M:=by
 refine(Ko _).2 ⟨h.room,?_⟩;rw[h.mark,h.data];have:=UI D v.commits v.synced v.commits.length (by have:=h.turn;omega);rw[sF]at this;omega
theorem qE{t:Tx}{r:Rd}(h:Xe t r=0):(XN t r).start=t.start:=by
 rw[XN,if_pos h];split<;>rfl
theorem Dw{t:Tx}{w:Zf}(h:Xg t w=0):(Yb t w).start=t.start:=by
 rw[Yb,if_pos h]
theorem Za.note(h:Za D v){s:Nat}(hb:v.begun s=M){x:Rd}(hx:XA x=0)(o:Rp):Za D (Uo v s x o):=by
 obtain⟨h1,h2⟩:=h.tx s hb;unfold Uo;by_cases e:Xe (v.txns s) x=0;·rw[if_pos e];exact(h.txn (aR h1 hx e) (by rw[qE e];exact h2)).tell _
 ·rw[if_neg e];exact h.tell _
theorem Za.write(h:Za D v){s:Nat}(hb:v.begun s=M){w:Zf}(hw:QA w=0):Za D (VK v s w):=by
 obtain⟨h1,h2⟩:=h.tx s hb;unfold VK;by_cases e:Xg (v.txns s) w=0;·rw[if_pos e];exact(h.txn (Ou h1 hw e) (by rw[Dw e];exact h2)).tell _
 ·rw[if_neg e];exact h.tell _
theorem kB{r:Rq}(h:Ye r)(hk:r.kind=2∨r.kind=3):XA (Zr r)=0:=IW (by
 rw[(Eg h).1,if_pos hk])
theorem Lm{r:Rq}(h:Ye r)(hk:r.kind=4∨r.kind=5):QA (Xi r)=0:=vJ (by
 rw[(Eg h).2,if_pos hk])
theorem Za.work(h:Za D v){s:Nat}(hb:v.begun s=M){r:Rq}(hr:Ye r)(hk:2<=r.kind∧r.kind<=5):Za D (yT v s r):=by
 unfold yT;by_cases h1:r.kind=4∨r.kind=5;·rw[if_pos h1];exact h.write hb (Lm hr h1)
 ·rw[if_neg h1];by_cases h2:r.kind=2;(·rw[if_pos h2];unfold Nb;split;(·exact h.tell _);·exact h.note hb (kB hr (.inl h2)) _);·rw[if_neg h2];unfold uP;split;(·exact h.note hb (kB hr (.inr (by omega))) _);·exact h.tell _
theorem Dp{t:Tx}(ht:GQ t)(hw:¬t.writes.length=0)(n:Nat)(hn:n<=300):Q9 ⟨((n+1:Nat):Int),t.writes⟩=0:=(KH _).2 ⟨by
 show(1:Int)<=((n+1:Nat):Int)∧((n+1:Nat):Int)<=1048576;omega,⟨by
 show 1<=t.writes.length;omega,ht.writes⟩,ht.wrs⟩
theorem D5(h:Za D v){s:Nat}(hb:v.begun s=M)(h1:¬(v.txns s).writes.length=0)(h2:¬(v.queue.length=6∨v.commits.length=300))(h4:QZ (QH v v.commits.length) (v.txns s).writes=0)(h5:Vj D v.tape (Jg v s)=0):Za D {XF v s with tape:=qW D v.tape (Jg v s),commits:=v.commits++[Jg v s],queue:=v.queue++[s],waits:=Um v.waits s M}:=by
 obtain⟨ht,hst⟩:=h.tx s hb;have hm:=h.many;have hc:Q9 (Jg v s)=0:=Dp ht h1 _ hm;have hmay:=h.may;have hroom:v.tape.data.length+(ZC D (Jg v s)).length<=200000:=by rw[Vj,if_pos hmay,if_pos hc]at h5;by_cases e:200000<v.tape.data.length+(ZC D (Jg v s)).length;(·rw[if_pos e]at h5;exact absurd h5 (by decide));·omega
 have hT:qW D v.tape (Jg v s)=⟨v.tape.data++ZC D (Jg v s),v.tape.synced⟩:=by rw[qW,if_pos h5]
 have hnw:v.waits s≠M:=fun e=>by have:=h.idle s e;rw[hb]at this;cases this
 have hnq:s∉v.queue:=fun e=>hnw ((h.wait s).2 e);have hup:v.up=M:=by cases hu:v.up with|true=>rfl|false=>have:=(h.down hu).2 s;rw[hb]at this;cases this
 have htn:=h.turn;rw[hT];refine⟨?_,?_,?_,?_,?_,?_,?_,?_,?_,?_,?_,?_⟩;·refine Ez h.goes hc (by show((v.commits.length+1:Nat):Int)=_;congr 1;omega) ?_;rw[QH,sF]at h4;exact h4
 ·show(v.commits++[Jg v s]).length<=300;rw[tB,sD];omega
 ·show v.tape.data++ZC D (Jg v s)=Q5 D (v.commits++[Jg v s]);rw[Vm,vU,h.data]
 ·show v.tape.synced=((Q5 D ((v.commits++[Jg v s]).take v.synced)).length:Int);rw[List.take_append_of_le_length (by omega)];exact h.mark
 ·show(v.tape.data++ZC D (Jg v s)).length<=200000;rw[tB];exact hroom
 ·show v.synced+(v.queue++[s]).length=(v.commits++[Jg v s]).length;rw[tB,tB,sD,sD];omega
 ·show(v.queue++[s]).length<=6;have:=h.few;rw[tB,sD];omega
 ·intro j;show Um v.waits s M j=M↔j∈v.queue++[s];by_cases e:j=s;(·rw[e,ZI];simp);·rw[Zk _ _ e,h.wait j];simp[e]
 ·show(v.queue++[s]).Nodup;rw[pV];exact⟨h.once,by simp,fun a ha b hb e=>hnq (by simp at hb;rw[<-hb,<-e];exact ha)⟩
 ·intro j hj;exact h.tx j (Ec hj).2
 ·intro j hj;show Um v.begun s N j=N;by_cases e:j=s;(·rw[e,ZI]);·rw[Zk _ _ e];exact h.idle j (by have:Um v.waits s M j=M:=hj;rwa[Zk _ _ e]at this)
 ·intro hu;have:v.up=N:=hu;rw[hup]at this;cases this
theorem Za.commit(h:Za D v){s:Nat}(hb:v.begun s=M):Za D (JC D v s):=by
 unfold JC;by_cases h1:(v.txns s).writes.length=0;·rw[if_pos h1];exact(h.end s).tell _
 ·rw[if_neg h1];by_cases h2:v.queue.length=6∨v.commits.length=300;(·rw[if_pos h2];exact h.tell _);·rw[if_neg h2];by_cases h3:Ux (v.txns s) v.commits=M;(·rw[if_pos h3];exact(h.end s).tell _);·rw[if_neg h3];by_cases h4:QZ (QH v v.commits.length) (v.txns s).writes≠0;(·rw[if_pos h4];exact(h.end s).tell _);·rw[if_neg h4];by_cases h5:Vj D v.tape (Jg v s)≠0;(·rw[if_pos h5];exact(h.end s).tell _);·rw[if_neg h5];exact D5 h hb h1 h2 (sV h4) (sV h5)
theorem Za.req(h:Za D v)(hup:v.up=M)(s:Nat){r:Rq}(hr:Ye r):Za D (Y6 D v s r):=by
 unfold Y6;by_cases h1:r.kind=8;·rw[if_pos h1];exact h.tell _
 ·rw[if_neg h1];by_cases h2:QG v s r=M;(·rw[if_pos h2];exact h.tell _);·rw[if_neg h2];(have h2':v.waits s=N∧(if r.kind=1then v.begun s else !v.begun s)=N:=by unfold QG at h2;cases hw:v.waits s;(·rw[hw]at h2;exact⟨rfl,by simpa using h2⟩);·rw[hw]at h2;exact absurd rfl h2);by_cases h3:r.kind=1;(·rw[if_pos h3];refine Za.tell ?_ _;have hm:=h.many;have htn:=h.turn;refine⟨h.goes,h.many,h.data,h.mark,h.room,h.turn,h.few,h.wait,h.once,fun j hj=>?_,fun j hj=>?_,fun hu=>?_⟩;(·show GQ (Um v.txns s _ j)∧(Um v.txns s _ j).start<=_;by_cases e:j=s;(·rw[e,ZI];exact⟨⟨by show(0:Int)<=(v.synced:Int)∧(v.synced:Int)<=1048576;omega,by simp,by simp,by simp,by simp,by simp,by simp[EB]⟩,Int.le_refl _⟩);·rw[Zk _ _ e];exact h.tx j (by have:Um v.begun s M j=M:=hj;rwa[Zk _ _ e]at this));(·show Um v.begun s M j=N;have hj':v.waits j=M:=hj;by_cases e:j=s;(·rw[e,h2'.1]at hj';cases hj');·rw[Zk _ _ e];exact h.idle j hj');·have:v.up=N:=hu;rw[hup]at this;cases this);·rw[if_neg h3];(have hb:v.begun s=M:=by have:=h2'.2;rw[if_neg h3]at this;simpa using this);by_cases h4:r.kind=7;(·rw[if_pos h4];exact(h.end s).tell _);·rw[if_neg h4];by_cases h5:ZG (v.synced:Int) (v.txns s).start=N;(·rw[if_pos h5];exact(h.end s).tell _);·rw[if_neg h5];by_cases h6:r.kind=6;(·rw[if_pos h6];exact h.commit hb);·rw[if_neg h6];have hk:=hr.kind;exact h.work hb hr (by omega)
theorem Za.ask(h:Za D v)(s:Nat)(d:List UInt8):Za D (Z5 D v s d):=by
 unfold Z5;by_cases h1:v.up=N;·rw[if_pos h1];exact h.tell _
 ·rw[if_neg h1];by_cases h2:QI d=0;(·rw[if_pos h2];exact h.req (by simpa using h1) s ((Yc _).1 (Yo h2).1));·rw[if_neg h2];exact h.tell _
theorem Za.sync(h:Za D v):Za D (U5 v):=by
 have hm:=h.may;have htn:=h.turn;refine⟨h.goes,h.many,?_,?_,?_,?_,by simp[U5],?_,by simp[U5],?_,?_,?_⟩;·show(Kf v.tape).data=_;rw[Kf,if_pos hm];exact h.data
 ·show(Kf v.tape).synced=((Q5 D (v.commits.take (v.synced+v.queue.length))).length:Int);rw[Kf,if_pos hm,htn,sF,<-h.data]
 ·show(Kf v.tape).data.length<=_;rw[Kf,if_pos hm];exact h.room
 ·show v.synced+v.queue.length+([]:List Nat).length=v.commits.length;simpa using htn
 ·intro j;show Ut v.waits v.queue j=M↔j∈([]:List Nat);rw[Ut];constructor;(·intro e;split at e;(·cases e);·rename_i hq;exact absurd ((h.wait j).1 e) hq);·intro e;simp at e
 ·intro j hj;obtain⟨h1,h2⟩:=h.tx j hj;exact⟨h1,by show _<=((v.synced+v.queue.length:Nat):Int);have:(v.txns j).start<=(v.synced:Int):=h2;show(v.txns j).start<=_;omega⟩
 ·intro j hj;have:Ut v.waits v.queue j=M:=hj;rw[Ut]at this;split at this;(·cases this);·exact h.idle j this
 ·intro hu;exact⟨rfl,(h.down hu).2⟩
theorem Ss{up:Bool}{t:VQ}{cs:List Xz}{o:List Rp}(hg:uI [] 0 cs)(hm:cs.length<=300)(hd:t=⟨Q5 D cs,((Q5 D cs).length:Int)⟩)(hr:(Q5 D cs).length<=200000):Za D (VS up t cs o):=by
 subst hd;refine⟨hg,hm,rfl,?_,hr,rfl,by simp[VS],fun s=>by simp[VS],by simp[VS],fun s hs=>by simp[VS]at hs,fun s hs=>by simp[VS]at hs,fun _=>⟨rfl,fun _=>rfl⟩⟩;show((Q5 D cs).length:Int)=((Q5 D (cs.take cs.length)).length:Int);rw[sF]
theorem C3(D:List UInt8->List UInt8):Za D LD:=Ss trivial (by
 simp) rfl (by
 simp[Q5])
theorem Uc(hD:∀x,(D x).length=4)(h:Za D v){k:Int}(hk:0<=k):∃j,v.synced<=j∧j<=v.commits.length∧KN D v k=VS N ⟨Q5 D (v.commits.take j),((Q5 D (v.commits.take j)).length:Int)⟩ (v.commits.take j) v.out∧(k=0->j=v.synced):=by
 have hm:=h.may;obtain⟨m1,m2,m3⟩:=(Ko _).1 hm;have hit:G9 1 v.commits:=Eh h.goes;have htn:=h.turn;have hce:Uf v.tape k=0:=by rw[Uf,if_pos hm,if_neg (by omega)]
 have hcn:Xt v.tape k<=v.tape.data.length∧v.tape.synced<=(Xt v.tape k:Int):=by rw[Xt];split<;>omega
 have hcT:Xp v.tape k=⟨(Q5 D v.commits).take (Xt v.tape k),(Xt v.tape k:Int)⟩:=by rw[Xp,if_pos hce,h.data]
 have hrl:(Q5 D v.commits).length<=200000:=by rw[<-h.data];exact h.room
 obtain⟨j,h1,h2,h3,_,h5,h6⟩:=Iq hD hit (Xt v.tape k) (Xt v.tape k:Int) (by rw[<-h.data];exact hcn.1) (by omega) hrl;have hsj:v.synced<=j:=by refine TY (D:=D) (cs:=v.commits) (k:=Xt v.tape k) (by omega) h3 ?_;have:=h.mark;omega
 have e:(if(Xt v.tape k:Int)>((Q5 D (v.commits.take j)).length:Int)then((Q5 D (v.commits.take j)).length:Int)else(Xt v.tape k:Int))=((Q5 D (v.commits.take j)).length:Int):=by split<;>omega
 refine⟨j,hsj,h1,?_,?_⟩;·rw[KN,hcT,h5,h6,e]
 ·intro hk0;by_cases hj:j=v.synced;(·exact hj);·exfalso;(have hn:(Xt v.tape k:Int)=v.tape.synced:=by rw[Xt,hk0];split<;>omega);have g1:=UI D v.commits (v.synced+1) j (by omega);have g2:=Cy D v.commits v.synced (by omega);have hc:=(h.goes.at v.synced (by omega)).1;have g3:=(D9 hD hc).1;have hmk:=h.mark;rw[g2,tB]at g1;omega
theorem Za.crash(hD:∀x,(D x).length=4)(h:Za D v){k:Int}(hk:0<=k):Za D (KN D v k):=by
 obtain⟨j,h1,h2,h3,_⟩:=Uc hD h hk;have hm:=h.many;have hle:=UI D v.commits j v.commits.length h2;rw[sF,<-h.data]at hle;have hr:=h.room;rw[h3];exact Ss (h.goes.take j) (by rw[rF];omega) rfl (by omega)
theorem Za.start(h:Za D v):Za D {v with up:=M}:=⟨h.goes,h.many,h.data,h.mark,h.room,h.turn,h.few,h.wait,h.once,h.tx,h.idle,fun hu=>by
 cases hu⟩
theorem Za.act(hD:∀x,(D x).length=4)(h:Za D v){a:Ac}(ha:Y1 a):Za D (Zg D v a):=by
 unfold Zg;by_cases h1:a.kind=1;·rw[if_pos h1];exact h.ask _ _
 ·rw[if_neg h1];by_cases h2:a.kind=2;(·rw[if_pos h2];split;(·exact h.sync);·exact h);·rw[if_neg h2];by_cases h3:a.kind=3;(·rw[if_pos h3];split;(·exact h.crash hD (ha.keep h3).1);·exact h);·rw[if_neg h3];exact h.start
theorem Ea(hD:∀x,(D x).length=4):∀(l:List Ac)(v:Sv),Za D v->(∀a∈l,Y1 a)->Za D (l.foldl (Zg D) v)|[],_,h,_=>h|a::l,v,h,ha=>Ea hD l _ (h.act hD (ha a (by simp))) (fun x hx=>ha x (by simp[hx]))
theorem MN(hD:∀x,(D x).length=4)(l:List Ac)(h:∀a∈l,Y1 a):Za D (U3 D l):=Ea hD l LD (C3 D) h
end
structure Same (v u : Sv) : Prop where
  up : u.up = v.up
  tape : u.tape = v.tape
  commits : u.commits = v.commits
  synced : u.synced = v.synced
  waits : u.waits = v.waits
  queue : u.queue = v.queue
theorem Same.rfl{v:Sv}:Same v v:=⟨by
 rfl,by
 rfl,by
 rfl,by
 rfl,by
 rfl,by
 rfl⟩
theorem Same.trans{v u w:Sv}(h:Same v u)(k:Same u w):Same v w:=⟨k.up.trans h.up,k.tape.trans h.tape,k.commits.trans h.commits,k.synced.trans h.synced,k.waits.trans h.waits,k.queue.trans h.queue⟩
structure OE (s : Nat) (v u : Sv) : Prop extends Same v u where
  out : ∃ r, u.out = v.out ++ [r] ∧ r.sess = (s : Int)
  begun : ∀ j, j ≠ s -> u.begun j = v.begun j
  txns : ∀ j, j ≠ s -> u.txns j = v.txns j
theorem K4(v:Sv)(s:Nat)(r:Rp)(h:r.sess=(s:Int)):OE s v (ZJ v r):=⟨⟨rfl,rfl,rfl,rfl,rfl,rfl⟩,⟨r,rfl,h⟩,fun _ _=>rfl,fun _ _=>rfl⟩
theorem xV(v:Sv)(s:Nat)(r:Rp)(h:r.sess=(s:Int)):OE s v (ZJ (XF v s) r):=⟨⟨rfl,rfl,rfl,rfl,rfl,rfl⟩,⟨r,rfl,h⟩,fun _ hj=>Zk _ _ hj,fun _ _=>rfl⟩
theorem Si(v:Sv)(s:Nat)(t:Tx)(r:Rp)(h:r.sess=(s:Int)):OE s v (ZJ {v with txns:=Um v.txns s t} r):=⟨⟨rfl,rfl,rfl,rfl,rfl,rfl⟩,⟨r,rfl,h⟩,fun _ _=>rfl,fun _ hj=>Zk _ _ hj⟩
theorem MO(v:Sv)(s:Nat)(x:Rd)(o:Rp)(h:o.sess=(s:Int)):OE s v (Uo v s x o):=by
 unfold Uo;split;·exact Si v s _ _ h
 ·exact K4 v s _ rfl
theorem LW(v:Sv)(s:Nat)(w:Zf):OE s v (VK v s w):=by
 unfold VK;split;·exact Si v s _ _ rfl
 ·exact K4 v s _ rfl
theorem WD(v:Sv)(s:Nat)(r:Rq):OE s v (yT v s r):=by
 unfold yT;split;·exact LW v s _
 ·split;(·unfold Nb;split;(·exact K4 v s _ rfl);·exact MO v s _ _ rfl);·unfold uP;split;(·exact MO v s _ _ rfl);·exact K4 v s _ rfl
structure Ih (D : List UInt8 -> List UInt8) (s : Nat) (v u : Sv) : Prop where
  up : u.up = v.up
  tape : u.tape = qW D v.tape (Jg v s)
  commits : u.commits = v.commits ++ [Jg v s]
  synced : u.synced = v.synced
  waits : u.waits = Um v.waits s M
  queue : u.queue = v.queue ++ [s]
  out : u.out = v.out
  begun : u.begun = Um v.begun s N
  txns : u.txns = v.txns
  full : (v.txns s).writes.length ≠ 0
  room : v.queue.length ≠ 6 ∧ v.commits.length ≠ 300
  clash : Ux (v.txns s) v.commits = N
  fits : QZ (QH v v.commits.length) (v.txns s).writes = 0
  app : Vj D v.tape (Jg v s) = 0
theorem Wa(D:List UInt8->List UInt8)(v:Sv)(s:Nat):OE s v (JC D v s)∨Ih D s v (JC D v s):=by
 unfold JC;by_cases h1:(v.txns s).writes.length=0;·rw[if_pos h1];exact .inl (xV v s _ rfl)
 ·rw[if_neg h1];by_cases h2:v.queue.length=6∨v.commits.length=300;(·rw[if_pos h2];exact .inl (K4 v s _ rfl));·rw[if_neg h2];by_cases h3:Ux (v.txns s) v.commits=M;(·rw[if_pos h3];exact .inl (xV v s _ rfl));·rw[if_neg h3];by_cases h4:QZ (QH v v.commits.length) (v.txns s).writes≠0;(·rw[if_pos h4];exact .inl (xV v s _ rfl));·rw[if_neg h4];by_cases h5:Vj D v.tape (Jg v s)≠0;(·rw[if_pos h5];exact .inl (xV v s _ rfl));·rw[if_neg h5];exact .inr ⟨rfl,rfl,rfl,rfl,rfl,rfl,rfl,rfl,rfl,h1,⟨fun e=>h2 (.inl e),fun e=>h2 (.inr e)⟩,by simpa using h3,sV h4,sV h5⟩
theorem dB(D:List UInt8->List UInt8)(v:Sv)(s:Nat)(r:Rq):OE s v (Y6 D v s r)∨(r.kind=6∧QG v s r=N∧Ih D s v (Y6 D v s r)):=by
 unfold Y6;by_cases h1:r.kind=8;·rw[if_pos h1];exact .inl (K4 v s _ rfl)
 ·rw[if_neg h1];by_cases h2:QG v s r=M;(·rw[if_pos h2];exact .inl (K4 v s _ rfl));·rw[if_neg h2];by_cases h3:r.kind=1;(·rw[if_pos h3];exact .inl ⟨⟨rfl,rfl,rfl,rfl,rfl,rfl⟩,⟨_,rfl,rfl⟩,fun _ hj=>Zk _ _ hj,fun _ hj=>Zk _ _ hj⟩);·rw[if_neg h3];by_cases h4:r.kind=7;(·rw[if_pos h4];exact .inl (xV v s _ rfl));·rw[if_neg h4];by_cases h5:ZG (v.synced:Int) (v.txns s).start=N;(·rw[if_pos h5];exact .inl (xV v s _ rfl));·rw[if_neg h5];by_cases h6:r.kind=6;(·rw[if_pos h6];rcases Wa D v s with h|h;(·exact .inl h);·exact .inr ⟨h6,by simpa using h2,h⟩);·rw[if_neg h6];exact .inl (WD v s r)
theorem FU(D:List UInt8->List UInt8)(v:Sv)(s:Nat)(d:List UInt8):OE s v (Z5 D v s d)∨(v.up=M∧QI d=0∧(Qu d).kind=6∧v.waits s=N∧v.begun s=M∧Ih D s v (Z5 D v s d)):=by
 unfold Z5;by_cases h1:v.up=N;·rw[if_pos h1];exact .inl (K4 v s _ rfl)
 ·rw[if_neg h1];by_cases h2:QI d=0;(·rw[if_pos h2];rcases dB D v s (Qu d)with h|⟨h3,h4,h5⟩;(·exact .inl h);·right;unfold QG at h4;rw[if_neg (by omega)]at h4;simp only[rS,Bool.not_eq_false']at h4;exact⟨by simpa using h1,h2,h3,h4.1,h4.2,h5⟩);·rw[if_neg h2];exact .inl (K4 v s _ rfl)
theorem aQ(D:List UInt8->List UInt8)(v:Sv)(a:Ac):∃rs,(Zg D v a).out=v.out++rs:=by
 unfold Zg;split;·rcases FU D v a.sess.toNat a.data with h|h;(·obtain⟨r,h1,_⟩:=h.out;exact⟨[r],h1⟩);·exact⟨[],by rw[sK];exact h.2.2.2.2.2.out⟩
 ·split;(·split;(·exact⟨JF v.synced v.queue,rfl⟩);·exact⟨[],by rw[sK]⟩);·split;(·split;(·exact⟨[],by rw[sK];rfl⟩);·exact⟨[],by rw[sK]⟩);·exact⟨[],by rw[sK]⟩
theorem Pp:∀(q:List Nat)(n:Nat),(JF n q).length=q.length|[],_=>rfl|_::q,n=>by rw[JF,sC,sC,Pp q]
theorem Cf{D:List UInt8->List UInt8}(hD:∀x,(D x).length=4){v:Sv}(h:Za D v){a:Ac}(ha:Y1 a):v.synced<=(Zg D v a).synced∧(Zg D v a).synced<=v.synced+v.queue.length∧(v.synced<(Zg D v a).synced->a.kind=2∨a.kind=3):=by
 unfold Zg;by_cases h1:a.kind=1;·rw[if_pos h1];(have e:(Z5 D v a.sess.toNat a.data).synced=v.synced:=by rcases FU D v a.sess.toNat a.data with h|h;(·exact h.synced);·exact h.2.2.2.2.2.synced);rw[e];exact⟨by omega,by omega,fun h=>by omega⟩
 ·rw[if_neg h1];by_cases h2:a.kind=2;(·rw[if_pos h2];split;(·exact⟨by show v.synced<=v.synced+v.queue.length;omega,tV _,fun _=>.inl h2⟩);·exact⟨by omega,by omega,fun _=>.inl h2⟩);·rw[if_neg h2];by_cases h3:a.kind=3;(·rw[if_pos h3];split;(·obtain⟨j,j1,j2,j3,_⟩:=Uc hD h (ha.keep h3).1;(have e:(KN D v a.keep).synced=j:=by rw[j3];show(v.commits.take j).length=j;rw[rF];omega);have:=h.turn;rw[e];exact⟨j1,by omega,fun _=>.inr h3⟩);·exact⟨by omega,by omega,fun _=>.inr h3⟩);·rw[if_neg h3];exact⟨tV _,by show v.synced<=_;omega,fun h=>absurd h (Nat.lt_irrefl _)⟩
structure Gr where
  kind : Int
  sess : Int
  name : Int
  key : Int
  value : Int
def IP:Gr:=⟨0,0,0,0,0⟩
def Up(n:Int)(many:Nat):Nat:=if n<0then((-(n+1))%(many:Int)).toNat else(n%(many:Int)).toNat
def f8(n:Int):List UInt8:=[sH (97+Up n 3)]
def fY(n:Int):List UInt8:=[sH (107+Up n 5)]
def gX(n:Int):List UInt8:=[sH (Up n 50)]
def gV(k:Nat)(a b c d:List UInt8):Rq:=if k<4then⟨1,[],[],[],[]⟩else if k<7then⟨2,a,b,[],[]⟩else if k=7then⟨3,a,b,c,[]⟩else if k<12then⟨4,a,b,[],d⟩else if k=12then⟨5,a,b,[],[]⟩else if k<17then⟨6,[],[],[],[]⟩else if k=17then⟨7,[],[],[],[]⟩else⟨8,a,b,[],[]⟩
def iC(g:Gr):Rq:=gV (Up g.kind 20) (f8 g.name) (fY g.key) (fY g.value) (gX g.value)
def fU(g:Gr):Ac:=if Up g.kind 26=20∨Up g.kind 26=21∨Up g.kind 26=22then⟨2,0,0,[]⟩else if Up g.kind 26=23then⟨3,0,(Up g.value 80:Int),[]⟩else if Up g.kind 26=24then⟨4,0,0,[]⟩else if Up g.kind 26=25then⟨1,(Up g.sess 8:Int),0,[sH (r7.wrap g.value).toNat,sH (r7.wrap g.key).toNat]⟩else⟨1,(Up g.sess 8:Int),0,qT (iC g)⟩
def V5(l:List Gr)(n:Nat):List Ac:=(l.take n).map fU
theorem bS{r:Rq}(h:Ye r):qT r=JZ r:=by
 rw[qT,if_pos ((Yc r).2 h)]
structure V2 (l : FL) : Prop where
  many : l.length * 48 <= 140737488355328
  each : ∀ i, i < l.length -> (l.getD i ([], [])).1.length <= 140737488355328 ∧ kD (l.getD i ([], [])).2
theorem V2.len{l:FL}(h:V2 l):l.length<=140737488355328:=by
 have:=h.many;omega
theorem Xn.fits{l:FL}(h:Xn l):V2 l:=by
 refine⟨by have:=h.room;omega,fun i hi=>?_⟩;have:=h.tens l[i] (sS hi);rw[show l[i]=l.getD i ([],[])by simp[hi]]at this;exact⟨by omega,this.2.2.fits⟩
def MS(w:F)(b o:Nat)(t:Tn):Prop:=∃vn vp,w.cell? ⟨b,o,G⟩=I vn∧w.cell? ⟨b,o+1,G⟩=I vp∧Qe w vn t.1∧Qr w vp t.2
theorem MS.grown{w w':F}{b o:Nat}{t:Tn}(h:MS w b o t)(hg:L w w' G):MS w' b o t:=by
 obtain⟨vn,vp,c1,c2,h1,h2⟩:=h;exact⟨vn,vp,hg.cell c1 (by simp),hg.cell c2 (by simp),h1.grown hg,h2.grown hg⟩
def ZP(w:F)(v:H)(l:FL):Prop:=∃a cap,v=J a l.length cap∧l.length<=cap∧((l=[]∧(a=G->cap=0))∨∃b o,a=I ⟨b,o,G⟩∧∀i,i<l.length->MS w b (o+i*2) (l.getD i ([],[])))
theorem G2(w:F):ZP w (J G 0 0) []:=⟨G,0,rfl,tV _,.inl ⟨rfl,fun _=>rfl⟩⟩
theorem ZP.grown{w w':F}{v:H}{l:FL}(h:ZP w v l)(hg:L w w' G):ZP w' v l:=by
 obtain⟨a,cap,rfl,hc,h⟩:=h;refine⟨a,cap,rfl,hc,?_⟩;rcases h with h|⟨b,o,rfl,h⟩;·exact .inl h
 ·exact .inr ⟨b,o,rfl,fun i hi=>(h i hi).grown hg⟩
theorem ZP.shape{w:F}{v:H}{l:FL}(h:ZP w v l):∃a cap,v=J a l.length cap:=by
 obtain⟨a,cap,rfl,_⟩:=h;exact⟨a,cap,rfl⟩
theorem ZP.at{w:F}{a:Option rC}{n cap:Nat}{l:FL}(h:ZP w (J a n cap) l)(i:Nat)(hi:i<l.length):∃b o,a=I ⟨b,o,G⟩∧MS w b (o+i*2) (l.getD i ([],[])):=by
 obtain⟨a',cap',e,hc,h⟩:=h;simp only[tH]at e;obtain⟨rfl,rfl,rfl⟩:=e;rcases h with⟨rfl,_⟩|⟨b,o,rfl,h⟩;·simp at hi
 ·exact⟨b,o,rfl,h i hi⟩
theorem bZ:(67:Nat)≠5:=by
 decide
theorem bV:(67:Nat)≠42:=by
 decide
def Zx(base:Nat)(w:F)(v:H)(l:FL):Prop:=∃vs:List (H×H),vs.length=l.length∧w.ownsRow base 67 2 v l.length (flat vs)∧∀i,i<l.length->Qi 0 w (vs.getD i (sN,sN)).1 (l.getD i ([],[])).1∧QN 0 w (vs.getD i (sN,sN)).2 (l.getD i ([],[])).2
theorem xK(base:Nat)(w:F):Zx base w (J G 0 0) []:=⟨[],rfl,sP _ _ _ _,fun i hi=>by
 simp at hi⟩
theorem Zx.row{base:Nat}{w:F}{v:H}{l:FL}(h:Zx base w v l):v.ownBlock=G∨∃g cur t fz,v.ownBlock=I g∧base<=g∧w.heap[g]?=I (S cur t fz)∧t≠5∧t≠42:=by
 obtain⟨vs,_,h,_⟩:=h;rcases h.2with⟨rfl,_⟩|⟨g,cap,cur,rfl,hb,hg,_⟩;·exact .inl rfl
 ·exact .inr ⟨g,cur,_,_,rfl,hb,hg,bZ,bV⟩
theorem Zx.row0{base:Nat}{w:F}{v:H}{l:FL}(h:Zx base w v l):v.ownBlock=G∨∃g cur t fz,v.ownBlock=I g∧0<=g∧w.heap[g]?=I (S cur t fz)∧t≠5∧t≠42:=by
 rcases h.row with h|⟨g,cur,t,fz,h1,_,h3⟩;·exact .inl h
 ·exact .inr ⟨g,cur,t,fz,h1,tU _,h3⟩
theorem eC{base:Nat}{w:F}{r:Option Nat}(h:r=G∨∃g cur t fz,r=I g∧base<=g∧w.heap[g]?=I (S cur t fz)∧t≠5∧t≠42):r=G∨∃g cur t fz,r=I g∧base<=g∧w.heap[g]?=I (S cur t fz)∧t≠5:=by
 rcases h with h|⟨g,cur,t,fz,h1,h2,h3,h4,_⟩;·exact .inl h
 ·exact .inr ⟨g,cur,t,fz,h1,h2,h3,h4⟩
theorem Zx.lt{base:Nat}{w:F}{v:H}{l:FL}(h:Zx base w v l):∀k,v.ownBlock=I k->base<=k∧k<w.heap.size:=by
 obtain⟨vs,_,h,_⟩:=h;exact sI h
theorem Zx.grownNone{base:Nat}{w w':F}{v:H}{l:FL}(h:Zx base w v l)(hg:L w w' G):Zx base w' v l:=by
 obtain⟨vs,h1,h2,h3⟩:=h;refine⟨vs,h1,tX h2 hg ?_,fun i hi=>⟨((h3 i hi).1).keptT hg (.inl rfl),((h3 i hi).2).kept hg (.inl rfl)⟩⟩;cases hv:v.ownBlock with|none=>exact .inl rfl|some k=>exact .inr (by simp)
theorem Zx.alloc{base:Nat}{w:F}{v:H}{l:FL}(h:Zx base w v l)(o:Obj):Zx base (w.alloc o) v l:=h.grownNone (rA _ _ _)
theorem Zx.shape{base:Nat}{w:F}{v:H}{l:FL}(h:Zx base w v l):∃a cap,v=J a l.length cap:=by
 obtain⟨vs,_,h,_⟩:=h;rcases h.2with⟨rfl,h0⟩|⟨g,cap,cur,rfl,_⟩;·exact⟨G,0,by rw[h0]⟩
 ·exact⟨_,cap,rfl⟩
theorem Zx.cells{base:Nat}{w:F}{g n cap:Nat}{vs:List (H×H)}{l:FL}(hr:w.ownsRow base 67 2 (J (I ⟨g,0,G⟩) n cap) l.length (flat vs)):∀j u,(flat vs)[j]?=I u->w.cell? ⟨g,j,G⟩=I u:=by
 intro j u hj;rcases hr.2with⟨e,_⟩|⟨g',cap',cur,e,hb,hg,hn,hm,hs,ht⟩;·cases e
 ·simp only[tH,tA,rJ]at e;obtain⟨⟨rfl,_⟩,_,_⟩:=e;(have hlt:j<l.length*2:=by have:=(sM.1 hj).1;rw[hr.1]at this;exact this);(have e2:(cur.toList.take (l.length*2))[j]?=(flat vs)[j]?:=by rw[ht]);rw[sE,if_pos hlt,hj]at e2;simp[tW,hg];simpa using e2
theorem Zx.list{base:Nat}{w:F}{v:H}{l:FL}(h:Zx base w v l):ZP w v l:=by
 obtain⟨vs,hl,hr,h3⟩:=h;have hr':=hr;rcases hr.2with⟨rfl,h0⟩|⟨g,cap,cur,rfl,hb,hg,hn,hm,hs,ht⟩;·have:l=[]:=tJ h0;subst this;exact G2 w
 ·refine⟨_,cap,rfl,hn,.inr ⟨g,0,rfl,fun i hi=>?_⟩⟩;have hf:=zV vs i (by omega);refine⟨(vs.getD i (sN,sN)).1,(vs.getD i (sN,sN)).2,?_,?_,(h3 i hi).1.1,(h3 i hi).2.list⟩;(·have:=Zx.cells hr' _ _ hf.1;rw[sR];exact this);·have:=Zx.cells hr' _ _ hf.2;rw[sR];exact this
theorem Td{base:Nat}{w W w1:F}{v:H}{l:FL}(h:L w W G)(ho:Zx base W v l)(hb:w.heap.size<=base)(hg:L W w1 v.ownBlock):L w w1 G:=⟨hg.os.trans h.os,hg.tape.trans h.tape,hg.output.trans h.output,tM h.size hg.size,fun i hi hn=>(hg.block i (tG hi h.size) (fun e=>by
 have:=(ho.lt i e.symm).1;omega)).trans (h.block i hi hn)⟩
theorem Fr:(O.info? 67).map (fun i=>(i.zero,i.size,i.bytes))=I (I (sW #[J G 0 0,J G 0 0]),2,48):=by
 kernel_rfl
theorem yZ{w:F}{o:rP}{a:Act}{K:Act->F->Prop}{Q:Exit->Act->F->Prop}(s x:rK)(ho:o.op=.call {callee:=.builtin .append,args:=#[s,x],argTypes:=#[33,33]})(base:Nat)(v:H)(l:FL)(hs:a.eval s=v)(hown:Zx base w v l)(vn vp:H)(t:Tn)(hk:Qi 0 w vn t.1)(hv:QN 0 w vp t.2)(nb:Nat)(hb:w.heap[nb]?=I (S #[vn,vp] 67))(hx:a.eval x=J (I ⟨nb,0,G⟩) 1 1)(hl:(l.length+1)*48<=140737488355328)(hbase:base<=w.heap.size)(h:∀v' w',Zx base w' v' (l++[t])->L w w' v.ownBlock->K (a.put o.dst v') w'):o.wp O a w K Q:=by
 obtain⟨i0,hi,hz0,hz1,hz2⟩:=pC Fr;have hrow:=hown.row0;obtain⟨vs,hvl,hr,hp⟩:=hown;refine wp_append_lies w s x 33 ho base 67 i0 (sW #[J G 0 0,J G 0 0]) 2 48 Tryz.underlying33 hi hz0 hz1 hz2 rfl (by decide) v l.length (flat vs) hs hr ⟨nb,0,G⟩ 1 1 (flat [(vn,vp)]) hx rfl (rG (cs:=#[vn,vp]) hb) ?_ (by omega) (by unfold pD;omega) hl hbase _ rfl ?_;·intro u hu;simp only[flat,tP,rN,sK,tK,tS,or_false]at hu;rcases hu with rfl|rfl;(·exact ZD hk);·exact xG hv
 ·intro g cap w' h1 h2 _ _;refine h _ w' ⟨vs++[(vn,vp)],by simp[hvl],?_,?_⟩ h2;(·rw[JN,tB];exact h1);·intro i hi;rw[Je,Je,hvl];by_cases hil:i<l.length;(·rw[if_pos hil,if_pos hil];exact⟨(hp i hil).1.keptT h2 (eC hrow),(hp i hil).2.kept h2 hrow⟩);·rw[if_neg hil,if_neg hil];(obtain rfl:i=l.length:=by simp at hi;omega);rw[oH];exact⟨hk.keptT h2 (eC hrow),hv.kept h2 hrow⟩
theorem Fi{w:F}{ops:Array rP}{o:rP}{a:Act}{K:Act->F->Prop}{Q:Exit->Act->F->Prop}{E:Prop}(hgd:o.guard=G)(s x:rK)(ho:o.op=.call {callee:=.builtin .append,args:=#[s,x],argTypes:=#[33,33]})(base:Nat)(v:H)(l:FL)(hs:a.eval s=v)(hown:Zx base w v l)(vn vp:H)(t:Tn)(hk:Qi 0 w vn t.1)(hv:QN 0 w vp t.2)(nb:Nat)(hb:w.heap[nb]?=I (S #[vn,vp] 67))(hx:a.eval x=J (I ⟨nb,0,G⟩) 1 1)(hl:(l.length+1)*48<=140737488355328)(hbase:base<=w.heap.size)(h:∀v' w',Zx base w' v' (l++[t])->L w w' v.ownBlock->K (a.put o.dst v') w'):if sG o (pE ops a.tmps)=M then Oper.wp O o a w K Q else E:=by
 have hw:sG o (pE ops a.tmps)=M:=by simp[sG,hgd]
 rw[if_pos hw];exact yZ s x ho base v l hs hown vn vp t hk hv nb hb hx hl hbase h
theorem kP{w:F}{ops:Array rP}{rest:List rP}{o:rP}{a:Act}{Q:Exit->Act->F->Prop}(hgd:o.guard=G)(s x:rK)(ho:o.op=.call {callee:=.builtin .append,args:=#[s,x],argTypes:=#[33,33]})(base:Nat)(v:H)(l:FL)(hs:a.eval s=v)(hown:Zx base w v l)(vn vp:H)(t:Tn)(hk:Qi 0 w vn t.1)(hv:QN 0 w vp t.2)(nb:Nat)(hb:w.heap[nb]?=I (S #[vn,vp] 67))(hx:a.eval x=J (I ⟨nb,0,G⟩) 1 1)(hl:(l.length+1)*48<=140737488355328)(hbase:base<=w.heap.size)(h:∀v' w',Zx base w' v' (l++[t])->L w w' v.ownBlock->wpList O ops Q rest (a.put o.dst v') w'):wpList O ops Q (o::rest) a w:=wpList_plain hgd fun _ hK=>yZ s x ho base v l hs hown vn vp t hk hv nb hb hx hl hbase fun v' w' h1 h2=>hK _ _ (h v' w' h1 h2)
theorem Qk{w:F}{b i:Nat}{cs:Array H}{t:sA}{fz:Nat×Nat}{u:H}(h:w.heap[b]?=I (S cs t fz)):(tE w ⟨b,i,G⟩ u).heap[b]?=I (S (cs.setIfInBounds i u) t fz):=by
 simp only[tE,tY,if_true,h,rO];rfl
theorem QD{w:F}{b c i:Nat}{o:Obj}{u:H}(h:w.heap[b]?=I o)(hne:b≠c):(tE w ⟨c,i,G⟩ u).heap[b]?=I o:=by
 simp only[tE,tY];rw[if_neg (fun e=>hne e.symm)];exact h
theorem YH(w:F)(b i:Nat)(u:H):L w (tE w ⟨b,i,G⟩ u) (I b):=Qf (Qb w _) i u
theorem Qi.setOther{base:Nat}{w:F}{v:H}{bs:List UInt8}(h:Qi base w v bs){b i:Nat}{cs:Array H}{t:sA}{fz:Nat×Nat}(hb:w.heap[b]?=I (S cs t fz))(ht:t≠5)(hbb:base<=b)(u:H):Qi base (tE w ⟨b,i,G⟩ u) v bs:=h.keptT (YH w b i u) (.inr ⟨b,cs,t,fz,rfl,hbb,hb,ht⟩)
def Q4(rb pb:Nat)(w:F)(v:H)(l:List Zf):Prop:=∃us:List WV,us.map (·.1)=l∧w.ownsRow rb 75 4 v l.length (YW us)∧∀x∈us,Qi pb w x.2.1 x.1.name∧Qi pb w x.2.2.1 x.1.key∧Qi pb w x.2.2.2 x.1.value
theorem Xu(rb pb:Nat)(w:F):Q4 rb pb w (J G 0 0) []:=⟨[],rfl,sP _ _ _ _,fun x hx=>by
 simp at hx⟩
theorem Q4.row{rb pb:Nat}{w:F}{v:H}{l:List Zf}(h:Q4 rb pb w v l):v.ownBlock=G∨∃g cur fz,v.ownBlock=I g∧rb<=g∧w.heap[g]?=I (S cur 75 fz):=by
 obtain⟨us,_,h,_⟩:=h;rcases h.2with⟨rfl,_⟩|⟨g,cap,cur,rfl,hb,hg,_⟩;·exact .inl rfl
 ·exact .inr ⟨g,cur,_,rfl,hb,hg⟩
theorem Q4.lt{rb pb:Nat}{w:F}{v:H}{l:List Zf}(h:Q4 rb pb w v l):∀k,v.ownBlock=I k->rb<=k∧k<w.heap.size:=by
 obtain⟨us,_,h,_⟩:=h;exact sI h
theorem Q4.ne{rb pb:Nat}{w:F}{v:H}{l:List Zf}(h:Q4 rb pb w v l){b:Nat}{cs:Array H}{t:sA}{fz:Nat×Nat}(hb:w.heap[b]?=I (S cs t fz))(ht:t≠75):v.ownBlock≠I b:=by
 intro e;rcases h.row with h0|⟨g,cur,fz2,h1,_,h2⟩;·rw[h0]at e;cases e
 ·rw[h1]at e;cases e;rw[hb]at h2;simp only[tA,tZ]at h2;exact ht h2.2.1
theorem Q4.kept{rb pb:Nat}{w w':F}{v:H}{l:List Zf}(h:Q4 rb pb w v l){row:Option Nat}(hg:L w w' row)(hne:v.ownBlock=G∨v.ownBlock≠row)(hrow:row=G∨∃g cur t fz,row=I g∧pb<=g∧w.heap[g]?=I (S cur t fz)∧t≠5):Q4 rb pb w' v l:=by
 obtain⟨us,h1,h2,h3⟩:=h;exact⟨us,h1,tX h2 hg hne,fun x hx=>⟨(h3 x hx).1.keptT hg hrow,(h3 x hx).2.1.keptT hg hrow,(h3 x hx).2.2.keptT hg hrow⟩⟩
theorem Q4.grownNone{rb pb:Nat}{w w':F}{v:H}{l:List Zf}(h:Q4 rb pb w v l)(hg:L w w' G):Q4 rb pb w' v l:=h.kept hg (by
 cases hv:v.ownBlock with|none=>exact .inl rfl|some k=>exact .inr (by simp)) (.inl rfl)
theorem Q4.setOther{rb pb:Nat}{w:F}{v:H}{l:List Zf}(h:Q4 rb pb w v l){b i:Nat}{cs:Array H}{t:sA}{fz:Nat×Nat}(hb:w.heap[b]?=I (S cs t fz))(ht:t≠5)(ht2:t≠75)(hbb:pb<=b)(u:H):Q4 rb pb (tE w ⟨b,i,G⟩ u) v l:=h.kept (YH w b i u) (.inr (h.ne hb ht2)) (.inr ⟨b,cs,t,fz,rfl,hbb,hb,ht⟩)
theorem Q4.shape{rb pb:Nat}{w:F}{v:H}{l:List Zf}(h:Q4 rb pb w v l):∃a cap,v=J a l.length cap:=by
 obtain⟨us,_,h,_⟩:=h;rcases h.2with⟨rfl,h0⟩|⟨g,cap,cur,rfl,_⟩;·exact⟨G,0,by rw[h0]⟩
 ·exact⟨_,cap,rfl⟩
theorem Q4.any{rb pb:Nat}{w:F}{v:H}{l:List Zf}(h:Q4 rb pb w v l):∃a n cap,v=J a n cap:=by
 obtain⟨a,cap,e⟩:=h.shape;exact⟨a,_,cap,e⟩
theorem Q4.down{rb pb:Nat}{w:F}{v:H}{l:List Zf}(h:Q4 rb pb w v l)(rb':Nat)(hb:rb'<=rb):Q4 rb' pb w v l:=by
 obtain⟨us,h1,h2,h3⟩:=h;refine⟨us,h1,⟨h2.1,?_⟩,h3⟩;rcases h2.2with h|⟨g,cap,cur,e,hb2,rest⟩;·exact .inl h
 ·exact .inr ⟨g,cap,cur,e,tM hb hb2,rest⟩
theorem Q4.writesB{rb pb:Nat}{w:F}{v:H}{l:List Zf}(h:Q4 rb pb w v l):Xm pb w v l:=by
 obtain⟨us,hl,hr,h3⟩:=h;rcases hr.2with⟨rfl,h0⟩|⟨g,cap,cur,rfl,hb,hg,hn,hm,hs,ht⟩;·have:l=[]:=tJ h0;rw[this];exact M9 pb w
 ·(have hcell:∀j u,(YW us)[j]?=I u->w.cell? ⟨g,j,G⟩=I u:=by intro j u hj;(have hlt:j<l.length*4:=by have:=(sM.1 hj).1;rw[hr.1]at this;exact this);(have e2:(cur.toList.take (l.length*4))[j]?=(YW us)[j]?:=by rw[ht]);rw[sE,if_pos hlt,hj]at e2;simp[tW,hg];simpa using e2);refine⟨_,cap,rfl,hn,.inr ⟨g,0,rfl,.inr ⟨_,_,hg⟩,fun i hi=>?_⟩⟩;obtain⟨e1,e2⟩:=Lo hl i hi;(have hlen:us.length=l.length:=by rw[<-hl];simp);obtain⟨c1,c2,c3,c4⟩:=EV us i (by omega);have hp:=h3 _ e2;rw[e1]at c3 hp;rw[sR];exact⟨_,_,_,hcell _ _ c1,hcell _ _ c2,hcell _ _ c3,hcell _ _ c4,hp.1,hp.2.1,hp.2.2⟩
theorem Q4.list{rb pb:Nat}{w:F}{v:H}{l:List Zf}(h:Q4 rb pb w v l):QQ w v l:=h.writesB.list
theorem VL{rb pb:Nat}{w W w1:F}{v:H}{l:List Zf}(h:L w W G)(ho:Q4 rb pb W v l)(hb:w.heap.size<=rb)(hg:L W w1 v.ownBlock):L w w1 G:=⟨hg.os.trans h.os,hg.tape.trans h.tape,hg.output.trans h.output,tM h.size hg.size,fun i hi hn=>(hg.block i (tG hi h.size) (fun e=>by
 have:=(ho.lt i e.symm).1;omega)).trans (h.block i hi hn)⟩
def TJ(w:F)(b o:Nat)(r:Rd):Prop:=∃vn vk vl,w.cell? ⟨b,o,G⟩=I vn∧w.cell? ⟨b,o+1,G⟩=I vk∧w.cell? ⟨b,o+2,G⟩=I (tL r.wide)∧w.cell? ⟨b,o+3,G⟩=I vl∧Qe w vn r.name∧Qe w vk r.key∧Qe w vl r.last
theorem TJ.grown{w w':F}{b o:Nat}{r:Rd}(h:TJ w b o r)(hg:L w w' G):TJ w' b o r:=by
 obtain⟨vn,vk,vl,c1,c2,c3,c4,h1,h2,h3⟩:=h;exact⟨vn,vk,vl,hg.cell c1 (by simp),hg.cell c2 (by simp),hg.cell c3 (by simp),hg.cell c4 (by simp),h1.grown hg,h2.grown hg,h3.grown hg⟩
def Z8(w:F)(v:H)(l:List Rd):Prop:=∃a cap,v=J a l.length cap∧l.length<=cap∧((l=[]∧(a=G->cap=0))∨∃b o,a=I ⟨b,o,G⟩∧∀i,i<l.length->TJ w b (o+i*4) (l.getD i Ze))
theorem D0(w:F):Z8 w (J G 0 0) []:=⟨G,0,rfl,tV _,.inl ⟨rfl,fun _=>rfl⟩⟩
theorem Z8.shape{w:F}{v:H}{l:List Rd}(h:Z8 w v l):∃a cap,v=J a l.length cap:=by
 obtain⟨a,cap,rfl,_⟩:=h;exact⟨a,cap,rfl⟩
theorem Z8.grown{w w':F}{v:H}{l:List Rd}(h:Z8 w v l)(hg:L w w' G):Z8 w' v l:=by
 obtain⟨a,cap,rfl,hc,h⟩:=h;refine⟨a,cap,rfl,hc,?_⟩;rcases h with h|⟨b,o,rfl,h⟩;·exact .inl h
 ·exact .inr ⟨b,o,rfl,fun i hi=>(h i hi).grown hg⟩
theorem Z8.at{w:F}{a:Option rC}{n cap:Nat}{l:List Rd}(h:Z8 w (J a n cap) l)(i:Nat)(hi:i<l.length):∃b o,a=I ⟨b,o,G⟩∧TJ w b (o+i*4) (l.getD i Ze):=by
 obtain⟨a',cap',e,hc,h⟩:=h;simp only[tH]at e;obtain⟨rfl,rfl,rfl⟩:=e;rcases h with⟨rfl,_⟩|⟨b,o,rfl,h⟩;·simp at hi
 ·exact⟨b,o,rfl,h i hi⟩
structure fS (l : List Rd) : Prop where
  many : l.length * 80 <= 140737488355328
  each : ∀ i, i < l.length -> Pk (l.getD i Ze)
structure zP (t : Tx) : Prop where
  start : -9223372036854775808 <= t.start ∧ t.start <= 9223372036854775807
  reads : fS t.reads
  writes : kH t.writes
def Gy(w:F)(v:H)(t:Tx):Prop:=∃vr vw,v=sW #[Y tC t.start,vr,vw]∧Z8 w vr t.reads∧QQ w vw t.writes
theorem Gy.grown{w w':F}{v:H}{t:Tx}(h:Gy w v t)(hg:L w w' G):Gy w' v t:=by
 obtain⟨vr,vw,rfl,h1,h2⟩:=h;exact⟨vr,vw,rfl,h1.grown hg,h2.grown hg⟩
theorem Gy.agg{w:F}{v:H}{t:Tx}(h:Gy w v t):∃ra rc wa wc,v=sW #[Y tC t.start,J ra t.reads.length rc,J wa t.writes.length wc]:=by
 obtain⟨vr,vw,rfl,h1,h2⟩:=h;obtain⟨ra,rc,rfl⟩:=h1.shape;obtain⟨wa,wc,rfl⟩:=h2.shape;exact⟨ra,rc,wa,wc,rfl⟩
theorem Gy.parts{w:F}{t:Tx}{x y z:H}(h:Gy w (sW #[x,y,z]) t):x=Y tC t.start∧Z8 w y t.reads∧QQ w z t.writes:=by
 obtain⟨vr,vw,e,h1,h2⟩:=h;simp only[Value.agg.injEq,Array.mk.injEq,List.cons.injEq,and_true]at e;obtain⟨rfl,rfl,rfl⟩:=e;exact⟨rfl,h1,h2⟩
theorem vX{r:Rd}(h:XA r=0):Pk r:=by
 obtain⟨h1,h2,h3⟩:=(RK r).1 h;refine⟨by omega,by omega,?_⟩;split at h3;·omega
 ·rw[h3];simp
abbrev RV:=Rd×H×H×H
def Cx:RV:=(Ze,sN,sN,sN)
def Ga(us:List RV):List H:=us.flatMap fun x=>[x.2.1,x.2.2.1,tL x.1.wide,x.2.2.2]
theorem Na(a b:List RV):Ga (a++b)=Ga a++Ga b:=by
 simp[Ga]
theorem Eu:∀(us:List RV)(i:Nat),i<us.length->(Ga us)[i*4]?=I (us.getD i Cx).2.1∧(Ga us)[i*4+1]?=I (us.getD i Cx).2.2.1∧(Ga us)[i*4+2]?=I (tL (us.getD i Cx).1.wide)∧(Ga us)[i*4+3]?=I (us.getD i Cx).2.2.2|[],i,h=>by simp at h|x::us,0,_=>⟨rfl,rfl,rfl,rfl⟩|x::us,i+1,h=>by have:=Eu us i (by simpa using h);rw[show(i+1)*4=i*4+4by omega];exact this
theorem eJ:(220:Nat)≠5:=by
 decide
theorem fJ:(220:Nat)≠75:=by
 decide
def ZL(rb pb:Nat)(w:F)(v:H)(l:List Rd):Prop:=∃us:List RV,us.map (·.1)=l∧w.ownsRow rb 220 4 v l.length (Ga us)∧∀x∈us,Qi pb w x.2.1 x.1.name∧Qi pb w x.2.2.1 x.1.key∧Qi pb w x.2.2.2 x.1.last
theorem Ue(rb pb:Nat)(w:F):ZL rb pb w (J G 0 0) []:=⟨[],rfl,sP _ _ _ _,fun x hx=>by
 simp at hx⟩
theorem ZL.row{rb pb:Nat}{w:F}{v:H}{l:List Rd}(h:ZL rb pb w v l):v.ownBlock=G∨∃g cur fz,v.ownBlock=I g∧rb<=g∧w.heap[g]?=I (S cur 220 fz):=by
 obtain⟨us,_,h,_⟩:=h;rcases h.2with⟨rfl,_⟩|⟨g,cap,cur,rfl,hb,hg,_⟩;·exact .inl rfl
 ·exact .inr ⟨g,cur,_,rfl,hb,hg⟩
theorem ZL.lt{rb pb:Nat}{w:F}{v:H}{l:List Rd}(h:ZL rb pb w v l):∀k,v.ownBlock=I k->rb<=k∧k<w.heap.size:=by
 obtain⟨us,_,h,_⟩:=h;exact sI h
theorem ZL.ne{rb pb:Nat}{w:F}{v:H}{l:List Rd}(h:ZL rb pb w v l){b:Nat}{cs:Array H}{t:sA}{fz:Nat×Nat}(hb:w.heap[b]?=I (S cs t fz))(ht:t≠220):v.ownBlock≠I b:=by
 intro e;rcases h.row with h0|⟨g,cur,fz2,h1,_,h2⟩;·rw[h0]at e;cases e
 ·rw[h1]at e;cases e;rw[hb]at h2;simp only[tA,tZ]at h2;exact ht h2.2.1
theorem ZL.kept{rb pb:Nat}{w w':F}{v:H}{l:List Rd}(h:ZL rb pb w v l){row:Option Nat}(hg:L w w' row)(hne:v.ownBlock=G∨v.ownBlock≠row)(hrow:row=G∨∃g cur t fz,row=I g∧pb<=g∧w.heap[g]?=I (S cur t fz)∧t≠5):ZL rb pb w' v l:=by
 obtain⟨us,h1,h2,h3⟩:=h;exact⟨us,h1,tX h2 hg hne,fun x hx=>⟨(h3 x hx).1.keptT hg hrow,(h3 x hx).2.1.keptT hg hrow,(h3 x hx).2.2.keptT hg hrow⟩⟩
theorem ZL.grownNone{rb pb:Nat}{w w':F}{v:H}{l:List Rd}(h:ZL rb pb w v l)(hg:L w w' G):ZL rb pb w' v l:=h.kept hg (by
 cases hv:v.ownBlock with|none=>exact .inl rfl|some k=>exact .inr (by simp)) (.inl rfl)
theorem ZL.setOther{rb pb:Nat}{w:F}{v:H}{l:List Rd}(h:ZL rb pb w v l){b i:Nat}{cs:Array H}{t:sA}{fz:Nat×Nat}(hb:w.heap[b]?=I (S cs t fz))(ht:t≠5)(ht2:t≠220)(hbb:pb<=b)(u:H):ZL rb pb (tE w ⟨b,i,G⟩ u) v l:=h.kept (YH w b i u) (.inr (h.ne hb ht2)) (.inr ⟨b,cs,t,fz,rfl,hbb,hb,ht⟩)
theorem ZL.down{rb pb:Nat}{w:F}{v:H}{l:List Rd}(h:ZL rb pb w v l)(rb':Nat)(hb:rb'<=rb):ZL rb' pb w v l:=by
 obtain⟨us,h1,h2,h3⟩:=h;refine⟨us,h1,⟨h2.1,?_⟩,h3⟩;rcases h2.2with h|⟨g,cap,cur,e,hb2,rest⟩;·exact .inl h
 ·exact .inr ⟨g,cap,cur,e,tM hb hb2,rest⟩
theorem ZL.shape{rb pb:Nat}{w:F}{v:H}{l:List Rd}(h:ZL rb pb w v l):∃a cap,v=J a l.length cap:=by
 obtain⟨us,_,h,_⟩:=h;rcases h.2with⟨rfl,h0⟩|⟨g,cap,cur,rfl,_⟩;·exact⟨G,0,by rw[h0]⟩
 ·exact⟨_,cap,rfl⟩
theorem Hh{us:List RV}{l:List Rd}(h:us.map (·.1)=l)(i:Nat)(hi:i<l.length):(us.getD i Cx).1=l.getD i Ze∧us.getD i Cx∈us:=by
 subst h;have hi':i<us.length:=by simpa using hi
 refine⟨by simp[hi'],?_⟩;rw[show us.getD i Cx=us[i]by simp[hi']];exact sS hi'
theorem ZL.list{rb pb:Nat}{w:F}{v:H}{l:List Rd}(h:ZL rb pb w v l):Z8 w v l:=by
 obtain⟨us,hl,hr,h3⟩:=h;rcases hr.2with⟨rfl,h0⟩|⟨g,cap,cur,rfl,hb,hg,hn,hm,hs,ht⟩;·have:l=[]:=tJ h0;rw[this];exact D0 w
 ·(have hcell:∀j u,(Ga us)[j]?=I u->w.cell? ⟨g,j,G⟩=I u:=by intro j u hj;(have hlt:j<l.length*4:=by have:=(sM.1 hj).1;rw[hr.1]at this;exact this);(have e2:(cur.toList.take (l.length*4))[j]?=(Ga us)[j]?:=by rw[ht]);rw[sE,if_pos hlt,hj]at e2;simp[tW,hg];simpa using e2);refine⟨_,cap,rfl,hn,.inr ⟨g,0,rfl,fun i hi=>?_⟩⟩;obtain⟨e1,e2⟩:=Hh hl i hi;(have hlen:us.length=l.length:=by rw[<-hl];simp);obtain⟨c1,c2,c3,c4⟩:=Eu us i (by omega);have hp:=h3 _ e2;rw[e1]at c3 hp;rw[sR];exact⟨_,_,_,hcell _ _ c1,hcell _ _ c2,hcell _ _ c3,hcell _ _ c4,hp.1.1,hp.2.1.1,hp.2.2.1⟩
theorem F6{rb pb:Nat}{w W w1:F}{v:H}{l:List Rd}(h:L w W G)(ho:ZL rb pb W v l)(hb:w.heap.size<=rb)(hg:L W w1 v.ownBlock):L w w1 G:=⟨hg.os.trans h.os,hg.tape.trans h.tape,hg.output.trans h.output,tM h.size hg.size,fun i hi hn=>(hg.block i (tG hi h.size) (fun e=>by
 have:=(ho.lt i e.symm).1;omega)).trans (h.block i hi hn)⟩
theorem eG:(O.info? 220).map (fun i=>(i.zero,i.size,i.bytes))=I (I (sW #[J G 0 0,J G 0 0,tL N,J G 0 0]),4,80):=by
 kernel_rfl
def Gu(w:F)(v:H)(t:Tx):Prop:=∃vr vw,v=sW #[Y tC t.start,vr,vw]∧ZL 0 0 w vr t.reads∧Q4 0 0 w vw t.writes
theorem Gu.is{w:F}{v:H}{t:Tx}(h:Gu w v t):Gy w v t:=by
 obtain⟨vr,vw,rfl,h1,h2⟩:=h;exact⟨vr,vw,rfl,h1.list,h2.list⟩
theorem zN(w:F):Gu w (sW #[Y tC 0,J G 0 0,J G 0 0]) P9:=⟨_,_,rfl,Ue 0 0 w,Xu 0 0 w⟩
def Mb(w:F)(b o:Nat)(s:j9):Prop:=∃vo,w.cell? ⟨b,o,G⟩=I (Y tC s.bit)∧w.cell? ⟨b,o+1,G⟩=I (tL s.right)∧w.cell? ⟨b,o+2,G⟩=I vo∧Qe w vo s.other
theorem Mb.grown{w w':F}{b o:Nat}{s:j9}(h:Mb w b o s)(hg:L w w' G):Mb w' b o s:=by
 obtain⟨vo,c1,c2,c3,h1⟩:=h;exact⟨vo,hg.cell c1 (by simp),hg.cell c2 (by simp),hg.cell c3 (by simp),h1.grown hg⟩
def V4(w:F)(v:H)(l:List j9):Prop:=∃a cap,v=J a l.length cap∧l.length<=cap∧((l=[]∧(a=G->cap=0))∨∃b o,a=I ⟨b,o,G⟩∧∀i,i<l.length->Mb w b (o+i*3) (l.getD i A8))
theorem DU(w:F):V4 w (J G 0 0) []:=⟨G,0,rfl,tV _,.inl ⟨rfl,fun _=>rfl⟩⟩
theorem V4.grown{w w':F}{v:H}{l:List j9}(h:V4 w v l)(hg:L w w' G):V4 w' v l:=by
 obtain⟨a,cap,rfl,hc,h⟩:=h;refine⟨a,cap,rfl,hc,?_⟩;rcases h with h|⟨b,o,rfl,h⟩;·exact .inl h
 ·exact .inr ⟨b,o,rfl,fun i hi=>(h i hi).grown hg⟩
theorem V4.shape{w:F}{v:H}{l:List j9}(h:V4 w v l):∃a cap,v=J a l.length cap:=by
 obtain⟨a,cap,rfl,_⟩:=h;exact⟨a,cap,rfl⟩
def Kt(w:F)(v:H)(p:Db):Prop:=∃vs vk vv,v=sW #[tL p.empty,vs,vk,vv]∧V4 w vs p.steps∧Qe w vk p.pair.1∧Qe w vv p.pair.2
theorem Kt.grown{w w':F}{v:H}{p:Db}(h:Kt w v p)(hg:L w w' G):Kt w' v p:=by
 obtain⟨vs,vk,vv,rfl,h0,h1,h2⟩:=h;exact⟨vs,vk,vv,rfl,h0.grown hg,h1.grown hg,h2.grown hg⟩
theorem Us{w:F}{b:Nat}{x y:H}{t:sA}(h:w.heap[b]?=I (S #[x,y] t)):w.cell? ⟨b,0,G⟩=I x∧w.cell? ⟨b,1,G⟩=I y∧w.frozen? ⟨b,0,G⟩=N∧w.frozen? ⟨b,1,G⟩=N:=by
 refine⟨?_,?_,?_,?_⟩<;>simp[tW,rX,h]
theorem OO{w:F}{b:Nat}{x y:H}{t:sA}(h:w.heap[b]?=I (S #[x,y] t))(u v:H):((tE w ⟨b,0,G⟩ u).setCell ⟨b,1,G⟩ v).heap[b]?=I (S #[u,v] t):=by
 have h0:(tE w ⟨b,0,G⟩ u).heap[b]?=I (S #[u,y] t):=by simp only[tE,tY,if_true,h,rO];first|rfl|simp
 rw[tE,tY,if_pos rfl,h0];first|rfl|simp
theorem VZ{w:F}{b:Nat}{x y z:H}{t:sA}(h:w.heap[b]?=I (S #[x,y,z] t)):(w.cell? ⟨b,0,G⟩=I x∧w.cell? ⟨b,1,G⟩=I y∧w.cell? ⟨b,2,G⟩=I z)∧w.frozen? ⟨b,0,G⟩=N∧w.frozen? ⟨b,1,G⟩=N∧w.frozen? ⟨b,2,G⟩=N:=by
 refine⟨⟨?_,?_,?_⟩,?_,?_,?_⟩<;>simp[tW,rX,h]
theorem Ek{w:F}{b:Nat}{x y z:H}{t:sA}(h:w.heap[b]?=I (S #[x,y,z] t))(x' y' z':H):(((tE w ⟨b,0,G⟩ x').setCell ⟨b,1,G⟩ y').setCell ⟨b,2,G⟩ z').heap[b]?=I (S #[x',y',z'] t):=by
 have h0:(tE w ⟨b,0,G⟩ x').heap[b]?=I (S #[x',y,z] t):=by simp only[tE,tY,if_true,h,rO];first|rfl|simp
 have h1:((tE w ⟨b,0,G⟩ x').setCell ⟨b,1,G⟩ y').heap[b]?=I (S #[x',y',z] t):=by rw[tE,tY,if_pos rfl,h0];first|rfl|simp
 rw[tE,tY,if_pos rfl,h1];first|rfl|simp
theorem Pz{w w1:F}(h:L w w1 G)(b:Nat)(hb:w.heap.size<=b)(x y z:H):L w (((tE w1 ⟨b,0,G⟩ x).setCell ⟨b,1,G⟩ y).setCell ⟨b,2,G⟩ z) G:=Qd (Qd (Qd h _ hb _ _) _ hb _ _) _ hb _ _
def dU(w:F)(b:Nat):Prop:=∃cur t fz,w.heap[b]?=I (S cur t fz)∧(t=5∨∃q,cur[0]?=I (Y r7 q))
def yJ(w:F)(b:Nat):Prop:=∃cur t fz,w.heap[b]?=I (S cur t fz)∧t≠5∧∀q,cur[0]?≠I (Y r7 q)
theorem dU.ne{w:F}{a b:Nat}(h:dU w a)(h':yJ w b):a≠b:=by
 rintro rfl;obtain⟨cur,t,fz,h1,h2⟩:=h;obtain⟨cur',t',fz',h3,h4,h5⟩:=h';rw[h1]at h3;simp only[tA,tZ]at h3;obtain⟨rfl,rfl,_⟩:=h3;rcases h2 with h2|⟨q,h2⟩;·exact h4 h2
 ·exact h5 q h2
theorem yJ.grown{w w':F}{b:Nat}(h:yJ w b)(hg:L w w' G):yJ w' b:=by
 obtain⟨cur,t,fz,h1,h2⟩:=h;exact⟨cur,t,fz,by rw[hg.block b (tI.1 h1).1 (by simp)];exact h1,h2⟩
theorem yJ.set{w:F}{c:Nat}(h:yJ w c)(i:Nat)(u:H)(hu:∀q,u≠Y r7 q):yJ (tE w ⟨c,i,G⟩ u) c:=by
 obtain⟨cur,t,fz,h1,h2,h3⟩:=h;refine⟨cur.setIfInBounds i u,t,fz,?_,h2,fun q hq=>?_⟩;·simp only[tE,tY,if_true,h1,rO];first|rfl|simp
 ·rw[Array.getElem?_setIfInBounds]at hq;split at hq;(·split at hq;(·simp at hq;exact hu q hq);·cases hq);·exact h3 q hq
theorem Mg{w:F}{c:Nat}{x:H}{xs:List H}{t:sA}{fz:Nat×Nat}(h:w.heap[c]?=I (S ⟨x::xs⟩ t fz))(ht:t≠5)(hx:∀q,x≠Y r7 q):yJ w c:=⟨_,t,fz,h,ht,fun q hq=>by
 simp at hq;exact hx q hq⟩
def XU(w:F)(v:H)(bs:List UInt8):Prop:=Qe w v bs∧(bs=[]∨∃b,v.ownBlock=I b∧b<w.heap.size∧dU w b)
theorem eZ:(144:Nat)≠5:=by
 decide
theorem Uq(w:F):XU w (J G 0 0) []:=⟨QK _,.inl rfl⟩
theorem Q8.partS{base':Nat}{w:F}{v:H}{bs:List UInt8}(h:Q8 base' w v bs):XU w v bs:=by
 refine⟨h.slice,?_⟩;rcases h.2with⟨rfl,h0⟩|⟨g,cap,cur,rfl,hb,hg,_⟩;·exact .inl (tJ h0)
 ·exact .inr ⟨g,rfl,(tI.1 hg).1,cur,_,_,hg,.inl rfl⟩
theorem ZH.partS{w:F}{nb:Nat}{bs:List UInt8}(h:ZH w nb bs)(hl:bs.length=32):XU w (J (I ⟨nb,0,G⟩) 32 32) bs:=by
 refine⟨h.slice32 hl,.inr ⟨nb,rfl,Vn (h.cell 0 (by omega)),?_⟩⟩;have hc:=h.cell 0 (by omega);obtain⟨t,hb⟩:=h;refine⟨_,t,_,hb,.inr ⟨((bs.getD 0 0).toNat:Int),?_⟩⟩;·simpa[tW,hb]using hc
theorem RA{w:F}{v:H}{bs:List UInt8}(h:XU w v bs):v.oneCell'=M:=by
 obtain⟨⟨a,cap,rfl,_⟩,_⟩:=h;rfl
def fM(w:F)(row:Option Nat):Prop:=row=G∨∃g,row=I g∧yJ w g
theorem XU.kept{w w':F}{v:H}{bs:List UInt8}(h:XU w v bs){row:Option Nat}(hg:L w w' row)(hrow:fM w row):XU w' v bs:=by
 obtain⟨hs,ho⟩:=h;rcases ho with rfl|⟨b,hb,hlt,hc⟩;·obtain⟨a,cap,rfl,hc,h⟩:=hs;refine⟨⟨a,cap,rfl,hc,?_⟩,.inl rfl⟩;rcases h with h|⟨b,o,rfl,h⟩;(·exact .inl h);·exact .inr ⟨b,o,rfl,fun i hi=>by simp at hi⟩
 ·(have hne:I b≠row:=by intro e;rcases hrow with rfl|⟨g,rfl,hg'⟩;(·cases e);·cases e;exact hc.ne hg' rfl);have hblk:=hg.block b hlt hne;refine⟨?_,.inr ⟨b,hb,tG hlt hg.size,?_⟩⟩;(·obtain⟨a,cap,rfl,hcp,h⟩:=hs;refine⟨a,cap,rfl,hcp,?_⟩;rcases h with h|⟨b',o,rfl,h⟩;(·exact .inl h);·refine .inr ⟨b',o,rfl,fun i hi=>?_⟩;simp[pM]at hb;subst hb;exact hg.cell (h i hi) (by simpa using hne));·obtain⟨cur,t,fz,hc,hc2⟩:=hc;exact⟨cur,t,fz,by rw[hblk];exact hc,hc2⟩
theorem XU.grown{w w':F}{v:H}{bs:List UInt8}(h:XU w v bs)(hg:L w w' G):XU w' v bs:=h.kept hg (.inl rfl)
theorem XU.set{w:F}{v:H}{bs:List UInt8}(h:XU w v bs){c:Nat}(hc:yJ w c)(i:Nat)(u:H):XU (tE w ⟨c,i,G⟩ u) v bs:=h.kept (Qf (Qb _ (I c)) i u) (.inr ⟨c,rfl,hc⟩)
abbrev SV:=j9×H
def Ll:SV:=(A8,sN)
def Ub(us:List SV):List H:=us.flatMap fun x=>[Y tC x.1.bit,tL x.1.right,x.2]
theorem Mj(a b:List SV):Ub (a++b)=Ub a++Ub b:=by
 simp[Ub]
theorem E7:∀(us:List SV)(i:Nat),i<us.length->(Ub us)[i*3]?=I (Y tC (us.getD i Ll).1.bit)∧(Ub us)[i*3+1]?=I (tL (us.getD i Ll).1.right)∧(Ub us)[i*3+2]?=I (us.getD i Ll).2|[],i,h=>by simp at h|x::r,0,_=>by simp[Ub]|x::r,i+1,h=>by have:=E7 r i (by simpa using h);rw[show(i+1)*3=i*3+3by omega,show i*3+3+1=(i*3+1)+3by omega,show i*3+3+2=(i*3+2)+3by omega];simpa[Ub]using this
theorem Lu(us:List SV):∀u∈Ub us,(∀x∈us,x.2.oneCell'=M)->u.oneCell'=M:=by
 intro u hu h;obtain⟨x,hx,hu⟩:=List.mem_flatMap.1 hu;simp only[tK,tS,or_false]at hu;rcases hu with rfl|rfl|rfl;·rfl
 ·rfl
 ·exact h x hx
def JH(base:Nat)(w:F)(v:H)(l:List j9):Prop:=∃us:List SV,us.map (·.1)=l∧w.ownsRow base 144 3 v l.length (Ub us)∧(∀x∈us,XU w x.2 x.1.other)∧(l=[]->v=J G 0 0)
theorem kU(base:Nat)(w:F):JH base w (J G 0 0) []:=⟨[],rfl,sP _ _ _ _,fun x hx=>by
 simp at hx,fun _=>rfl⟩
theorem JH.row{base:Nat}{w:F}{v:H}{l:List j9}(h:JH base w v l):fM w v.ownBlock:=by
 obtain⟨us,hm,h,_,h0⟩:=h;cases l with|nil=>rw[h0 rfl];exact .inl rfl|cons x r=>rcases h.2with⟨rfl,_⟩|⟨g,cap,cur,rfl,hb,hg,hn,_,_,ht⟩;(·exact .inl rfl);·refine .inr ⟨g,rfl,cur,_,_,hg,eZ,fun q=>?_⟩;cases us with|nil=>simp at hm|cons u us=>simp only[pH,List.cons.injEq]at hm;(have e:(cur.toList.take ((x::r).length*3))[0]?=(Ub (u::us))[0]?:=by rw[ht]);rw[sE,if_pos (by simp)]at e;rw[<-pA,e];simp[Ub]
theorem JH.lt{base:Nat}{w:F}{v:H}{l:List j9}(h:JH base w v l):∀k,v.ownBlock=I k->base<=k∧k<w.heap.size:=by
 obtain⟨us,_,h,_⟩:=h;exact sI h
theorem JH.grownNone{base:Nat}{w w':F}{v:H}{l:List j9}(h:JH base w v l)(hg:L w w' G):JH base w' v l:=by
 obtain⟨us,h1,h2,h3,h4⟩:=h;refine⟨us,h1,tX h2 hg ?_,fun x hx=>(h3 x hx).grown hg,h4⟩;cases hv:v.ownBlock with|none=>exact .inl rfl|some k=>exact .inr (by simp)
theorem JH.alloc{base:Nat}{w:F}{v:H}{l:List j9}(h:JH base w v l)(o:Obj):JH base (w.alloc o) v l:=h.grownNone (rA _ _ _)
theorem JH.shape{base:Nat}{w:F}{v:H}{l:List j9}(h:JH base w v l):∃a cap,v=J a l.length cap:=by
 obtain⟨us,_,h,_⟩:=h;rcases h.2with⟨rfl,h0⟩|⟨g,cap,cur,rfl,_⟩;·exact⟨G,0,by rw[h0]⟩
 ·exact⟨_,cap,rfl⟩
theorem JH.cells{base:Nat}{w:F}{g n cap:Nat}{us:List SV}{k:Nat}(hr:w.ownsRow base 144 3 (J (I ⟨g,0,G⟩) n cap) k (Ub us)):∀j u,(Ub us)[j]?=I u->w.cell? ⟨g,j,G⟩=I u:=by
 intro j u hj;rcases hr.2with⟨e,_⟩|⟨g',cap',cur,e,hb,hg,hn,hm,hs,ht⟩;·cases e
 ·simp only[tH,tA,rJ]at e;obtain⟨⟨rfl,_⟩,_,_⟩:=e;(have hlt:j<k*3:=by have:=(sM.1 hj).1;rw[hr.1]at this;exact this);(have e2:(cur.toList.take (k*3))[j]?=(Ub us)[j]?:=by rw[ht]);rw[sE,if_pos hlt,hj]at e2;simp[tW,hg];simpa using e2
theorem IV{us:List SV}{l:List j9}(h:us.map (·.1)=l)(i:Nat)(hi:i<l.length):(us.getD i Ll).1=l.getD i A8∧us.getD i Ll∈us:=by
 subst h;have hi':i<us.length:=by simpa using hi
 constructor;·simp[hi']
 ·rw[show us.getD i Ll=us[i]by simp[hi']];exact sS _
theorem JH.list{base:Nat}{w:F}{v:H}{l:List j9}(h:JH base w v l):V4 w v l:=by
 obtain⟨us,hl,hr,h3,_⟩:=h;have hul:us.length=l.length:=by rw[<-hl];simp
 rcases hr.2with⟨rfl,h0⟩|⟨g,cap,cur,rfl,hb,hg,hn,hm,hs,ht⟩;·have:l=[]:=tJ h0;subst this;exact DU w
 ·refine⟨_,cap,rfl,hn,.inr ⟨g,0,rfl,fun i hi=>?_⟩⟩;obtain⟨e1,e2⟩:=IV hl i hi;obtain⟨c1,c2,c3⟩:=E7 us i (by omega);have hp:=h3 _ e2;rw[e1]at c1 c2 hp;rw[sR];exact⟨_,JH.cells hr _ _ c1,JH.cells hr _ _ c2,JH.cells hr _ _ c3,hp.1⟩
theorem JH.set{base:Nat}{w:F}{v:H}{l:List j9}(h:JH base w v l){c:Nat}(hc:yJ w c)(hne:c<base)(i:Nat)(u:H):JH base (tE w ⟨c,i,G⟩ u) v l:=by
 have hlt:=h.lt;obtain⟨us,h1,h2,h3,h4⟩:=h;refine⟨us,h1,tX h2 (Qf (Qb _ (I c)) i u) ?_,fun x hx=>(h3 x hx).set hc i u,h4⟩;cases hv:v.ownBlock with|none=>exact .inl rfl|some k=>exact .inr (by have:=(hlt k hv).1;simp;omega)
theorem dG:(44:Nat)≠5:=by
 decide
theorem fR:(42:Nat)≠5:=by
 decide
theorem Vh{W:F}{pb:Nat}{x y:H}(h:W.heap[pb]?=I (S #[x,y] 42))(hx:∀q,x≠Y r7 q)(ua va:Option rC)(un uc vn vc:Nat){z:H}{bs:List UInt8}(hz:XU W z bs):XU ((tE W ⟨pb,0,G⟩ (J ua un uc)).setCell ⟨pb,1,G⟩ (J va vn vc)) z bs:=have h0:yJ W pb:=Mg (xs:=[y]) h fR hx;have h1:=h0.set 0 (J ua un uc) (fun q=>by
 simp);(hz.set h0 0 _).set h1 1 _
theorem XU.quad{w:F}{v:H}{bs:List UInt8}(h:XU w v bs){c:Nat}(hc:yJ w c){e:Bool}{sa:Option rC}{sn sc:Nat}{ka va:Option rC}{kn kc vn vc:Nat}:XU ((((tE w ⟨c,0,G⟩ (tL e)).setCell ⟨c,1,G⟩ (J sa sn sc)).setCell ⟨c,2,G⟩ (J ka kn kc)).setCell ⟨c,3,G⟩ (J va vn vc)) v bs:=have h1:=hc.set 0 (tL e) (fun q=>by
 simp);have h2:=h1.set 1 (J sa sn sc) (fun q=>by
 simp);have h3:=h2.set 2 (J ka kn kc) (fun q=>by
 simp);(((h.set hc 0 _).set h1 1 _).set h2 2 _).set h3 3 _
theorem JH.quad{base:Nat}{w:F}{v:H}{l:List j9}(h:JH base w v l){c:Nat}(hc:yJ w c)(hne:c<base){e:Bool}{sa:Option rC}{sn sc:Nat}{ka va:Option rC}{kn kc vn vc:Nat}:JH base ((((tE w ⟨c,0,G⟩ (tL e)).setCell ⟨c,1,G⟩ (J sa sn sc)).setCell ⟨c,2,G⟩ (J ka kn kc)).setCell ⟨c,3,G⟩ (J va vn vc)) v l:=have h1:=hc.set 0 (tL e) (fun q=>by
 simp);have h2:=h1.set 1 (J sa sn sc) (fun q=>by
 simp);have h3:=h2.set 2 (J ka kn kc) (fun q=>by
 simp);(((h.set hc hne 0 _).set h1 hne 1 _).set h2 hne 2 _).set h3 hne 3 _
def Zv(n:Nat)(w:F)(v:H)(p:Db):Prop:=∃base vs vk vv,v=sW #[tL p.empty,vs,vk,vv]∧n<=base∧base<=w.heap.size∧JH base w vs p.steps∧XU w vk p.pair.1∧XU w vv p.pair.2
theorem Zv.is{n:Nat}{w:F}{v:H}{p:Db}(h:Zv n w v p):Kt w v p:=by
 obtain⟨base,vs,vk,vv,rfl,_,_,h1,h2,h3⟩:=h;exact⟨vs,vk,vv,rfl,h1.list,h2.1,h3.1⟩
theorem BP{base:Nat}{w W w1:F}{v:H}{l:List j9}(h:L w W G)(ho:JH base W v l)(hb:w.heap.size<=base)(hg:L W w1 v.ownBlock):L w w1 G:=⟨hg.os.trans h.os,hg.tape.trans h.tape,hg.output.trans h.output,tM h.size hg.size,fun i hi hn=>(hg.block i (tG hi h.size) (fun e=>by
 have:=(ho.lt i e.symm).1;omega)).trans (h.block i hi hn)⟩
theorem Ig:(O.info? 144).map (fun i=>(i.zero,i.size,i.bytes))=I (I (sW #[Y tC 0,tL N,J G 0 0]),3,40):=by
 kernel_rfl
theorem TI{w:F}{o:rP}{a:Act}{K:Act->F->Prop}{Q:Exit->Act->F->Prop}(s x:rK)(ho:o.op=.call {callee:=.builtin .append,args:=#[s,x],argTypes:=#[40,40]})(base:Nat)(v:H)(l:List j9)(hs:a.eval s=v)(hown:JH base w v l)(vo:H)(p:j9)(hk:XU w vo p.other)(nb:Nat)(hb:∀j u,[Y tC p.bit,tL p.right,vo][j]?=I u->w.cell? ⟨nb,j,G⟩=I u)(hx:a.eval x=J (I ⟨nb,0,G⟩) 1 1)(hl:(l.length+1)*40<=140737488355328)(hbase:base<=w.heap.size)(h:∀v' w',JH base w' v' (l++[p])->L w w' v.ownBlock->K (a.put o.dst v') w'):o.wp O a w K Q:=by
 obtain⟨i0,hi,hz0,hz1,hz2⟩:=pC Ig;have hrow:=hown.row;obtain⟨us,hul,hr,hp,_⟩:=hown;refine wp_append_own w s x 40 ho base 144 i0 (sW #[Y tC 0,tL N,J G 0 0]) 3 40 Tryz.underlying40 hi hz0 hz1 hz2 rfl (by decide) v l.length (Ub us) hs hr ⟨nb,0,G⟩ 1 1 (Ub [(p,vo)]) hx rfl ?_ ?_ (by unfold pD;omega) hl hbase ?_;·intro j u hj;rw[ZQ,sR];exact hb j u (by simpa[Ub]using hj)
 ·intro u hu;exact Lu _ u hu fun y hy=>by simp at hy;subst hy;exact RA hk
 ·intro v' w' h1 h2 _;refine h _ w' ⟨us++[(p,vo)],by simp[hul],?_,?_,fun e=>by simp at e⟩ h2;(·rw[Mj,tB];exact h1);·intro y hy;rcases sB.1 hy with hy|hy;(·exact(hp y hy).kept h2 hrow);·simp at hy;subst hy;exact hk.kept h2 hrow
theorem jT{w:F}{ops:Array rP}{rest:List rP}{o:rP}{a:Act}{Q:Exit->Act->F->Prop}(hgd:o.guard=G)(s x:rK)(ho:o.op=.call {callee:=.builtin .append,args:=#[s,x],argTypes:=#[40,40]})(base:Nat)(v:H)(l:List j9)(hs:a.eval s=v)(hown:JH base w v l)(vo:H)(p:j9)(hk:XU w vo p.other)(nb:Nat)(hb:∀j u,[Y tC p.bit,tL p.right,vo][j]?=I u->w.cell? ⟨nb,j,G⟩=I u)(hx:a.eval x=J (I ⟨nb,0,G⟩) 1 1)(hl:(l.length+1)*40<=140737488355328)(hbase:base<=w.heap.size)(h:∀v' w',JH base w' v' (l++[p])->L w w' v.ownBlock->wpList O ops Q rest (a.put o.dst v') w'):wpList O ops Q (o::rest) a w:=wpList_plain hgd fun _ hK=>TI s x ho base v l hs hown vo p hk nb hb hx hl hbase fun v' w' h1 h2=>hK _ _ (h v' w' h1 h2)
theorem Lw{w:F}{nb:Nat}{p:j9}{vo:H}{t:sA}(h:w.heap[nb]?=I (S #[Y tC p.bit,tL p.right,vo] t)):∀j u,[Y tC p.bit,tL p.right,vo][j]?=I u->w.cell? ⟨nb,j,G⟩=I u:=by
 intro j u hj;simp[tW,h];simpa using hj
def cK:H->Nat|J _ n _=>n|_=>0
def vN(t:sA):Prop:=t=115∨t=46∨t=210∨t=33∨t=3
def A9(B:Nat)(w:F)(i:Nat):Prop:=i<B∨∀cs t fz,w.heap[i]?=I (S cs t fz)->(¬vN t∨∃q,cs[0]?=I (Y r7 q))
structure Kp (B : Nat) (w w' : F) : Prop where
  os : w'.os = w.os
  tape : w'.tape = w.tape
  output : w'.output = w.output
  size : w.heap.size <= w'.heap.size
  keep : ∀ i, i < w.heap.size -> A9 B w i -> w'.heap[i]? = w.heap[i]?
theorem Kp.refl(B:Nat)(w:F):Kp B w w:=⟨rfl,rfl,rfl,tV _,fun _ _ _=>rfl⟩
theorem A9.same{B:Nat}{w w':F}{i:Nat}(h:A9 B w i)(e:w'.heap[i]?=w.heap[i]?):A9 B w' i:=by
 rcases h with h|h;·exact .inl h
 ·exact .inr fun cs t fz hc=>h cs t fz (by rw[<-e];exact hc)
theorem Kp.trans{B:Nat}{w w1 w2:F}(h:Kp B w w1)(k:Kp B w1 w2):Kp B w w2:=⟨k.os.trans h.os,k.tape.trans h.tape,k.output.trans h.output,tM h.size k.size,fun i hi hs=>by
 have e:=h.keep i hi hs;exact(k.keep i (tG hi h.size) (hs.same e)).trans e⟩
theorem Kp.grown{B:Nat}{w w':F}(h:L w w' G):Kp B w w':=⟨h.os,h.tape,h.output,h.size,fun i hi _=>h.block i hi (by
 simp)⟩
theorem Kp.turn{B:Nat}{w w':F}{g:Nat}{cs:Array H}{t:sA}{fz:Nat×Nat}(h:L w w' (I g))(hB:B<=g)(hb:w.heap[g]?=I (S cs t fz))(ht:vN t)(h0:∀q,cs[0]?≠I (Y r7 q)):Kp B w w':=⟨h.os,h.tape,h.output,h.size,fun i hi hs=>by
 refine h.block i hi fun e=>?_;cases e;rcases hs with hs|hs;·omega
 ·rcases hs cs t fz hb with h1|⟨q,h1⟩;(·exact h1 ht);·exact h0 q h1⟩
theorem Kp.low{B:Nat}{w w':F}(h:Kp B w w')(w0:F)(hg:L w0 w G)(hB:w0.heap.size<=B):L w0 w' G:=⟨h.os.trans hg.os,h.tape.trans hg.tape,h.output.trans hg.output,tM hg.size h.size,fun i hi hn=>(h.keep i (tG hi hg.size) (.inl (by
 omega))).trans (hg.block i hi hn)⟩
def UV(t:sA):Prop:=t=5∨t=42∨t=67∨t=75∨t=220∨t=144
def qU(t:sA):Prop:=¬UV t
theorem vN.two{t:sA}(h:vN t):qU t:=by
 rcases h with rfl|rfl|rfl|rfl|rfl<;>simp[qU,UV]
def N4(B:Nat)(w:F)(i:Nat):Prop:=i<B∨∀cs t fz,w.heap[i]?=I (S cs t fz)->(¬qU t∨∃q,cs[0]?=I (Y r7 q))
structure Cw (B : Nat) (w w' : F) : Prop where
  os : w'.os = w.os
  tape : w'.tape = w.tape
  output : w'.output = w.output
  size : w.heap.size <= w'.heap.size
  keep : ∀ i, i < w.heap.size -> N4 B w i -> w'.heap[i]? = w.heap[i]?
theorem Kp.two{B C:Nat}{w w':F}(h:Kp B w w')(hC:C<=B):Cw C w w':=⟨h.os,h.tape,h.output,h.size,fun i hi hs=>h.keep i hi (by
 rcases hs with hs|hs;·exact .inl (tG hs hC)
 ·exact .inr fun cs t fz hc=>(hs cs t fz hc).imp (fun h1 h2=>h1 h2.two) id)⟩
theorem Cw.refl(B:Nat)(w:F):Cw B w w:=⟨rfl,rfl,rfl,tV _,fun _ _ _=>rfl⟩
theorem N4.same{B:Nat}{w w':F}{i:Nat}(h:N4 B w i)(e:w'.heap[i]?=w.heap[i]?):N4 B w' i:=by
 rcases h with h|h;·exact .inl h
 ·exact .inr fun cs t fz hc=>h cs t fz (by rw[<-e];exact hc)
theorem Cw.trans{B:Nat}{w w1 w2:F}(h:Cw B w w1)(k:Cw B w1 w2):Cw B w w2:=⟨k.os.trans h.os,k.tape.trans h.tape,k.output.trans h.output,tM h.size k.size,fun i hi hs=>by
 have e:=h.keep i hi hs;exact(k.keep i (tG hi h.size) (hs.same e)).trans e⟩
theorem Cw.grown{B:Nat}{w w':F}(h:L w w' G):Cw B w w':=⟨h.os,h.tape,h.output,h.size,fun i hi _=>h.block i hi (by
 simp)⟩
def So(w:F)(i:Nat):Prop:=∀cs t fz,w.heap[i]?=I (S cs t fz)->(UV t∨t=46∨∃q,cs[0]?=I (Y r7 q))
structure KL (w w' : F) : Prop where
  os : w'.os = w.os
  tape : w'.tape = w.tape
  output : w'.output = w.output
  size : w.heap.size <= w'.heap.size
  keep : ∀ i, i < w.heap.size -> So w i -> w'.heap[i]? = w.heap[i]?
theorem KL.two{w w':F}(h:KL w w'):Cw 0 w w':=⟨h.os,h.tape,h.output,h.size,fun i hi hs=>h.keep i hi fun cs t fz hc=>by
 rcases hs with hs|hs;·omega
 ·rcases hs cs t fz hc with h1|h1;(·exact .inl (sV h1));·exact .inr (.inr h1)⟩
theorem KL.refl(w:F):KL w w:=⟨rfl,rfl,rfl,tV _,fun _ _ _=>rfl⟩
theorem So.same{w w':F}{i:Nat}(h:So w i)(e:w'.heap[i]?=w.heap[i]?):So w' i:=fun cs t fz hc=>h cs t fz (by
 rw[<-e];exact hc)
theorem KL.trans{w w1 w2:F}(h:KL w w1)(k:KL w1 w2):KL w w2:=⟨k.os.trans h.os,k.tape.trans h.tape,k.output.trans h.output,tM h.size k.size,fun i hi hs=>by
 have e:=h.keep i hi hs;exact(k.keep i (tG hi h.size) (hs.same e)).trans e⟩
theorem KL.grown{w w':F}(h:L w w' G):KL w w':=⟨h.os,h.tape,h.output,h.size,fun i hi _=>h.block i hi (by
 simp)⟩
theorem KL.turn{w w':F}{row:Option Nat}(h:L w w' row)(hr:∀g,row=I g->∃cs t fz,w.heap[g]?=I (S cs t fz)∧¬UV t∧t≠46∧∀q,cs[0]?≠I (Y r7 q)):KL w w':=⟨h.os,h.tape,h.output,h.size,fun i hi hs=>by
 refine h.block i hi fun e=>?_;obtain⟨cs,t,fz,hb,h1,h2,h3⟩:=hr i e.symm;rcases hs cs t fz hb with h4|h4|⟨q,h4⟩;·exact h1 h4
 ·exact h2 h4
 ·exact h3 q h4⟩
def JU(w:F)(P:F->Prop):Prop:=∀w',KL w w'->P w'
theorem JU.now{w:F}{P:F->Prop}(h:JU w P):P w:=h w (KL.refl w)
theorem JU.later{w w':F}{P:F->Prop}(h:JU w P)(k:KL w w'):JU w' P:=fun w2 k2=>h w2 (k.trans k2)
theorem JU.grown{w w':F}{P:F->Prop}(h:JU w P)(k:L w w' G):JU w' P:=h.later (KL.grown k)
def Y5(w:F)(P:F->Prop):Prop:=∀w',L w w' G->P w'
theorem Y5.now{w:F}{P:F->Prop}(h:Y5 w P):P w:=h w (Qb w G)
theorem Y5.grown{w w':F}{P:F->Prop}(h:Y5 w P)(k:L w w' G):Y5 w' P:=fun w2 k2=>h w2 (Qa k k2)
def Zc(B:Nat)(w:F)(P:F->Prop):Prop:=∀w',Cw B w w'->P w'
theorem Zc.now{B:Nat}{w:F}{P:F->Prop}(h:Zc B w P):P w:=h w (Cw.refl B w)
theorem Zc.later{B C:Nat}{w w':F}{P:F->Prop}(h:Zc C w P)(k:Kp B w w')(hC:C<=B:=by
 first|exact Nat.zero_le _|exact Nat.le_refl _):Zc C w' P:=fun w2 k2=>h w2 ((k.two hC).trans k2)
theorem Zc.later2{C:Nat}{w w':F}{P:F->Prop}(h:Zc C w P)(k:Cw C w w'):Zc C w' P:=fun w2 k2=>h w2 (k.trans k2)
theorem Zc.grown{C:Nat}{w w':F}{P:F->Prop}(h:Zc C w P)(k:L w w' G):Zc C w' P:=h.later2 (Cw.grown k)
theorem Zc.mono{B:Nat}{w:F}{P Q:F->Prop}(h:Zc B w P)(k:∀w',P w'->Q w'):Zc B w Q:=fun w' h'=>k w' (h w' h')
theorem Ve{w w':F}{v:H}{bs:List UInt8}(h:Qe w v bs)(hb:bs=[]∨∃b,v.ownBlock=I b∧w'.heap[b]?=w.heap[b]?):Qe w' v bs:=by
 obtain⟨a,cap,rfl,hc,h⟩:=h;refine⟨a,cap,rfl,hc,?_⟩;rcases h with h|⟨b,o,rfl,h⟩;·exact .inl h
 ·refine .inr ⟨b,o,rfl,fun i hi=>?_⟩;rcases hb with rfl|⟨b',e,hb⟩;(·simp at hi);·simp[pM]at e;subst e;rw[sO hb];exact h i hi
theorem fN:¬qU 5:=by
 simp[qU,UV]
theorem ZY{B:Nat}{w:F}{v:H}{bs:List UInt8}(h:Qi 0 w v bs):Zc B w (fun w=>Qi 0 w v bs):=fun w' k=>by
 obtain⟨h1,h2⟩:=h;rcases h2 with h2|⟨b,e,hl,h2⟩;·exact⟨Ve h1 (.inl h2),.inl h2⟩
 ·(obtain⟨cur,fz,h2⟩:∃cur fz,w.heap[b]?=I (S cur 5 fz):=by rcases h2 with h2|h2;(·omega);·exact h2);have hs:w'.heap[b]?=w.heap[b]?:=k.keep b hl (.inr fun cs t f hc=>.inl (by rw[h2]at hc;simp only[tA,tZ]at hc;rw[<-hc.2.1];exact fN));exact⟨Ve h1 (.inr ⟨b,e,hs⟩),.inr ⟨b,e,tG hl k.size,.inr ⟨cur,fz,by rw[hs];exact h2⟩⟩⟩
theorem Gb{B:Nat}{w:F}{v:H}{bs:List UInt8}(h:XU w v bs):Zc B w (fun w=>XU w v bs):=fun w' k=>by
 obtain⟨h1,h2⟩:=h;rcases h2 with h2|⟨b,e,hl,cur,t,fz,h2,h3⟩;·exact⟨Ve h1 (.inl h2),.inl h2⟩
 ·have hs:w'.heap[b]?=w.heap[b]?:=k.keep b hl (.inr fun cs t' f hc=>by rw[h2]at hc;simp only[tA,tZ]at hc;obtain⟨rfl,rfl,_⟩:=hc;rcases h3 with rfl|h3;(·exact .inl fN);·exact .inr h3);exact⟨Ve h1 (.inr ⟨b,e,hs⟩),.inr ⟨b,e,tG hl k.size,cur,t,fz,by rw[hs];exact h2,h3⟩⟩
theorem UD{B base:Nat}{w:F}{t:sA}{n m:Nat}{v:H}{xs:List H}(h:w.ownsRow base t n v m xs)(ht:¬qU t):Zc B w (fun w=>w.ownsRow base t n v m xs):=fun w' k=>by
 refine⟨h.1,?_⟩;rcases h.2with h|⟨g,cap,cur,e,hb,hg,rest⟩;·exact .inl h
 ·refine .inr ⟨g,cap,cur,e,hb,?_,rest⟩;rw[k.keep g (tI.1 hg).1 (.inr fun cs t' f hc=>.inl (by rw[hg]at hc;simp only[tA,tZ]at hc;rw[<-hc.2.1];exact ht))];exact hg
theorem Bx{B rb:Nat}{w:F}{v:H}{l:List Rd}(h:ZL rb 0 w v l):Zc B w (fun w=>ZL rb 0 w v l):=fun w' k=>by
 obtain⟨us,h1,h2,h3⟩:=h;exact⟨us,h1,UD h2 (by simp[qU,UV]) w' k,fun x hx=>⟨ZY (h3 x hx).1 w' k,ZY (h3 x hx).2.1 w' k,ZY (h3 x hx).2.2 w' k⟩⟩
theorem C4{B rb:Nat}{w:F}{v:H}{l:List Zf}(h:Q4 rb 0 w v l):Zc B w (fun w=>Q4 rb 0 w v l):=fun w' k=>by
 obtain⟨us,h1,h2,h3⟩:=h;exact⟨us,h1,UD h2 (by simp[qU,UV]) w' k,fun x hx=>⟨ZY (h3 x hx).1 w' k,ZY (h3 x hx).2.1 w' k,ZY (h3 x hx).2.2 w' k⟩⟩
theorem Vi{B:Nat}{w:F}{v:H}{l:PL}(h:QN 0 w v l):Zc B w (fun w=>QN 0 w v l):=fun w' k=>by
 obtain⟨a,cap,rfl,hc,h⟩:=h;refine⟨a,cap,rfl,hc,?_⟩;rcases h with h|⟨b,o,rfl,hb,h⟩;·exact .inl h
 ·(obtain⟨cur,fz,hb⟩:∃cur fz,w.heap[b]?=I (S cur 42 fz):=by rcases hb with hb|hb;(·omega);·exact hb);have hs:w'.heap[b]?=w.heap[b]?:=k.keep b (tI.1 hb).1 (.inr fun cs t f hc=>.inl (by rw[hb]at hc;simp only[tA,tZ]at hc;rw[<-hc.2.1];simp[qU,UV]));refine .inr ⟨b,o,rfl,.inr ⟨cur,fz,by rw[hs];exact hb⟩,fun i hi=>?_⟩;obtain⟨vk,vv,c1,c2,h1,h2⟩:=h i hi;exact⟨vk,vv,by rw[sO hs];exact c1,by rw[sO hs];exact c2,ZY h1 w' k,ZY h2 w' k⟩
theorem Bc{B rb:Nat}{w:F}{v:H}{l:FL}(h:Zx rb w v l):Zc B w (fun w=>Zx rb w v l):=fun w' k=>by
 obtain⟨vs,h1,h2,h3⟩:=h;exact⟨vs,h1,UD h2 (by simp[qU,UV]) w' k,fun i hi=>⟨ZY (h3 i hi).1 w' k,Vi (h3 i hi).2 w' k⟩⟩
theorem Rk{B:Nat}{w:F}{v:H}{l:List Zf}(h:Xm 0 w v l):Zc B w (fun w=>Xm 0 w v l):=fun w' k=>by
 obtain⟨a,cap,rfl,hc,h⟩:=h;refine⟨a,cap,rfl,hc,?_⟩;rcases h with h|⟨b,o,rfl,hb,h⟩;·exact .inl h
 ·(obtain⟨cur,fz,hb⟩:∃cur fz,w.heap[b]?=I (S cur 75 fz):=by rcases hb with hb|hb;(·omega);·exact hb);have hs:w'.heap[b]?=w.heap[b]?:=k.keep b (tI.1 hb).1 (.inr fun cs t f hc=>.inl (by rw[hb]at hc;simp only[tA,tZ]at hc;rw[<-hc.2.1];simp[qU,UV]));refine .inr ⟨b,o,rfl,.inr ⟨cur,fz,by rw[hs];exact hb⟩,fun i hi=>?_⟩;obtain⟨vn,vk,vv,c1,c2,c3,c4,h1,h2,h3⟩:=h i hi;exact⟨vn,vk,vv,by rw[sO hs];exact c1,by rw[sO hs];exact c2,by rw[sO hs];exact c3,by rw[sO hs];exact c4,ZY h1 w' k,ZY h2 w' k,ZY h3 w' k⟩
theorem xW{B:Nat}{w:F}{v:H}{t:Tx}(h:Gu w v t):Zc B w (fun w=>Gu w v t):=fun w' k=>by
 obtain⟨vr,vw,rfl,h1,h2⟩:=h;exact⟨vr,vw,rfl,Bx h1 w' k,C4 h2 w' k⟩
theorem Al{B base:Nat}{w:F}{v:H}{l:List j9}(h:JH base w v l):Zc B w (fun w=>JH base w v l):=fun w' k=>by
 obtain⟨us,h1,h2,h3,h4⟩:=h;exact⟨us,h1,UD h2 (by simp[qU,UV]) w' k,fun x hx=>Gb (h3 x hx) w' k,h4⟩
theorem xI{B n:Nat}{w:F}{v:H}{p:Db}(h:Zv n w v p):Zc B w (fun w=>Kt w v p):=fun w' k=>by
 obtain⟨base,vs,vk,vv,rfl,_,_,h1,h2,h3⟩:=h;exact⟨vs,vk,vv,rfl,(Al h1 w' k).list,(Gb h2 w' k).1,(Gb h3 w' k).1⟩
section
section
variable{α:Type}{T:sA}{k:Nat}{P:F->List H->α->Prop}{B:Nat}{w w':F}{v:H}{l:List α}
def Jx(T:sA)(k:Nat)(P:F->List H->α->Prop)(B:Nat)(w:F)(v:H)(l:List α):Prop:=∃us:List (List H×α),us.map (·.2)=l∧w.ownsRow B T k v l.length (us.flatMap (·.1))∧(l=[]->v=J G 0 0)∧∀x∈us,x.1.length=k∧(∀u∈x.1,u.oneCell'=M)∧(∀q,x.1[0]?≠I (Y r7 q))∧Zc 0 w (fun w=>P w x.1 x.2)
theorem uN(T:sA)(k:Nat)(P:F->List H->α->Prop)(B:Nat)(w:F):Jx T k P B w (J G 0 0) []:=⟨[],rfl,sP _ _ _ _,fun _=>rfl,fun x hx=>by
 simp at hx⟩
theorem Jx.kept(h:Jx T k P B w v l)(hk:Kp B w w')(hs:∀g,v.ownBlock=I g->w'.heap[g]?=w.heap[g]?):Jx T k P B w' v l:=by
 obtain⟨us,h1,h2,h3,h4⟩:=h;refine⟨us,h1,⟨h2.1,?_⟩,h3,fun x hx=>⟨(h4 x hx).1,(h4 x hx).2.1,(h4 x hx).2.2.1,(h4 x hx).2.2.2.later hk⟩⟩;rcases h2.2with h|⟨g,cap,cur,rfl,hb,hg,rest⟩;·exact .inl h
 ·exact .inr ⟨g,cap,cur,rfl,hb,by rw[hs g rfl];exact hg,rest⟩
theorem Jx.kept2(h:Jx T k P B w v l)(hk:Cw 0 w w')(hs:∀g,v.ownBlock=I g->w'.heap[g]?=w.heap[g]?):Jx T k P B w' v l:=by
 obtain⟨us,h1,h2,h3,h4⟩:=h;refine⟨us,h1,⟨h2.1,?_⟩,h3,fun x hx=>⟨(h4 x hx).1,(h4 x hx).2.1,(h4 x hx).2.2.1,(h4 x hx).2.2.2.later2 hk⟩⟩;rcases h2.2with h|⟨g,cap,cur,rfl,hb,hg,rest⟩;·exact .inl h
 ·exact .inr ⟨g,cap,cur,rfl,hb,by rw[hs g rfl];exact hg,rest⟩
theorem Jx.lt(h:Jx T k P B w v l):∀g,v.ownBlock=I g->B<=g∧g<w.heap.size:=by
 obtain⟨us,h1,h2,h3,h4⟩:=h;exact sI h2
theorem Jx.grown(h:Jx T k P B w v l)(hg:L w w' G):Jx T k P B w' v l:=h.kept (Kp.grown hg) fun g e=>hg.block g (h.lt g e).2 (by
 simp)
theorem Jx.shape(h:Jx T k P B w v l):∃a cap,v=J a l.length cap:=by
 obtain⟨us,_,h,_⟩:=h;rcases h.2with⟨rfl,h0⟩|⟨g,cap,cur,rfl,_⟩;·exact⟨G,0,by rw[h0]⟩
 ·exact⟨_,cap,rfl⟩
theorem Sl{k:Nat}:∀(us:List (List H×α))(_:∀x∈us,x.1.length=k)(i:Nat)(hi:i<us.length)(j:Nat),j<k->(us.flatMap (·.1))[i*k+j]?=us[i].1[j]?|[],_,i,hi,_,_=>by simp at hi|x::us,hk,0,_,j,hj=>by have:=hk x (by simp);simp[pQ (show j<x.1.length by omega)]|x::us,hk,i+1,hi,j,hj=>by have hx:=hk x (by simp);have:=Sl us (fun y hy=>hk y (by simp[hy])) i (by simpa using hi) j hj;rw[tP,List.getElem?_append_right (by rw[hx,rY];omega),hx,show(i+1)*k+j-k=i*k+j by rw[rY];omega,this];simp
theorem Jx.blk(hk0:0<k)(h:Jx T k P B w v l):v.ownBlock=G∨∃g cs,v.ownBlock=I g∧B<=g∧w.heap[g]?=I (S cs T (0,0))∧∀q,cs[0]?≠I (Y r7 q):=by
 obtain⟨us,h1,h2,h3,h4⟩:=h;rcases h2.2with⟨rfl,_⟩|⟨g,cap,cur,rfl,hb,hg,hn,_,hcs,ht⟩;·exact .inl rfl
 ·refine .inr ⟨g,cur,rfl,hb,hg,fun q hq=>?_⟩;cases us with|nil=>subst h1;have:=h3 rfl;cases this|cons x us=>(have hl:l.length=us.length+1:=by rw[<-h1];simp);(have e:(cur.toList.take (l.length*k))[0]?=((x::us).flatMap (·.1))[0]?:=by rw[ht]);have hx:=(h4 x (by simp)).1;rw[sE,if_pos (by rw[hl,rY];omega),tP,pQ (by omega),pA,hq]at e;exact(h4 x (by simp)).2.2.1 q e.symm
theorem Jx.turn(hk0:0<k)(hT:vN T)(h:Jx T k P B w v l)(hg:L w w' v.ownBlock):Kp B w w':=by
 rcases h.blk hk0 with e|⟨g,cs,e,hb,hc,h0⟩;·rw[e]at hg;exact Kp.grown hg
 ·rw[e]at hg;exact Kp.turn hg hb hc hT h0
theorem Jx.other(hk0:0<k)(h:Jx T k P B w v l){row:Option Nat}(hk:Kp B w w')(hg:L w w' row)(hr:row=G∨∃g cs t fz,row=I g∧w.heap[g]?=I (S cs t fz)∧t≠T):Jx T k P B w' v l:=by
 refine h.kept hk fun g e=>?_;refine hg.block g (h.lt g e).2 fun e2=>?_;rcases hr with rfl|⟨g',cs,t,fz,rfl,hc,ht⟩;·cases e2
 ·cases e2;rcases h.blk hk0 with e3|⟨g2,cs2,e3,_,hc2,_⟩;(·rw[e3]at e;cases e);·rw[e3]at e;cases e;rw[hc]at hc2;simp only[tA,tZ]at hc2;exact ht hc2.2.1
theorem Jx.at(h:Jx T k P B w v l)(d:α)(i:Nat)(hi:i<l.length):∃g cap cs,v=J (I ⟨g,0,G⟩) l.length cap∧cs.length=k∧l.length<=cap∧(∀j,j<k->w.cell? ⟨g,i*k+j,G⟩=cs[j]?)∧Zc 0 w (fun w=>P w cs (l.getD i d)):=by
 obtain⟨us,h1,h2,h3,h4⟩:=h;have hul:us.length=l.length:=by rw[<-h1];simp
 rcases h2.2with⟨rfl,h0⟩|⟨g,cap,cur,rfl,hb,hg,hn,_,hcs,ht⟩;·omega
 ·have hx:=h4 us[i] (sS (by omega));refine⟨g,cap,us[i].1,rfl,hx.1,hn,fun j hj=>?_,?_⟩;(·(have e:(cur.toList.take (l.length*k))[i*k+j]?=(us.flatMap (·.1))[i*k+j]?:=by rw[ht]);(have hlt:i*k+j<l.length*k:=by have:(i+1)*k<=l.length*k:=pF k hi;rw[rY]at this;omega);rw[Sl us (fun x hx=>(h4 x hx).1) i (by omega) j hj,sE,if_pos hlt,pA]at e;simp[tW,hg,e]);·(have e:l.getD i d=us[i].2:=by subst h1;simp[List.getD,show i<us.length by omega]);rw[e];exact hx.2.2.2
theorem xH{o:rP}{a:Act}{K:Act->F->Prop}{Q:Exit->Act->F->Prop}(s x:rK)(t:sA)(ho:o.op=.call {callee:=.builtin .append,args:=#[s,x],argTypes:=#[t,t]})(i:TypeInfo)(z:H)(bytes:Nat)(ht:O.underlying t=I (.slice T))(hi:O.info? T=I i)(hz:i.zero=I z)(hsize:i.size=k)(hby:i.bytes=bytes)(hzs:z.cells.size=k)(hsz:0<k)(hT:vN T)(hs:a.eval s=v)(hown:Jx T k P B w v l)(nb:Nat)(cs:List H)(y:α)(hx:a.eval x=J (I ⟨nb,0,G⟩) 1 1)(hcl:cs.length=k)(hc:∀j u,cs[j]?=I u->w.cell? ⟨nb,j,G⟩=I u)(h1:∀u∈cs,u.oneCell'=M)(h0:∀q,cs[0]?≠I (Y r7 q))(hP:Zc 0 w (fun w=>P w cs y))(h63:l.length+1<=pD)(hbytes:(l.length+1)*bytes<=140737488355328)(hbase:B<=w.heap.size)(h:∀v' w',Jx T k P B w' v' (l++[y])->Kp B w w'->L w w' v.ownBlock->K (a.put o.dst v') w'):o.wp O a w K Q:=by
 have hown0:=hown;obtain⟨us,e1,h2,h3,h4⟩:=hown;refine wp_append_lies w s x t ho B T i z k bytes ht hi hz hsize hby hzs hsz v l.length (us.flatMap (·.1)) hs h2 ⟨nb,0,G⟩ 1 1 cs hx (by omega) (fun j u hj=>by rw[ZQ,sR];exact hc j u hj) h1 (by omega) h63 hbytes hbase _ rfl ?_;intro g cap w' hr hg hgg hlt;have hk:=hown0.turn hsz hT hg;refine h _ w' ⟨us++[(cs,y)],by simp[e1],?_,fun e=>by simp at e,fun x hx=>?_⟩ hk hg;·simpa[List.flatMap_append]using hr
 ·rcases sB.1 hx with hx|hx;(·exact⟨(h4 x hx).1,(h4 x hx).2.1,(h4 x hx).2.2.1,(h4 x hx).2.2.2.later hk⟩);·(obtain rfl:x=(cs,y):=by simpa using hx);exact⟨hcl,h1,h0,hP.later hk⟩
theorem Jx.take(h:Jx T k P B w v l){a:Option rC}{n cap:Nat}(hv:v=J a n cap)(m:Nat)(hm:m<=l.length)(h0:0<m):Jx T k P B w (J a m cap) (l.take m):=by
 subst hv;obtain⟨us,h1,h2,h3,h4⟩:=h;have hul:us.length=l.length:=by rw[<-h1];simp
 have hlm:(l.take m).length=m:=by simp;omega
 rcases h2.2with⟨e,h0'⟩|⟨g,cp,cur,e,hb,hg,hn,hmx,hcs,ht⟩;·omega
 ·simp only[tH]at e;obtain⟨rfl,rfl,rfl⟩:=e;(have hfl:(us.take m).flatMap (·.1)=(us.flatMap (·.1)).take (m*k):=by(have hk:∀(vs:List (List H×α)),(∀x∈vs,x.1.length=k)->∀m,(vs.take m).flatMap (·.1)=(vs.flatMap (·.1)).take (m*k):=by intro vs;induction vs with|nil=>intro _ m;simp|cons x vs ih=>intro hx m;cases m with|zero=>simp|succ m=>have:=hx x (by simp);rw[rH,tP,tP,ih (fun y hy=>hx y (by simp[hy])) m,List.take_append,this,rY,show m*k+k-k=m*k by omega,pR (l:=x.1) (by omega)]);exact hk us (fun x hx=>(h4 x hx).1) m);refine⟨us.take m,by rw[<-h1,List.map_take],⟨?_,.inr ⟨g,cap,cur,by rw[hlm],hb,hg,by omega,hmx,hcs,?_⟩⟩,fun e=>?_,fun x hx=>h4 x (List.mem_of_mem_take hx)⟩;(·rw[hfl,rF,h2.1,hlm];have:m*k<=l.length*k:=pF k hm;omega);(·rw[hlm,hfl,<-ht,pN];have:m*k<=l.length*k:=pF k hm;rw[r8 this]);·rw[e]at hlm;simp at hlm;omega
end
end
theorem PH:(210:Nat)≠5:=by
 decide
theorem yO:(210:Nat)≠75:=by
 decide
def De(w:F)(b o:Nat)(c:Xz):Prop:=∃vs,w.cell? ⟨b,o,G⟩=I (Y tC c.turn)∧w.cell? ⟨b,o+1,G⟩=I vs∧QQ w vs c.writes
theorem De.grown{w w':F}{b o:Nat}{c:Xz}(h:De w b o c)(hg:L w w' G):De w' b o c:=by
 obtain⟨vs,c1,c2,h⟩:=h;exact⟨vs,hg.cell c1 (by simp),hg.cell c2 (by simp),h.grown hg⟩
def YZ(w:F)(v:H)(l:List Xz):Prop:=∃a cap,v=J a l.length cap∧l.length<=cap∧((l=[]∧(a=G->cap=0))∨∃b o,a=I ⟨b,o,G⟩∧∀i,i<l.length->De w b (o+i*2) (l.getD i Zl))
theorem Rv(w:F):YZ w (J G 0 0) []:=⟨G,0,rfl,tV _,.inl ⟨rfl,fun _=>rfl⟩⟩
theorem YZ.shape{w:F}{v:H}{l:List Xz}(h:YZ w v l):∃a cap,v=J a l.length cap:=by
 obtain⟨a,cap,rfl,_⟩:=h;exact⟨a,cap,rfl⟩
theorem YZ.grown{w w':F}{v:H}{l:List Xz}(h:YZ w v l)(hg:L w w' G):YZ w' v l:=by
 obtain⟨a,cap,rfl,hc,h⟩:=h;refine⟨a,cap,rfl,hc,?_⟩;rcases h with h|⟨b,o,rfl,h⟩;·exact .inl h
 ·exact .inr ⟨b,o,rfl,fun i hi=>(h i hi).grown hg⟩
theorem YZ.at{w:F}{a:Option rC}{n cap:Nat}{l:List Xz}(h:YZ w (J a n cap) l)(i:Nat)(hi:i<l.length):∃b o,a=I ⟨b,o,G⟩∧De w b (o+i*2) (l.getD i Zl):=by
 obtain⟨a',cap',e,hc,h⟩:=h;simp only[tH]at e;obtain⟨rfl,rfl,rfl⟩:=e;rcases h with⟨rfl,_⟩|⟨b,o,rfl,h⟩;·simp at hi
 ·exact⟨b,o,rfl,h i hi⟩
structure C5 (l : List Xz) : Prop where
  many : l.length * 32 <= 140737488355328
  each : ∀ i, i < l.length -> EF (l.getD i Zl)
abbrev CV:=Xz×H
def yY(us:List CV):List H:=us.flatMap fun x=>[Y tC x.1.turn,x.2]
theorem Nf(a b:List CV):yY (a++b)=yY a++yY b:=by
 simp[yY]
theorem bC:(O.info? 210).map (fun i=>(i.zero,i.size,i.bytes))=I (I (sW #[Y tC 0,J G 0 0]),2,32):=by
 kernel_rfl
def YX(base:Nat)(w:F)(v:H)(l:List Xz):Prop:=∃us:List CV,us.map (·.1)=l∧w.ownsRow base 210 2 v l.length (yY us)∧(l=[]->v=J G 0 0)∧∀x∈us,Xm 0 w x.2 x.1.writes
theorem Dh(base:Nat)(w:F):YX base w (J G 0 0) []:=⟨[],rfl,sP _ _ _ _,fun _=>rfl,fun x hx=>by
 simp at hx⟩
theorem YX.row{base:Nat}{w:F}{v:H}{l:List Xz}(h:YX base w v l):v.ownBlock=G∨∃g cur t fz,v.ownBlock=I g∧base<=g∧w.heap[g]?=I (S cur t fz)∧t≠5∧t≠75:=by
 obtain⟨us,_,h,_⟩:=h;rcases h.2with⟨rfl,_⟩|⟨g,cap,cur,rfl,hb,hg,_⟩;·exact .inl rfl
 ·exact .inr ⟨g,cur,_,_,rfl,hb,hg,PH,yO⟩
theorem YX.row0{base:Nat}{w:F}{v:H}{l:List Xz}(h:YX base w v l):v.ownBlock=G∨∃g cur t fz,v.ownBlock=I g∧0<=g∧w.heap[g]?=I (S cur t fz)∧t≠5∧t≠75:=by
 rcases h.row with h|⟨g,cur,t,fz,h1,_,h2⟩;·exact .inl h
 ·exact .inr ⟨g,cur,t,fz,h1,tU _,h2⟩
theorem YX.lt{base:Nat}{w:F}{v:H}{l:List Xz}(h:YX base w v l):∀k,v.ownBlock=I k->base<=k∧k<w.heap.size:=by
 obtain⟨us,_,h,_⟩:=h;exact sI h
theorem YX.grownNone{base:Nat}{w w':F}{v:H}{l:List Xz}(h:YX base w v l)(hg:L w w' G):YX base w' v l:=by
 obtain⟨us,h1,h2,h0,h3⟩:=h;refine⟨us,h1,tX h2 hg ?_,h0,fun x hx=>(h3 x hx).kept hg (.inl rfl)⟩;cases hv:v.ownBlock with|none=>exact .inl rfl|some k=>exact .inr (by simp)
theorem YX.shape{base:Nat}{w:F}{v:H}{l:List Xz}(h:YX base w v l):∃a cap,v=J a l.length cap:=by
 obtain⟨us,_,h,_⟩:=h;rcases h.2with⟨rfl,h0⟩|⟨g,cap,cur,rfl,_⟩;·exact⟨G,0,by rw[h0]⟩
 ·exact⟨_,cap,rfl⟩
theorem Bt{base:Nat}{w W w1:F}{v:H}{l:List Xz}(h:L w W G)(ho:YX base W v l)(hb:w.heap.size<=base)(hg:L W w1 v.ownBlock):L w w1 G:=⟨hg.os.trans h.os,hg.tape.trans h.tape,hg.output.trans h.output,tM h.size hg.size,fun i hi hn=>(hg.block i (tG hi h.size) (fun e=>by
 have:=(ho.lt i e.symm).1;omega)).trans (h.block i hi hn)⟩
theorem T8{w:F}{o:rP}{a:Act}{K:Act->F->Prop}{Q:Exit->Act->F->Prop}(s x:rK)(ho:o.op=.call {callee:=.builtin .append,args:=#[s,x],argTypes:=#[107,107]})(base:Nat)(v:H)(l:List Xz)(hs:a.eval s=v)(hown:YX base w v l)(vw:H)(c:Xz)(hw:Xm 0 w vw c.writes)(nb:Nat)(hb:w.heap[nb]?=I (S #[Y tC c.turn,vw] 210))(hx:a.eval x=J (I ⟨nb,0,G⟩) 1 1)(hl:(l.length+1)*32<=140737488355328)(hbase:base<=w.heap.size)(h:∀v' w',YX base w' v' (l++[c])->L w w' v.ownBlock->K (a.put o.dst v') w'):o.wp O a w K Q:=by
 obtain⟨i0,hi,hz0,hz1,hz2⟩:=pC bC;have hrow:=hown.row0;obtain⟨us,hul,hr,_,hp⟩:=hown;refine wp_append_lies w s x 107 ho base 210 i0 (sW #[Y tC 0,J G 0 0]) 2 32 Tryz.underlying107 hi hz0 hz1 hz2 rfl (by decide) v l.length (yY us) hs hr ⟨nb,0,G⟩ 1 1 (yY [(c,vw)]) hx rfl (rG (cs:=#[Y tC c.turn,vw]) hb) ?_ (by omega) (by unfold pD;omega) hl hbase _ rfl ?_;·intro u hu;simp only[yY,tP,rN,sK,tK,tS,or_false]at hu;rcases hu with rfl|rfl;(·rfl);·exact hw.oneCell
 ·intro g cap w' q1 q2 _ _;refine h _ w' ⟨us++[(c,vw)],by simp[hul],?_,fun e=>by simp at e,?_⟩ q2;(·rw[Nf,tB];exact q1);·intro y hy;rcases sB.1 hy with hy|hy;(·exact(hp y hy).kept q2 hrow);·simp only[tK,tS,or_false]at hy;subst hy;exact hw.kept q2 hrow
theorem jO{w:F}{ops:Array rP}{rest:List rP}{o:rP}{a:Act}{Q:Exit->Act->F->Prop}(hgd:o.guard=G)(s x:rK)(ho:o.op=.call {callee:=.builtin .append,args:=#[s,x],argTypes:=#[107,107]})(base:Nat)(v:H)(l:List Xz)(hs:a.eval s=v)(hown:YX base w v l)(vw:H)(c:Xz)(hw:Xm 0 w vw c.writes)(nb:Nat)(hb:w.heap[nb]?=I (S #[Y tC c.turn,vw] 210))(hx:a.eval x=J (I ⟨nb,0,G⟩) 1 1)(hl:(l.length+1)*32<=140737488355328)(hbase:base<=w.heap.size)(h:∀v' w',YX base w' v' (l++[c])->L w w' v.ownBlock->wpList O ops Q rest (a.put o.dst v') w'):wpList O ops Q (o::rest) a w:=wpList_plain hgd fun _ hK=>T8 s x ho base v l hs hown vw c hw nb hb hx hl hbase fun v' w' h1 h2=>hK _ _ (h v' w' h1 h2)
theorem YX.ne{base:Nat}{w:F}{v:H}{l:List Xz}(h:YX base w v l){b:Nat}{cs:Array H}{t:sA}{fz:Nat×Nat}(hb:w.heap[b]?=I (S cs t fz))(ht:t≠210):v.ownBlock≠I b:=by
 intro e;obtain⟨us,_,h,_⟩:=h;rcases h.2with⟨rfl,_⟩|⟨g,cap,cur,rfl,_,hg,_⟩;·cases e
 ·cases e;rw[hb]at hg;simp only[tA,tZ]at hg;exact ht hg.2.1
theorem YX.setOther{base:Nat}{w:F}{v:H}{l:List Xz}(h:YX base w v l){b i:Nat}{cs:Array H}{t:sA}{fz:Nat×Nat}(hb:w.heap[b]?=I (S cs t fz))(ht:t≠5)(ht2:t≠75)(ht3:t≠210)(u:H):YX base (tE w ⟨b,i,G⟩ u) v l:=by
 have hne:=h.ne hb ht3;obtain⟨us,h1,h2,h0,h3⟩:=h;exact⟨us,h1,tX h2 (YH w b i u) (.inr hne),h0,fun x hx=>(h3 x hx).kept (YH w b i u) (.inr ⟨b,cs,t,fz,rfl,tU _,hb,ht,ht2⟩)⟩
theorem YX.other{base:Nat}{w w':F}{v:H}{l:List Xz}(h:YX base w v l)(hg:L w w' v.ownBlock){b:Nat}{cs:Array H}{t:sA}{fz:Nat×Nat}(hb:w.heap[b]?=I (S cs t fz))(ht:t≠210):w'.heap[b]?=I (S cs t fz):=by
 rw[hg.block b (tI.1 hb).1 (fun e=>h.ne hb ht e.symm)];exact hb
def Hk:Prop:=∀(w:F)(v u:H)(t:Tx)(r:Rd),Gy w v t->zP t->Yr w u r->Pk r->sY O 131 #[v,u] w fun e w'=>∃x,e=tD (sL #[x,Y tC (Xe t r)])∧Gu w' x (XN t r)∧L w w' G
theorem Qg(w:F)(o:Obj):∃W:F,Hid (W=w.alloc o)∧L w W G∧Hid (W.heap[w.heap.size]?=I o):=⟨w.alloc o,rfl,rA _ _ _,oI w o⟩
theorem ZZ{x y:Int}(h:x=y):tD (Y tC y)=tD (Y tC x):=by
 rw[h]
theorem YI{x y:Bool}(h:x=y):tD (tL y)=tD (tL x):=by
 rw[h]
theorem Xx{W w:F}{b:Nat}{x y z:H}{t:sA}(hg:L W w G)(h:W.heap[b]?=I (S #[x,y,z] t)):w.cell? ⟨b,0,G⟩=I x∧w.cell? ⟨b,1,G⟩=I y∧w.cell? ⟨b,2,G⟩=I z:=by
 have hb:w.heap[b]?=I (S #[x,y,z] t):=by rw[hg.block b (tI.1 h).1 (by simp)];exact h
 refine⟨?_,?_,?_⟩<;>simp[tW,hb]
def Nq(p:List Rd)(r:Rd):Int:=if XA r=0then(if p.any (fun q=>XC q r)=M then 3 else 0)else XA r
def Mk(p:List Zf)(w:Zf):Int:=if QA w=0then(if p.any (fun q=>ZN q w)=M then 3 else 0)else QA w
theorem Oj(l:List Rd)(m:Nat)(h:m<l.length):Gx (l.take m) (l.drop m)=if Nq (l.take m) (l.getD m Ze)=0then Gx (l.take (m+1)) (l.drop (m+1))else Nq (l.take m) (l.getD m Ze):=by
 rw[sX h,Gx,sZ h,show l[m]=l.getD m Ze by simp[h]];unfold Nq;by_cases h1:XA (l.getD m Ze)=0;·rw[if_pos h1,if_pos h1];by_cases h2:(l.take m).any (fun q=>XC q (l.getD m Ze))=M;(·rw[if_pos h2,if_pos h2,if_neg (by omega)]);·rw[if_neg h2,if_neg h2,if_pos rfl]
 ·rw[if_neg h1,if_neg h1,if_neg h1]
theorem Ov(l:List Zf)(m:Nat)(h:m<l.length):zZ (l.take m) (l.drop m)=if Mk (l.take m) (l.getD m Qq)=0then zZ (l.take (m+1)) (l.drop (m+1))else Mk (l.take m) (l.getD m Qq):=by
 rw[sX h,zZ,sZ h,show l[m]=l.getD m Qq by simp[h]];unfold Mk;by_cases h1:QA (l.getD m Qq)=0;·rw[if_pos h1,if_pos h1];by_cases h2:(l.take m).any (fun q=>ZN q (l.getD m Qq))=M;(·rw[if_pos h2,if_pos h2,if_neg (by omega)]);·rw[if_neg h2,if_neg h2,if_pos rfl]
 ·rw[if_neg h1,if_neg h1,if_neg h1]
theorem Pj{α:Type}(d:α)(f:α->Bool)(l:List α)(k:Nat)(h:k<l.length):(l.take (k+1)).any f=((l.take k).any f||f (l.getD k d)):=by
 rw[sZ h,List.any_append,show l[k]=l.getD k d by simp[h]];simp
theorem RZ{α:Type}(d:α)(f:α->Bool)(l:List α)(k m:Nat)(hk:k<m)(hm:m<=l.length)(h:f (l.getD k d)=M):(l.take m).any f=M:=by
 rw[rD];refine⟨l.getD k d,?_,h⟩;rw[show l.getD k d=(l.take m)[k]'(by rw[rF];omega)by rw[List.getElem_take];simp[show k<l.length by omega]];exact sS _
theorem zA{w:F}{a:Option rC}{n cap:Nat}{l:List Rd}(h:Z8 w (J a n cap) l)(i:Nat)(hi:i<l.length):∃b o,a=I ⟨b,o,G⟩∧∃u1 u2 u3 u4 u5 u6,(w.cell? ⟨b,o+i*4,G⟩=I (J u1 (l.getD i Ze).name.length u2)∧w.cell? ⟨b,o+i*4+1,G⟩=I (J u3 (l.getD i Ze).key.length u4)∧w.cell? ⟨b,o+i*4+2,G⟩=I (tL (l.getD i Ze).wide)∧w.cell? ⟨b,o+i*4+3,G⟩=I (J u5 (l.getD i Ze).last.length u6))∧Yr w (sW #[J u1 (l.getD i Ze).name.length u2,J u3 (l.getD i Ze).key.length u4,tL (l.getD i Ze).wide,J u5 (l.getD i Ze).last.length u6]) (l.getD i Ze):=by
 obtain⟨b,o,rfl,hat⟩:=h.at i hi;obtain⟨vn,vk,vl,c1,c2,c3,c4,s1,s2,s3⟩:=hat;obtain⟨u1,u2,rfl⟩:=s1.shape;obtain⟨u3,u4,rfl⟩:=s2.shape;obtain⟨u5,u6,rfl⟩:=s3.shape;exact⟨b,o,rfl,u1,u2,u3,u4,u5,u6,⟨c1,c2,c3,c4⟩,⟨_,_,_,rfl,s1,s2,s3⟩⟩
theorem X9{w:F}{a:Option rC}{n cap:Nat}{l:List Zf}(h:QQ w (J a n cap) l)(i:Nat)(hi:i<l.length):∃b o,a=I ⟨b,o,G⟩∧∃u1 u2 u3 u4 u5 u6,(w.cell? ⟨b,o+i*4,G⟩=I (J u1 (l.getD i Qq).name.length u2)∧w.cell? ⟨b,o+i*4+1,G⟩=I (J u3 (l.getD i Qq).key.length u4)∧w.cell? ⟨b,o+i*4+2,G⟩=I (tL (l.getD i Qq).gone)∧w.cell? ⟨b,o+i*4+3,G⟩=I (J u5 (l.getD i Qq).value.length u6))∧Z9 w (sW #[J u1 (l.getD i Qq).name.length u2,J u3 (l.getD i Qq).key.length u4,tL (l.getD i Qq).gone,J u5 (l.getD i Qq).value.length u6]) (l.getD i Qq):=by
 obtain⟨b,o,rfl,hat⟩:=h.at i hi;obtain⟨vn,vk,vl,c1,c2,c3,c4,s1,s2,s3⟩:=hat;obtain⟨u1,u2,rfl⟩:=s1.shape;obtain⟨u3,u4,rfl⟩:=s2.shape;obtain⟨u5,u6,rfl⟩:=s3.shape;exact⟨b,o,rfl,u1,u2,u3,u4,u5,u6,⟨c1,c2,c3,c4⟩,⟨_,_,_,rfl,s1,s2,s3⟩⟩
theorem Rf{x y:Bool}{a b:Int}(h:x=y)(k:a=b):tD (sL #[tL y,Y tC b])=tD (sL #[tL x,Y tC a]):=by
 rw[h,k]
theorem Ib{α:Type}(f:α->Bool)(l:List α)(d:α)(i:Nat)(hi:i<l.length)(h:f (l.getD i d)=M):l.any f=M:=by
 have:=RZ d f l i l.length hi (tV _) h;rw[sF]at this;exact this
theorem qJ:(110:Nat)≠5:=by
 decide
theorem jB:(110:Nat)≠220:=by
 decide
theorem GC:(110:Nat)≠75:=by
 decide
theorem ZL.block{rb pb:Nat}{W w':F}{v:H}{l:List Rd}(ho:ZL rb pb W v l)(hg:L W w' v.ownBlock){b:Nat}{cs:Array H}{t:sA}{fz:Nat×Nat}(h:W.heap[b]?=I (S cs t fz))(ht:t≠220):w'.heap[b]?=I (S cs t fz):=by
 rw[hg.block b (tI.1 h).1 (fun e=>ho.ne h ht e.symm)];exact h
theorem Q4.block{rb pb:Nat}{W w':F}{v:H}{l:List Zf}(ho:Q4 rb pb W v l)(hg:L W w' v.ownBlock){b:Nat}{cs:Array H}{t:sA}{fz:Nat×Nat}(h:W.heap[b]?=I (S cs t fz))(ht:t≠75):w'.heap[b]?=I (S cs t fz):=by
 rw[hg.block b (tI.1 h).1 (fun e=>ho.ne h ht e.symm)];exact h
theorem ZL.keptV{rb rb':Nat}{W w':F}{v u:H}{l:List Rd}{k:List Zf}(hR:ZL rb 0 W v l)(hV:Q4 rb' 0 W u k)(hg:L W w' u.ownBlock):ZL rb 0 w' v l:=by
 refine hR.kept hg ?_ ?_;·rcases hR.row with h|⟨g,cur,fz,e,_,h⟩;(·exact .inl h);·refine .inr ?_;rw[e];exact fun e2=>hV.ne h (fun e=>fJ e) e2.symm
 ·rcases hV.row with h|⟨g,cur,fz,e,_,h⟩;(·exact .inl h);·exact .inr ⟨g,cur,_,fz,e,tU _,h,kC⟩
theorem QJ{w:F}{b:Nat}{x y z:H}{t:sA}(h:w.heap[b]?=I (S #[x,y,z] t)):(w.cell? ⟨b,0,G⟩=I x∧w.cell? ⟨b,1,G⟩=I y∧w.cell? ⟨b,2,G⟩=I z)∧w.frozen? ⟨b,0,G⟩=N∧w.frozen? ⟨b,1,G⟩=N∧w.frozen? ⟨b,2,G⟩=N:=by
 refine⟨⟨?_,?_,?_⟩,?_,?_,?_⟩<;>simp[tW,rX,h]
theorem UG{rb:Nat}{w wr:F}{RB:Nat}{x y z:H}{st:Int}{va ua:Option rC}{n m vc uc:Nat}{R:List Rd}{V:List Zf}(h:wr.heap[RB]?=I (S #[x,y,z] 110))(hR:ZL rb 0 wr (J va n vc) R)(hV:Q4 rb 0 wr (J ua m uc) V)(hg:L w wr G)(hw:w.heap.size<=RB):((((tE wr ⟨RB,0,G⟩ (Y tC st)).setCell ⟨RB,1,G⟩ (J va n vc)).setCell ⟨RB,2,G⟩ (J ua m uc)).cell? ⟨RB,0,G⟩=I (Y tC st)∧(((tE wr ⟨RB,0,G⟩ (Y tC st)).setCell ⟨RB,1,G⟩ (J va n vc)).setCell ⟨RB,2,G⟩ (J ua m uc)).cell? ⟨RB,1,G⟩=I (J va n vc)∧(((tE wr ⟨RB,0,G⟩ (Y tC st)).setCell ⟨RB,1,G⟩ (J va n vc)).setCell ⟨RB,2,G⟩ (J ua m uc)).cell? ⟨RB,2,G⟩=I (J ua m uc))∧ZL rb 0 (((tE wr ⟨RB,0,G⟩ (Y tC st)).setCell ⟨RB,1,G⟩ (J va n vc)).setCell ⟨RB,2,G⟩ (J ua m uc)) (J va n vc) R∧Q4 rb 0 (((tE wr ⟨RB,0,G⟩ (Y tC st)).setCell ⟨RB,1,G⟩ (J va n vc)).setCell ⟨RB,2,G⟩ (J ua m uc)) (J ua m uc) V∧L w (((tE wr ⟨RB,0,G⟩ (Y tC st)).setCell ⟨RB,1,G⟩ (J va n vc)).setCell ⟨RB,2,G⟩ (J ua m uc)) G:=by
 have b1:=Qk (i:=0) (u:=Y tC st) h;have b2:=Qk (i:=1) (u:=J va n vc) b1;have b3:=Qk (i:=2) (u:=J ua m uc) b2;exact⟨(QJ (x:=Y tC st) (y:=J va n vc) (z:=J ua m uc) b3).1,((hR.setOther h qJ jB (tU _) _).setOther b1 qJ jB (tU _) _).setOther b2 qJ jB (tU _) _,((hV.setOther h qJ GC (tU _) _).setOther b1 qJ GC (tU _) _).setOther b2 qJ GC (tU _) _,Qd (Qd (Qd hg _ hw _ _) _ hw _ _) _ hw _ _⟩
theorem Q4.keptR{rb rb':Nat}{W w':F}{v u:H}{l:List Zf}{k:List Rd}(hV:Q4 rb 0 W v l)(hR:ZL rb' 0 W u k)(hg:L W w' u.ownBlock):Q4 rb 0 w' v l:=by
 refine hV.kept hg ?_ ?_;·rcases hV.row with h|⟨g,cur,fz,e,_,h⟩;(·exact .inl h);·refine .inr ?_;rw[e];exact fun e2=>hR.ne h (fun e=>fJ e.symm) e2.symm
 ·rcases hR.row with h|⟨g,cur,fz,e,_,h⟩;(·exact .inl h);·exact .inr ⟨g,cur,_,fz,e,tU _,h,eJ⟩
theorem Gl{w:F}{v1 v2:H}{st:Int}{R:List Rd}{V:List Zf}{rb:Nat}{t:Tx}(e:t=⟨st,R,V⟩)(h1:ZL rb 0 w v1 R)(h2:Q4 rb 0 w v2 V):Gu w (sW #[Y tC st,v1,v2]) t:=by
 subst e;exact⟨_,_,rfl,h1.down 0 (tU _),h2.down 0 (tU _)⟩
theorem UE{v:H}{a b:Int}(h:a=b):tD (sL #[v,Y tC b])=tD (sL #[v,Y tC a]):=by
 rw[h]
theorem Sp:∀(l:List Zf)(w:Zf)(m:Nat),m<l.length->(l.take m).any (fun q=>ZN q w)=N->ZN (l.getD m Qq) w=M->zG l w=l.set m w|[],_,_,h,_,_=>by simp at h|a::l,w,0,_,_,h=>by have h':ZN a w=M:=h;rw[zG,if_pos h'];rfl|a::l,w,m+1,h0,h1,h2=>by rw[rH,pG,rS]at h1;rw[zG,if_neg (by rw[h1.1];decide),pU,Sp l w m (by simpa using h0) h1.2 (by simpa using h2)]
theorem Mx:∀(l:List Zf)(w:Zf),l.any (fun q=>ZN q w)=N->zG l w=l++[w]|[],_,_=>rfl|a::l,w,h=>by rw[pG,rS]at h;rw[zG,if_neg (by rw[h.1];decide),Mx l w h.2];rfl
theorem Q4.zero{rb:Nat}{w:F}{b o n cap:Nat}{l:List Zf}(h:Q4 rb 0 w (J (I ⟨b,o,G⟩) n cap) l):o=0:=by
 obtain⟨us,hl,hr,h3⟩:=h;rcases hr.2with⟨e,_⟩|⟨g',cap',cur,e,_⟩;·cases e
 ·simp only[tH,tA,rJ]at e;exact e.1.2.1
theorem Q4.frozenT{rb:Nat}{w:F}{g n cap:Nat}{l:List Zf}(h:Q4 rb 0 w (J (I ⟨g,0,G⟩) n cap) l)(j:Nat):w.frozen? ⟨g,j,G⟩=N:=by
 obtain⟨us,hl,hr,h3⟩:=h;rcases hr.2with⟨e,_⟩|⟨g',cap',cur,e,hb,hg,_⟩;·cases e
 ·simp only[tH,tA,rJ]at e;obtain⟨⟨rfl,_⟩,_⟩:=e;simp[rX,hg]
theorem Rh:∀(us:List WV)(i:Nat)(x:WV),YW (us.set i x)=((((YW us).set (i*4) x.2.1).set (i*4+1) x.2.2.1).set (i*4+2) (tL x.1.gone)).set (i*4+3) x.2.2.2|[],i,x=>by simp[YW]|y::us,0,x=>by simp[YW]|y::us,i+1,x=>by have ih:=Rh us i x;(have e:∀us:List WV,YW (y::us)=y.2.1::y.2.2.1::tL y.1.gone::y.2.2.2::YW us:=fun us=>by simp[YW]);rw[pU,e,e,ih,show(i+1)*4=i*4+4by omega];rfl
theorem Q4.setT{rb:Nat}{w:F}{g n cap:Nat}{l:List Zf}(h:Q4 rb 0 w (J (I ⟨g,0,G⟩) n cap) l)(i:Nat)(vn vk vv:H)(p:Zf)(h1:Qi 0 w vn p.name)(h2:Qi 0 w vk p.key)(h3:Qi 0 w vv p.value):Q4 rb 0 ((((tE w ⟨g,i*4,G⟩ vn).setCell ⟨g,i*4+1,G⟩ vk).setCell ⟨g,i*4+2,G⟩ (tL p.gone)).setCell ⟨g,i*4+3,G⟩ vv) (J (I ⟨g,0,G⟩) n cap) (l.set i p):=by
 obtain⟨us,hul,hr,hp⟩:=h;have hgr:L w ((((tE w ⟨g,i*4,G⟩ vn).setCell ⟨g,i*4+1,G⟩ vk).setCell ⟨g,i*4+2,G⟩ (tL p.gone)).setCell ⟨g,i*4+3,G⟩ vv) (I g):=Qf (Qf (Qf (Qf (Qb _ _) _ _) _ _) _ _) _ _;rcases hr.2with⟨e,_⟩|⟨g',cap',cur,e,hb,hg,hn,hm,hs,ht⟩;·cases e
 ·simp only[tH,tA,rJ]at e;obtain⟨⟨rfl,_⟩,rfl,rfl⟩:=e;have hrow:(I g:Option Nat)=G∨∃g' cur t fz,(I g:Option Nat)=I g'∧0<=g'∧w.heap[g']?=I (S cur t fz)∧t≠5:=.inr ⟨g,cur,_,_,rfl,tU _,hg,kC⟩;(have hus:us.length=l.length:=by rw[<-hul];simp);refine⟨us.set i (p,vn,vk,vv),by rw[List.map_set,hul],⟨by rw[Lp,rT,rT,hus],.inr ⟨g,cap,_,by rw[rT],hb,Qk (Qk (Qk (Qk hg))),by rw[rT];exact hn,hm,by simpa using hs,?_⟩⟩,?_⟩;(·rw[Rh,rT];simp only[Array.toList_setIfInBounds];rw[pI,pI,pI,pI,ht]);·intro x hx;rcases List.mem_or_eq_of_mem_set hx with hx|rfl;(·exact⟨(hp x hx).1.keptT hgr hrow,(hp x hx).2.1.keptT hgr hrow,(hp x hx).2.2.keptT hgr hrow⟩);·exact⟨h1.keptT hgr hrow,h2.keptT hgr hrow,h3.keptT hgr hrow⟩
def K2(n k:List UInt8)(q:Zf):Bool:=tR (q.name=n)&&tR (q.key=k)
theorem Cg{α:Type}(p:α->Bool)(d:α):∀(l:List α)(m:Nat),m<l.length->(l.take m).any p=N->p (l.getD m d)=M->l.find? p=I (l.getD m d)|[],_,h,_,_=>by simp at h|a::l,0,_,_,h=>by have h':p a=M:=h;rw[List.find?_cons_of_pos h'];rfl|a::l,m+1,h0,h1,h2=>by rw[rH,pG,rS]at h1;rw[List.find?_cons_of_neg (by rw[h1.1];decide),Cg p d l m (by simpa using h0) h1.2 (by simpa using h2)];simp
theorem SC{α:Type}(p:α->Bool)(l:List α)(h:l.any p=N):l.find? p=G:=by
 rw[List.find?_eq_none];intro x hx hp;rw[List.any_eq_false]at h;exact h x hx hp
theorem dL{l:List Zf}{n k:List UInt8}{m:Nat}(h:m<l.length)(h1:(l.take m).any (K2 n k)=N)(h2:K2 n k (l.getD m Qq)=M):eP l n k=I (l.getD m Qq):=Cg (K2 n k) Qq l m h h1 h2
theorem O6{l:List Zf}{n k:List UInt8}(h:l.any (K2 n k)=N):eP l n k=G:=SC (K2 n k) l h
theorem WI{l:FL}{t:Tx}{n k:List UInt8}(h:Kj l t n k≠0):Vw l t n k=N∧UX l t n k=N∧UK l t n k=[]:=by
 rw[Vw,UX,UK,if_neg h,if_neg h,if_neg h];exact⟨rfl,rfl,rfl⟩
theorem aS{l:FL}{t:Tx}{n k:List UInt8}(h:qZ l t≠0):Kj l t n k=qZ l t:=by
 rw[Kj,if_neg h]
theorem ME{l:FL}{t:Tx}(h:qZ l t=0):Xn l∧GQ t:=by
 unfold qZ at h;by_cases hf:Q7 l=0;·rw[if_pos hf]at h;exact⟨(XY l).1 hf,(j8 t).1 h⟩
 ·rw[if_neg hf]at h;exact absurd h hf
theorem Og{l:FL}{t:Tx}{n k:List UInt8}(h:qZ l t=0){m:Nat}(hm:m<t.writes.length)(h1:(t.writes.take m).any (K2 n k)=N)(h2:K2 n k (t.writes.getD m Qq)=M):Kj l t n k=0∧Vw l t n k=M∧UX l t n k=!(t.writes.getD m Qq).gone∧UK l t n k=(t.writes.getD m Qq).value:=by
 obtain⟨hf,ht⟩:=ME h;have ha:=dL hm h1 h2;have hs:=W9 ha;have hw:=(XH _).1 (ht.wrs _ hs.1);rw[hs.2.1,hs.2.2]at hw;have h0:=AM hf ht hw.1 hw.2.1;refine⟨h0,?_,?_,?_⟩;·rw[Vw,if_pos h0,ha];rfl
 ·rw[UX,if_pos h0,ha]
 ·rw[UK,if_pos h0,ha]
theorem Od{l:FL}{t:Tx}{n k:List UInt8}(h:qZ l t=0)(h1:t.writes.any (K2 n k)=N):Kj l t n k=Vt l n k∧Vw l t n k=N∧UX l t n k=UU l n k∧UK l t n k=UW l n k:=by
 obtain⟨hf,ht⟩:=ME h;have ha:=O6 h1;have hfo:=(XY l).2 hf;have hE:Kj l t n k=Vt l n k:=by rw[Kj,if_pos h,Vt,GN,if_pos hfo];by_cases hn:Qt n.length=0;(·rw[if_pos hn,if_pos hn,Xa,if_pos ((YK _).2 (K5 hf n))]);·rw[if_neg hn,if_neg hn]
 refine⟨hE,?_,?_,?_⟩;·rw[Vw,ha];by_cases h0:Kj l t n k=0;(·rw[if_pos h0];rfl);·rw[if_neg h0]
 ·rw[UX,ha];by_cases h0:Kj l t n k=0;(·rw[if_pos h0]);·rw[if_neg h0];rw[hE]at h0;rw[UU];by_cases hn:GN l n=0;(·rw[Vt,if_pos hn]at h0;rw[if_pos hn,Rl];simp[h0]);·rw[if_neg hn]
 ·rw[UK,ha];by_cases h0:Kj l t n k=0;(·rw[if_pos h0]);·rw[if_neg h0];rw[hE]at h0;rw[UW];by_cases hn:GN l n=0;(·rw[Vt,if_pos hn]at h0;rw[if_pos hn,Rn,if_neg h0]);·rw[if_neg hn]
theorem We{X:PL}(h:Zy X)(k:List UInt8):Zy (jJ X k):=⟨tM (AT X k) h.room,fun p hp=>h.pairs p (oE.1 hp).1,EA X k h.rises⟩
theorem My{X:PL}(h:Zy X)(f u:List UInt8):Zy (UZ X f u):=⟨tM (L0 X f u) h.room,fun p hp=>h.pairs p (oE.1 hp).1,D8 X f u h.rises⟩
theorem SR{X:PL}(h:Zy X){p:Pr}(hp:(1<=p.1.length∧p.1.length<=16)∧p.2.length<=32)(hl:(J5 X p).length<=60):Zy (J5 X p):=⟨hl,Ee X p h.pairs hp,vK X p h.rises⟩
theorem jC(n a b:List UInt8)(w:Zf):XO ⟨n,a,M,b⟩ w=M↔w.name=n∧fL a b w.key=M:=by
 show(tR (n=w.name)&&fL a b w.key)=M↔_;rw[rM,decide_eq_true_iff];exact⟨fun h=>⟨h.1.symm,h.2⟩,fun h=>⟨h.1.symm,h.2⟩⟩
theorem Wu{n a b:List UInt8}{w:Zf}(h:XO ⟨n,a,M,b⟩ w=N)(X:PL):KP n a b X w=X:=by
 rw[KP,if_neg];intro e;rw[(jC n a b w).2 e]at h;cases h
theorem IM{n a b:List UInt8}{w:Zf}(h:XO ⟨n,a,M,b⟩ w=M)(hg:w.gone=M){X:PL}(hX:Zy X)(hw:QA w=0):Xa X w.key=0∧qY X w.key=KP n a b X w∧Zy (KP n a b X w):=by
 have hk:=((XH w).1 hw).2.1;have h0:=vA hX hk;have e:KP n a b X w=jJ X w.key:=by rw[KP,if_pos ((jC n a b w).1 h),if_pos hg]
 refine⟨h0,by rw[e,qY,if_pos h0],by rw[e];exact We hX _⟩
theorem Oa{n a b:List UInt8}{w:Zf}(h:XO ⟨n,a,M,b⟩ w=M)(hg:w.gone=N){X:PL}(hX:Zy X)(hw:QA w=0):KP n a b X w=J5 X (w.key,w.value)∧(60<(KP n a b X w).length->Ka X (w.key,w.value)=11)∧(¬60<(KP n a b X w).length->Ka X (w.key,w.value)=0∧Va X (w.key,w.value)=KP n a b X w∧Zy (KP n a b X w)):=by
 have hk:=(XH w).1 hw;have hv:w.value.length<=32:=by have:=hk.2.2;rw[hg,if_neg (by decide)]at this;exact this
 have e:KP n a b X w=J5 X (w.key,w.value):=by rw[KP,if_pos ((jC n a b w).1 h),hg,if_neg (by decide)]
 have h0:VI X (w.key,w.value)=0:=by rw[VI,if_pos ((YK X).2 hX)];exact(Jw _).2 ⟨hk.2.1,hv⟩
 refine⟨e,fun hl=>?_,fun hl=>?_⟩;·rw[e]at hl;rw[Ka,if_pos h0,if_pos hl]
 ·rw[e]at hl;(have h1:Ka X (w.key,w.value)=0:=by rw[Ka,if_pos h0,if_neg hl]);refine⟨h1,by rw[e,Va,if_pos h1],?_⟩;rw[e];exact SR hX ⟨hk.2.1,hv⟩ (by omega)
def Jz(n a b:List UInt8)(X:PL)(ws:List Zf):Int×PL:=(jY n a b X ws,if jY n a b X ws=0then Ak n a b X ws else[])
theorem Az(n a b:List UInt8)(X:PL):Jz n a b X []=(0,X):=rfl
theorem vT{n a b:List UInt8}{X:PL}{ws:List Zf}{m:Nat}(hm:m<ws.length)(h:¬60<(KP n a b X (ws.getD m Qq)).length):Jz n a b X (ws.drop m)=Jz n a b (KP n a b X (ws.getD m Qq)) (ws.drop (m+1)):=by
 rw[sX hm,show ws[m]=ws.getD m Qq by simp[hm]];rw[Jz,Jz,jY,if_neg h];rfl
theorem Di{n a b:List UInt8}{X:PL}{ws:List Zf}{m:Nat}(hm:m<ws.length)(h:60<(KP n a b X (ws.getD m Qq)).length):Jz n a b X (ws.drop m)=(11,[]):=by
 rw[sX hm,show ws[m]=ws.getD m Qq by simp[hm]];rw[Jz,jY,if_pos h,if_neg (by decide)]
theorem OW{l:FL}{t:Tx}{n a b:List UInt8}(h:qZ l t≠0):Kl l t n a b=qZ l t∧VH l t n a b=[]:=by
 have e:Kl l t n a b=qZ l t:=by rw[Kl,if_neg h]
 exact⟨e,by rw[VH,e,if_neg h]⟩
theorem B9{l:FL}{t:Tx}{n a b:List UInt8}(h:qZ l t=0)(h1:Yz l n a b≠0):Kl l t n a b=Yz l n a b∧VH l t n a b=[]:=by
 obtain⟨hf,ht⟩:=ME h;have hfo:=(XY l).2 hf;have e:Kl l t n a b=Yz l n a b:=by(have hE:Yz l n a b=if Qt n.length=0then(if Qp a.length=0then Qp b.length else Qp a.length)else Qt n.length:=by rw[Yz,GN,if_pos hfo];by_cases hn:Qt n.length=0;(·rw[if_pos hn,if_pos hn,Yx,Xa,if_pos ((YK _).2 (K5 hf n))]);·rw[if_neg hn,if_neg hn]);rw[Kl,if_pos h,hE];by_cases hn:Qt n.length=0;(·rw[if_pos hn,if_pos hn];by_cases ha:Qp a.length=0;(·rw[if_pos ha,if_pos ha];by_cases hb:Qp b.length=0;(·rw[hE,if_pos hn,if_pos ha]at h1;exact absurd hb h1);·rw[if_neg hb]);·rw[if_neg ha,if_neg ha]);·rw[if_neg hn,if_neg hn]
 exact⟨e,by rw[VH,e,if_neg h1]⟩
theorem Bb{l:FL}{t:Tx}{n a b:List UInt8}(h:qZ l t=0)(h1:Yz l n a b=0):Jz n a b (Kc l n a b) t.writes=(Kl l t n a b,VH l t n a b)∧Zy (Kc l n a b):=by
 obtain⟨hf,ht⟩:=ME h;have hfo:=(XY l).2 hf;have hn:GN l n=0:=by by_cases hn:GN l n=0;(·exact hn);·rw[Yz,if_neg hn]at h1;exact absurd h1 hn
 have hr:Yx (Jb l n) a b=0:=by rw[Yz,if_pos hn]at h1;exact h1
 have hg:=CD hr;have hb:Qp b.length=0:=by rw[Yx,if_pos hg]at hr;exact hr
 have ha:Qp a.length=0:=(Zt _).2 (Im hg);have hnn:Qt n.length=0:=(Zw _).2 (G6 hn).2;have e:Kc l n a b=UZ (Jb l n) a b:=by rw[Kc,if_pos hn,KA,if_pos hr]
 have eE:Kl l t n a b=jY n a b (UZ (Jb l n) a b) t.writes:=by rw[Kl,if_pos h,if_pos hnn,if_pos ha,if_pos hb]
 refine⟨?_,by rw[e];exact My (K5 hf n) a b⟩;rw[e,Jz,VH,eE]
def LZ:Prop:=∀(w:F)(v:H)(t:Tx),Gy w v t->zP t->sY O 135 #[v] w fun e w'=>e=tD (Y tC (V1 t))∧L w w' G
def Wq:Prop:=∀(w:F)(v:H)(l:PL),Qr w v l->kD l->sY O 53 #[v] w fun e w'=>e=tD (Y tC (Qy l))∧L w w' G
theorem Ff{w:F}{o:rP}{a:Act}{K:Act->F->Prop}{Q:Exit->Act->F->Prop}(s x:rK)(ho:o.op=.call {callee:=.builtin .append,args:=#[s,x],argTypes:=#[39,39]})(rb base:Nat)(hrb:base<=rb)(v:H)(l:PL)(hs:a.eval s=v)(hown:Kg rb base w v l)(vk vv:H)(p:Pr)(hk:Qi base w vk p.1)(hv:Qi base w vv p.2)(nb:Nat)(hb:w.heap[nb]?=I (S #[vk,vv] 42))(hx:a.eval x=J (I ⟨nb,0,G⟩) 1 1)(hl:(l.length+1)*48<=140737488355328)(hbase:rb<=w.heap.size)(h:∀v' w',Kg rb base w' v' (l++[p])->L w w' v.ownBlock->K (a.put o.dst v') w'):o.wp O a w K Q:=by
 obtain⟨i0,hi,hz0,hz1,hz2⟩:=pC Du;have hrow:=hown.row hrb;obtain⟨vs,hvl,hr,hp⟩:=hown;refine wp_append_lies w s x 39 ho rb 42 i0 (sW #[J G 0 0,J G 0 0]) 2 48 Tryz.underlying39 hi hz0 hz1 hz2 rfl (by decide) v l.length (flat vs) hs hr ⟨nb,0,G⟩ 1 1 (flat [(vk,vv)]) hx rfl (rG (cs:=#[vk,vv]) hb) ?_ (by omega) (by unfold pD;omega) hl hbase _ rfl ?_;·intro u hu;simp only[flat,tP,rN,sK,tK,tS,or_false]at hu;rcases hu with rfl|rfl;(·exact ZD hk);·exact ZD hv
 ·intro g cap w' h1 h2 _ _;refine h _ w' ⟨vs++[(vk,vv)],by simp[hvl],?_,?_⟩ h2;(·rw[JN,tB];exact h1);·intro i hi;rw[Je,Je,hvl];by_cases hil:i<l.length;(·rw[if_pos hil,if_pos hil];exact⟨(hp i hil).1.kept h2 hrow,(hp i hil).2.kept h2 hrow⟩);·rw[if_neg hil,if_neg hil];(obtain rfl:i=l.length:=by simp at hi;omega);rw[oH];exact⟨hk.kept h2 hrow,hv.kept h2 hrow⟩
theorem VX{w:F}{ops:Array rP}{o:rP}{a:Act}{K:Act->F->Prop}{Q:Exit->Act->F->Prop}{E:Prop}(hgd:o.guard=G)(s x:rK)(ho:o.op=.call {callee:=.builtin .append,args:=#[s,x],argTypes:=#[39,39]})(rb base:Nat)(hrb:base<=rb)(v:H)(l:PL)(hs:a.eval s=v)(hown:Kg rb base w v l)(vk vv:H)(p:Pr)(hk:Qi base w vk p.1)(hv:Qi base w vv p.2)(nb:Nat)(hb:w.heap[nb]?=I (S #[vk,vv] 42))(hx:a.eval x=J (I ⟨nb,0,G⟩) 1 1)(hl:(l.length+1)*48<=140737488355328)(hbase:rb<=w.heap.size)(h:∀v' w',Kg rb base w' v' (l++[p])->L w w' v.ownBlock->K (a.put o.dst v') w'):if sG o (pE ops a.tmps)=M then Oper.wp O o a w K Q else E:=by
 have hw:sG o (pE ops a.tmps)=M:=by simp[sG,hgd]
 rw[if_pos hw];exact Ff s x ho rb base hrb v l hs hown vk vv p hk hv nb hb hx hl hbase h
theorem TW(w:F):(sizeOf (O.elem 39)).run O w=.ok 2 w:=by
 kernel_rfl
theorem Qr.sliced{w:F}{a:Option rC}{cap:Nat}{l:PL}(h:Qr w (J a l.length cap) l)(i j:Nat)(hij:i<=j)(hj:j<=l.length):Qr w (sU a i j cap 2) ((l.take j).drop i):=by
 obtain⟨a',cap',e,hc,h⟩:=h;simp only[tH,true_and]at e;obtain⟨rfl,rfl⟩:=e;have hlen:((l.take j).drop i).length=j-i:=by simp;omega
 refine⟨if cap=i then a else a.map (·.add (i*2)),cap-i,by rw[hlen];rfl,by rw[hlen];omega,?_⟩;by_cases hci:cap=i;·left;exact⟨tJ (by rw[hlen];omega),fun _=>by omega⟩
 ·rw[if_neg hci];rcases h with⟨rfl,h⟩|⟨b,o,rfl,h⟩;(·left;refine⟨by simp,fun e=>?_⟩;cases a with|none=>have:=h rfl;simp at hj;omega|some x=>cases e);·right;refine⟨b,o+i*2,by simp[ZQ],fun k hk=>?_⟩;rw[hlen]at hk;have:=h (i+k) (by omega);(have e:((l.take j).drop i).getD k ([],[])=l.getD (i+k) ([],[]):=by simp[show i+k<j by omega]);rw[e,show o+i*2+k*2=o+(i+k)*2by omega];exact this
theorem uO(a:Option rC)(cap:Nat)(l:PL)(n:Nat)(hn:n<=l.length)(hc:l.length<=cap):∃a1 c1,(∀W,(rV 39 (J a l.length cap) G (I (Y tC (n:Int))) G).run O W=.ok (J a1 n c1) W)∧∀W,Qr W (J a l.length cap) l->Qr W (J a1 n c1) (l.take n):=by
 refine⟨if cap=0then a else a.map (·.add (0*2)),cap-0,fun W=>?_,fun W h=>?_⟩;·rw[run_slice_h _ _ _ _ _ (by kernel_rfl) _ _ (by omega) (by omega),TW];simp only[rI,sU,sJ,pJ]
 ·have:=h.sliced 0 n (by omega) hn;simpa only[sU,oF,pJ]using this
theorem vB(a:Option rC)(cap:Nat)(l:PL)(n:Nat)(hn:n<=l.length):∃a1 c1,(∀W,(rV 39 (J a l.length cap) (I (Y tC (n:Int))) G G).run O W=.ok (J a1 (l.length-n) c1) W)∧∀W,Qr W (J a l.length cap) l->Qr W (J a1 (l.length-n) c1) (l.drop n):=by
 refine⟨if cap=n then a else a.map (·.add (n*2)),cap-n,fun W=>?_,fun W h=>?_⟩;·rw[run_slice_l _ _ _ _ _ (by kernel_rfl) _ _ (by omega) (by omega),TW];simp only[rI,sU,sJ]
 ·have:=h.sliced n l.length hn (tV _);simpa only[sU,sF]using this
theorem EW(a:Option rC)(cap:Nat)(l:PL)(i j:Nat)(hij:i<=j)(hj:j<=l.length)(hc:l.length<=cap):∃a1 c1,(∀W,(rV 39 (J a l.length cap) (I (Y tC (i:Int))) (I (Y tC (j:Int))) G).run O W=.ok (J a1 (j-i) c1) W)∧∀W,Qr W (J a l.length cap) l->Qr W (J a1 (j-i) c1) ((l.take j).drop i):=by
 refine⟨if cap=i then a else a.map (·.add (i*2)),cap-i,fun W=>?_,fun W h=>?_⟩;·rw[run_slice_lh _ _ _ _ _ (by kernel_rfl) _ _ _ _ (by omega) (by omega) (by omega),TW];simp only[rI,sU,sJ]
 ·have:=h.sliced i j hij hj;simpa only[sU]using this
theorem Qr.cap{w:F}{a:Option rC}{n cap:Nat}{l:PL}(h:Qr w (J a n cap) l):l.length<=cap:=by
 obtain⟨a',cap',e,hc,_⟩:=h;simp only[tH]at e;obtain⟨_,_,rfl⟩:=e;exact hc
def I8:Prop:=∀(w:F)(v:H)(l:FL),ZP w v l->V2 l->sY O 32 #[v] w fun e w'=>e=tD (Y tC (Q7 l))∧L w w' G
def MF:Prop:=∀(w:F)(v u:H)(l:FL)(ws:List Zf),ZP w v l->QQ w u ws->V2 l->kH ws->sY O 25 #[v,u] w fun e w'=>∃x,e=tD (sL #[x,Y tC (QZ l ws)])∧ZP w' x (Xs l ws)∧L w w' G
theorem Zx.down{base:Nat}{w:F}{v:H}{l:FL}(h:Zx base w v l)(b2:Nat)(hb:b2<=base):Zx b2 w v l:=by
 obtain⟨vs,h1,h2,h3⟩:=h;refine⟨vs,h1,⟨h2.1,?_⟩,h3⟩;rcases h2.2with h|⟨g,cap,cur,e,hb2,rest⟩;·exact .inl h
 ·exact .inr ⟨g,cap,cur,e,tM hb hb2,rest⟩
def xJ:Prop:=∀(w:F)(v u:H)(l:FL)(ws:List Zf),ZP w v l->QQ w u ws->V2 l->kH ws->sY O 25 #[v,u] w fun e w'=>∃x,e=tD (sL #[x,Y tC (QZ l ws)])∧Zx w.heap.size w' x (Xs l ws)∧L w w' G
theorem xJ.ok(h:xJ):MF:=fun w v u l ws h1 h2 h3 h4=>(h w v u l ws h1 h2 h3 h4).mono (by
 rintro e w'⟨x,rfl,hx,hg⟩;exact⟨x,rfl,hx.list,hg⟩)
theorem qF(w:F)(b i:Nat)(u:H):∃W:F,Hid (W=tE w ⟨b,i,G⟩ u)∧L w W (I b):=⟨_,rfl,YH w b i u⟩
theorem qN{w:F}{ops:Array rP}{o:rP}{a:Act}{K:Act->F->Prop}{Q:Exit->Act->F->Prop}{E:Prop}(hgd:o.guard=G)(s x:rK)(ho:o.op=.call {callee:=.builtin .append,args:=#[s,x],argTypes:=#[76,76]})(rb:Nat)(v:H)(l:List Zf)(hs:a.eval s=v)(hown:Q4 rb 0 w v l)(vn vk vv:H)(p:Zf)(h1:Qi 0 w vn p.name)(h2:Qi 0 w vk p.key)(h3:Qi 0 w vv p.value)(nb:Nat)(hb:w.heap[nb]?=I (S #[vn,vk,tL p.gone,vv] 75))(hx:a.eval x=J (I ⟨nb,0,G⟩) 1 1)(hl:(l.length+1)*80<=140737488355328)(hbase:rb<=w.heap.size)(h:∀v' w',Q4 rb 0 w' v' (l++[p])->L w w' v.ownBlock->K (a.put o.dst v') w'):if sG o (pE ops a.tmps)=M then Oper.wp O o a w K Q else E:=by
 have hw:sG o (pE ops a.tmps)=M:=by simp[sG,hgd]
 rw[if_pos hw];obtain⟨i0,hi,hz0,hz1,hz2⟩:=pC Oq;have hrow:v.ownBlock=G∨∃g cur t fz,v.ownBlock=I g∧0<=g∧w.heap[g]?=I (S cur t fz)∧t≠5:=by rcases hown.row with h|⟨g,cur,fz,e,_,h⟩;(·exact .inl h);·exact .inr ⟨g,cur,_,fz,e,tU _,h,kC⟩
 obtain⟨us,hul,hr,hp⟩:=hown;refine wp_append_lies w s x 76 ho rb 75 i0 (sW #[J G 0 0,J G 0 0,tL N,J G 0 0]) 4 80 Tryz.underlying76 hi hz0 hz1 hz2 rfl (by decide) v l.length (YW us) hs hr ⟨nb,0,G⟩ 1 1 (YW [(p,vn,vk,vv)]) hx rfl (rG (cs:=#[vn,vk,tL p.gone,vv]) hb) ?_ (by omega) (by unfold pD;omega) hl hbase _ rfl ?_;·intro u hu;simp only[YW,tP,rN,sK,tK,tS,or_false]at hu;rcases hu with rfl|rfl|rfl|rfl;(·exact ZD h1);(·exact ZD h2);(·rfl);·exact ZD h3
 ·intro g cap w' q1 q2 _ _;refine h _ w' ⟨us++[(p,vn,vk,vv)],by simp[hul],?_,?_⟩ q2;(·rw[kO,tB];exact q1);·intro y hy;rcases sB.1 hy with hy|hy;(·exact⟨(hp y hy).1.keptT q2 hrow,(hp y hy).2.1.keptT q2 hrow,(hp y hy).2.2.keptT q2 hrow⟩);·simp only[tK,tS,or_false]at hy;subst hy;exact⟨h1.keptT q2 hrow,h2.keptT q2 hrow,h3.keptT q2 hrow⟩
theorem z8{w:F}{ops:Array rP}{o:rP}{a:Act}{K:Act->F->Prop}{Q:Exit->Act->F->Prop}{E:Prop}(hgd:o.guard=G)(s x:rK)(ho:o.op=.call {callee:=.builtin .append,args:=#[s,x],argTypes:=#[108,108]})(rb:Nat)(v:H)(l:List Rd)(hs:a.eval s=v)(hown:ZL rb 0 w v l)(vn vk vv:H)(p:Rd)(h1:Qi 0 w vn p.name)(h2:Qi 0 w vk p.key)(h3:Qi 0 w vv p.last)(nb:Nat)(hb:w.heap[nb]?=I (S #[vn,vk,tL p.wide,vv] 220))(hx:a.eval x=J (I ⟨nb,0,G⟩) 1 1)(hl:(l.length+1)*80<=140737488355328)(hbase:rb<=w.heap.size)(h:∀v' w',ZL rb 0 w' v' (l++[p])->L w w' v.ownBlock->K (a.put o.dst v') w'):if sG o (pE ops a.tmps)=M then Oper.wp O o a w K Q else E:=by
 have hw:sG o (pE ops a.tmps)=M:=by simp[sG,hgd]
 rw[if_pos hw];obtain⟨i0,hi,hz0,hz1,hz2⟩:=pC eG;have hrow:v.ownBlock=G∨∃g cur t fz,v.ownBlock=I g∧0<=g∧w.heap[g]?=I (S cur t fz)∧t≠5:=by rcases hown.row with h|⟨g,cur,fz,e,_,h⟩;(·exact .inl h);·exact .inr ⟨g,cur,_,fz,e,tU _,h,eJ⟩
 obtain⟨us,hul,hr,hp⟩:=hown;refine wp_append_lies w s x 108 ho rb 220 i0 (sW #[J G 0 0,J G 0 0,tL N,J G 0 0]) 4 80 Tryz.underlying108 hi hz0 hz1 hz2 rfl (by decide) v l.length (Ga us) hs hr ⟨nb,0,G⟩ 1 1 (Ga [(p,vn,vk,vv)]) hx rfl (rG (cs:=#[vn,vk,tL p.wide,vv]) hb) ?_ (by omega) (by unfold pD;omega) hl hbase _ rfl ?_;·intro u hu;simp only[Ga,tP,rN,sK,tK,tS,or_false]at hu;rcases hu with rfl|rfl|rfl|rfl;(·exact ZD h1);(·exact ZD h2);(·rfl);·exact ZD h3
 ·intro g cap w' q1 q2 _ _;refine h _ w' ⟨us++[(p,vn,vk,vv)],by simp[hul],?_,?_⟩ q2;(·rw[Na,tB];exact q1);·intro y hy;rcases sB.1 hy with hy|hy;(·exact⟨(hp y hy).1.keptT q2 hrow,(hp y hy).2.1.keptT q2 hrow,(hp y hy).2.2.keptT q2 hrow⟩);·simp only[tK,tS,or_false]at hy;subst hy;exact⟨h1.keptT q2 hrow,h2.keptT q2 hrow,h3.keptT q2 hrow⟩
def Ok:Prop:=∀(w:F)(v:H)(r:Rq),Vc w->XT w v r->xN r->sY O 130 #[v] w fun e w'=>∃x,e=tD (sL #[x,Y tC (K8 r)])∧Yr w' x (Zr r)∧L w w' G
def ZX(K:Int)(n q l v:Nat):Nat->Bool|0=>N|1=>!QS K 0&&tR (0<n)|2=>(!QS K 0&&tR (0<n))||(!QS K 1&&tR (0<q))|3=>((!QS K 0&&tR (0<n))||(!QS K 1&&tR (0<q)))||(!QS K 2&&tR (0<l))|_=>(((!QS K 0&&tR (0<n))||(!QS K 1&&tR (0<q)))||(!QS K 2&&tR (0<l)))||(!QS K 3&&tR (0<v))
def gG(K:Int)(n q l v:Nat):Int:=if(tR (Qt n≠0)&&QS K 0)=M then Qt n else if(tR (Qp q≠0)&&QS K 1)=M then Qp q else if(tR (Qp l≠0)&&QS K 2)=M then Qp l else if 32<v then 1 else if ZX K n q l v 4=M then 4 else 0
theorem eD(r:Rq)(hk:1<=r.kind∧r.kind<=8):Yd r=gG r.kind r.name.length r.key.length r.last.length r.value.length:=by
 rw[Yd,if_pos hk];have hf:Re r=if ZX r.kind r.name.length r.key.length r.last.length r.value.length 4=M then 4 else 0:=by unfold Re;by_cases h1:QY r.kind=N∧0<r.name.length+r.key.length;(·rw[if_pos h1,if_pos];by_cases h2:0<r.name.length;(·simp[ZX,QS,h1.1,h2]);·(have h3:0<r.key.length:=by omega);simp[ZX,QS,h1.1,h3]);·rw[if_neg h1];by_cases h2:(r.kind≠3∧0<r.last.length)∨(r.kind≠4∧0<r.value.length);(·rw[if_pos h2,if_pos];rcases h2 with⟨h2,h3⟩|⟨h2,h3⟩;(·simp[ZX,QS,h2,h3]);·simp[ZX,QS,h2,h3]);·rw[if_neg h2,if_neg];intro hb;simp only[ZX,QS,Bool.or_eq_true,rM,Bool.not_eq_true',decide_eq_true_iff,decide_eq_false_iff_not]at hb;rcases hb with((hb|hb)|hb)|hb;(·exact h1 ⟨hb.1,by omega⟩);(·exact h1 ⟨hb.1,by omega⟩);(·exact h2 (.inl hb));·exact h2 (.inr hb)
 rw[hf];unfold yF gG;generalize ZX r.kind r.name.length r.key.length r.last.length r.value.length 4=B;show _=if(tR (Qt r.name.length≠0)&&QY r.kind)=M then _ else if(tR (Qp r.key.length≠0)&&QY r.kind)=M then _ else if(tR (Qp r.last.length≠0)&&tR (r.kind=3))=M then _ else _;have h3:r.kind=3->QY r.kind=M:=fun h=>by rw[h];decide
 generalize Qt r.name.length=A at*;generalize Qp r.key.length=C at*;generalize Qp r.last.length=D at*;cases hN:QY r.kind with|false=>(have h3':¬r.kind=3:=fun h=>by rw[h3 h]at hN;cases hN);simp[h3']|true=>by_cases hA:A=0;(·by_cases hC:C=0;(·by_cases h4:r.kind=3;(·by_cases hD:D=0;(·simp[hA,hC,h4,hD]);·simp[hA,hC,h4,hD]);·simp[hA,hC,h4]);·simp[hA,hC]);·simp[hA]
theorem dQ(r:Rq)(hk:¬(1<=r.kind∧r.kind<=8)):Yd r=5:=by
 rw[Yd,if_neg hk]
def SQ:Prop:=∀(w:F)(v u a b:H)(l:FL)(t:Tx)(n k:List UInt8),ZP w v l->V2 l->Gy w u t->zP t->Qe w a n->Qe w b k->n.length<=140737488355328->k.length<=140737488355328->sY O 118 #[v,u,a,b] w fun e w'=>∃x,e=tD (sL #[sW #[tL (UX l t n k),x],tL (Vw l t n k),Y tC (Kj l t n k)])∧Qi 0 w' x (UK l t n k)∧L w w' G
theorem XJ{w:F}{b:Nat}{x y:H}{t:sA}(h:w.heap[b]?=I (S #[x,y] t)):w.cell? ⟨b,0,G⟩=I x∧w.cell? ⟨b,1,G⟩=I y∧w.frozen? ⟨b,0,G⟩=N∧w.frozen? ⟨b,1,G⟩=N:=by
 refine⟨?_,?_,?_,?_⟩<;>simp[tW,rX,h]
section
variable{D:List UInt8->List UInt8}{v u:Sv}
theorem M6(hD:∀x,(D x).length=4)(h:Za D v)(hs:v.synced=v.commits.length){k:Int}(hk:0<=k):KN D v k=VS N v.tape v.commits v.out:=by
 obtain⟨j,h1,h2,h3,_⟩:=Uc hD h hk;obtain rfl:j=v.commits.length:=by omega
 rw[h3,sF];have hm:=h.mark;rw[hs,sF]at hm;have:(⟨Q5 D v.commits,((Q5 D v.commits).length:Int)⟩:VQ)=v.tape:=by rw[<-hm,<-h.data]
 rw[this]
end
section
variable{D:List UInt8->List UInt8}{v:Sv}
def K9(s:Nat)(r:Rq):Ac:=⟨1,(s:Int),0,JZ r⟩
def vF:Ac:=⟨2,0,0,[]⟩
def Jn(k:Int):Ac:=⟨3,0,k,[]⟩
def Vf:Ac:=⟨4,0,0,[]⟩
def Fj(k:Int):Rq:=⟨k,[],[],[],[]⟩
theorem gI{s:Nat}(hs:s<=7){r:Rq}(hr:Ye r):Y1 (K9 s r):=⟨⟨(by
 decide:(1:Int)<=1),(by
 decide:(1:Int)<=4)⟩,fun _=>⟨Int.natCast_nonneg _,by
 show(s:Int)<=7;omega⟩,(fun h=>by
 cases h),(by
 have:=(FH hr).1;show(JZ r).length<=4000;omega),(fun h=>absurd rfl h),(fun _=>rfl),(fun h=>absurd rfl h)⟩
theorem eS:Y1 vF:=⟨⟨by
 decide,by
 decide⟩,(fun h=>by
 cases h),(fun h=>by
 cases h),(by
 decide),(fun _=>rfl),(fun _=>rfl),(fun _=>rfl)⟩
theorem dM:Y1 Vf:=⟨⟨by
 decide,by
 decide⟩,(fun h=>by
 cases h),(fun h=>by
 cases h),(by
 decide),(fun _=>rfl),(fun _=>rfl),(fun _=>rfl)⟩
theorem dX{k:Int}(h0:0<=k)(h1:k<=200000):Y1 (Jn k):=⟨⟨(by
 decide:(1:Int)<=3),(by
 decide:(3:Int)<=4)⟩,(fun h=>by
 cases h),(fun _=>⟨h0,h1⟩),(by
 decide:(0:Nat)<=4000),(fun _=>rfl),(fun h=>absurd rfl h),(fun _=>rfl)⟩
theorem kA(v:Sv)(s:Nat){r:Rq}(hr:Ye r):Zg D v (K9 s r)=if v.up=N then ZJ v (VN s 13)else Y6 D v s r:=by
 show(if(1:Int)=1then Z5 D v (s:Int).toNat (JZ r)else _)=_;rw[if_pos rfl,sJ,Z5,(TN hr).1,(TN hr).2,if_pos rfl]
theorem IC(v:Sv):Zg D v vF=if v.up=M then U5 v else v:=by
 show(if(2:Int)=1then _ else if(2:Int)=2then _ else _)=_;rw[if_neg (by decide),if_pos rfl]
theorem vH(v:Sv)(k:Int):Zg D v (Jn k)=if v.up=M then KN D v k else v:=by
 show(if(3:Int)=1then _ else if(3:Int)=2then _ else if(3:Int)=3then _ else _)=_;rw[if_neg (by decide),if_neg (by decide),if_pos rfl];rfl
theorem E6(v:Sv):Zg D v Vf={v with up:=M}:=by
 show(if(4:Int)=1then _ else if(4:Int)=2then _ else if(4:Int)=3then _ else _)=_;rw[if_neg (by decide),if_neg (by decide),if_neg (by decide)]
theorem dI(v:Sv)(k:Int):(Zg D v (Jn k)).up=N:=by
 rw[vH];split;·rfl
 ·simpa using(by assumption:¬v.up=M)
def Sh(l:List Ac):List Rp:=(l.filter (fun a=>tR (a.kind=1))).map (fun a=>VN a.sess.toNat 13)
theorem R6:∀(l:List Ac)(v:Sv),v.up=N->(∀a∈l,a.kind=1∨a.kind=2)->l.foldl (Zg D) v={v with out:=v.out++Sh l}|[],v,_,_=>by simp[Sh]|a::l,v,hu,ha=>by rw[sQ];rcases ha a tQ with h|h;(·(have e:Zg D v a=ZJ v (VN a.sess.toNat 13):=by rw[Zg,if_pos h,Z5,if_pos hu]);rw[e,R6 l (ZJ v _) hu (fun x hx=>ha x (tN _ hx))];simp[ZJ,Sh,h]);·(have e:Zg D v a=v:=by rw[Zg,if_neg (by omega),if_pos h,if_neg (by simp[hu])]);rw[e,R6 l v hu (fun x hx=>ha x (tN _ hx))];simp[Sh,h]
theorem gS(v:Sv)(s:Nat){d:List UInt8}(hd:QI d≠0):Zg D v ⟨1,(s:Int),0,d⟩=ZJ v (VN s (if v.up=N then 13 else QI d)):=by
 show(if(1:Int)=1then Z5 D v (s:Int).toNat d else _)=_;rw[if_pos rfl,sJ,Z5,if_neg hd];split<;>rfl
theorem Ht(v:Sv)(s:Nat){r:Rq}(hr:Ye r)(hk:r.kind=8):Zg D v (K9 s r)=if v.up=N then ZJ v (VN s 13)else Ew v s r:=by
 rw[kA v s hr,Y6,if_pos hk]
theorem dE(v:Sv)(s:Nat){r:Rq}(hr:Ye r)(hk:r.kind=8):Same v (Zg D v (K9 s r))∧∃p,(Zg D v (K9 s r)).out=v.out++[p]:=by
 rw[Ht v s hr hk];split;·exact⟨⟨rfl,rfl,rfl,rfl,rfl,rfl⟩,_,rfl⟩
 ·exact⟨⟨rfl,rfl,rfl,rfl,rfl,rfl⟩,_,rfl⟩
theorem fW{v u:Sv}(h:Same v u):(jX u).up=(jX v).up∧(jX u).turn=(jX v).turn∧(jX u).pending=(jX v).pending∧(jX u).forest=(jX v).forest:=by
 unfold jX QH;rw[h.up,h.synced,h.queue,h.commits];exact⟨rfl,rfl,rfl,rfl⟩
theorem OG(v:Sv)(s:Nat){r:Rq}(hr:Ye r)(hk:r.kind≠6):OE s v (Zg D v (K9 s r)):=by
 have e:Zg D v (K9 s r)=Z5 D v s (JZ r):=by show(if(1:Int)=1then Z5 D v (s:Int).toNat (JZ r)else _)=_;rw[if_pos rfl,sJ]
 rw[e];rcases FU D v s (JZ r)with h|⟨_,_,h,_⟩;·exact h
 ·rw[(TN hr).2]at h;exact absurd h hk
theorem LY(s:Nat):∀(l:List Rq)(v:Sv),(∀r∈l,Ye r∧r.kind≠6)->Same v ((l.map (K9 s)).foldl (Zg D) v)∧((l.map (K9 s)).foldl (Zg D) v).out.length=v.out.length+l.length|[],v,_=>⟨Same.rfl,rfl⟩|r::l,v,h=>by rw[pH,sQ];have h1:=OG (D:=D) v s (h r tQ).1 (h r tQ).2;obtain⟨h2,h3⟩:=LY s l (Zg D v (K9 s r)) (fun x hx=>h x (tN _ hx));obtain⟨p,h4,_⟩:=h1.out;refine⟨h1.toSame.trans h2,?_⟩;rw[h3,h4,tB,sC,sC,pK];omega
structure yK (s n : Nat) (v : Sv) : Prop where
  up : v.up = M
  begun : v.begun s = M
  waits : v.waits s = N
  txn : (v.txns s).start = (n : Int) ∧ (v.txns s).writes = []
  synced : v.synced = n
theorem M7(n:Nat):ZG (n:Int) (n:Int)=M:=by
 rw[ZG,decide_eq_true_iff];omega
theorem OA{k:Int}(h:k=1∨k=6∨k=7):Ye (Fj k):=by
 have hn:QY k=N:=by rcases h with h|h|h<;>subst h<;>decide
 exact⟨by rcases h with h|h|h<;>subst h<;>decide,(fun e=>by rw[show(Fj k).kind=k from rfl,hn]at e;cases e),(fun e=>by rw[show(Fj k).kind=k from rfl,hn]at e;cases e),(fun e=>by have:k=3:=e;omega),(by decide:(0:Nat)<=32),fun _=>rfl,fun _=>rfl,fun _=>rfl,fun _=>rfl⟩
theorem eK{s:Nat}(hu:v.up=M)(hw:v.waits s=N):yK s v.synced ([K9 s (Fj 7),K9 s (Fj 1)].foldl (Zg D) v)∧Same v ([K9 s (Fj 7),K9 s (Fj 1)].foldl (Zg D) v):=by
 have e1:∃u,Zg D v (K9 s (Fj 7))=u∧Same v u∧u.begun s=N:=by refine⟨_,rfl,?_⟩;rw[kA v s (OA (.inr (.inr rfl))),if_neg (by simp[hu]),Y6,if_neg (by decide:¬(Fj 7).kind=8)];unfold QG;rw[hw,pP,if_neg (by decide:¬(Fj 7).kind=1)];by_cases hb:v.begun s=M;(·rw[if_neg (by simp[hb]),if_neg (by decide:¬(Fj 7).kind=1),if_pos (show(Fj 7).kind=7from rfl)];exact⟨⟨rfl,rfl,rfl,rfl,rfl,rfl⟩,ZI _ _ _⟩);·rw[if_pos (by simp[hb])];exact⟨⟨rfl,rfl,rfl,rfl,rfl,rfl⟩,(by simpa using hb:v.begun s=N)⟩
 obtain⟨u,e1,h1,h2⟩:=e1;rw[sQ,sQ,oG,e1,kA u s (OA (.inl rfl)),if_neg (by simp[h1.up,hu]),Y6,if_neg (by decide:¬(Fj 1).kind=8)];unfold QG;rw[h1.waits,hw,pP,if_pos (show(Fj 1).kind=1from rfl),h2,if_neg (by decide),if_pos (show(Fj 1).kind=1from rfl)];refine⟨⟨h1.up.trans hu,ZI _ _ _,?_,?_,h1.synced⟩,⟨h1.up,h1.tape,h1.commits,h1.synced,rfl,h1.queue⟩⟩;·exact hw
 ·show(Um u.txns s _ s).start=_∧(Um u.txns s _ s).writes=[];rw[ZI,h1.synced];exact⟨rfl,rfl⟩
theorem Dm{t:Tx}{x:Rd}(h:Xe t x=0):(XN t x).start=t.start∧(XN t x).writes=t.writes:=by
 refine⟨qE h,?_⟩;unfold XN;rw[if_pos h];split<;>rfl
theorem Ta{s n:Nat}(h:yK s n v)(x:Rd)(o:Rp):yK s n (Uo v s x o):=by
 unfold Uo;split;·have k:=Dm (by assumption:Xe (v.txns s) x=0);refine⟨h.up,h.begun,h.waits,?_,h.synced⟩;show(Um v.txns s _ s).start=_∧(Um v.txns s _ s).writes=[];rw[ZI,k.1,k.2];exact h.txn
 ·exact⟨h.up,h.begun,h.waits,h.txn,h.synced⟩
theorem jM{s n:Nat}(h:yK s n v)(r:Rp):yK s n (ZJ v r):=⟨h.up,h.begun,h.waits,h.txn,h.synced⟩
theorem Bd{s n:Nat}(h:yK s n v){r:Rq}(hr:Ye r)(hk:r.kind=2∨r.kind=3∨r.kind=8):yK s n (Zg D v (K9 s r)):=by
 rw[kA v s hr,if_neg (by simp[h.up]),Y6];by_cases h8:r.kind=8;·rw[if_pos h8];exact jM h _
 ·(have hb:QG v s r=N:=by unfold QG;rw[h.waits,if_neg (by omega),h.begun];rfl);rw[if_neg h8,hb,if_neg (by decide),if_neg (by omega),if_neg (by omega),h.txn.1,h.synced,M7,if_neg (by decide),if_neg (by omega),yT,if_neg (by omega)];split;(·unfold Nb;split;(·exact jM h _);·exact Ta h _ _);·unfold uP;split;(·exact Ta h _ _);·exact jM h _
theorem MJ{s n:Nat}:∀(l:List Rq)(v:Sv),yK s n v->(∀r∈l,Ye r∧(r.kind=2∨r.kind=3∨r.kind=8))->yK s n ((l.map (K9 s)).foldl (Zg D) v)|[],_,h,_=>h|r::l,v,h,hl=>by rw[pH,sQ];exact MJ l _ (Bd h (hl r tQ).1 (hl r tQ).2) (fun x hx=>hl x (tN _ hx))
theorem OJ{s n:Nat}(h:yK s n v):Same v (Zg D v (K9 s (Fj 6)))∧(Zg D v (K9 s (Fj 6))).out=v.out++[IE s (n:Int)]:=by
 have hb:QG v s (Fj 6)=N:=by unfold QG;rw[h.waits,if_neg (by decide:¬(Fj 6).kind=1),h.begun];rfl
 rw[kA v s (OA (.inr (.inl rfl))),if_neg (by simp[h.up]),Y6,if_neg (by decide:¬(Fj 6).kind=8),hb,if_neg (by decide),if_neg (by decide:¬(Fj 6).kind=1),if_neg (by decide:¬(Fj 6).kind=7),h.txn.1,h.synced,M7,if_neg (by decide),if_pos (show(Fj 6).kind=6from rfl),JC,if_pos (by rw[h.txn.2];rfl),h.txn.1];exact⟨⟨rfl,rfl,rfl,h.synced.symm▸rfl,rfl,rfl⟩,rfl⟩
theorem dJ(h:Za D v):([vF,Vf].foldl (Zg D) v).up=M∧([vF,Vf].foldl (Zg D) v).queue=[]:=by
 rw[sQ,sQ,oG,IC,E6];refine⟨rfl,?_⟩;split;·rfl
 ·exact(h.down (by simpa using(by assumption:¬v.up=M))).1
theorem Za.nowait(h:Za D v)(hq:v.queue=[])(s:Nat):v.waits s=N:=by
 cases e:v.waits s with|false=>rfl|true=>have:=(h.wait s).mp e;rw[hq]at this;cases this
theorem eW{cs:List Xz}{j n:Nat}(h:n<=j):(cs.take j).take n=cs.take n:=by
 rw[pN,r8 h]
theorem cN(hD:∀x,(D x).length=4)(h:Za D v){k:Int}(hk:0<=k):∃j,v.synced<=j∧j<=v.synced+v.queue.length∧(k=0->j=v.synced)∧Zg D (Zg D v (Jn k)) Vf={(Zg D v (Jn k))with up:=M}∧(Zg D v (Jn k)).up=N∧(Zg D v (Jn k)).synced=j∧(Zg D v (Jn k)).queue=[]∧(Zg D v (Jn k)).out=v.out∧(Zg D v (Jn k)).commits=v.commits.take j:=by
 rw[E6];by_cases hu:v.up=M;·obtain⟨j,h1,h2,h3,h4⟩:=Uc hD h hk;rw[vH,if_pos hu,h3];refine⟨j,h1,by have:=h.turn;omega,h4,rfl,rfl,?_,rfl,rfl,rfl⟩;show(v.commits.take j).length=j;rw[rF,r8 h2]
 ·(have hf:v.up=N:=by simpa using hu);(have e:Zg D v (Jn k)=v:=by rw[vH,if_neg hu]);rw[e];have hq:=(h.down hf).1;refine⟨v.synced,tV _,by omega,fun _=>rfl,rfl,hf,rfl,hq,rfl,?_⟩;rw[pR (by have:=h.turn;rw[hq]at this;simp at this;omega)]
end
section
structure Se where
  begun : Bool
  start : Int
  writes : List Zf
structure Md where
  ses : Nat -> Se
  states : List FL
variable{D:List UInt8->List UInt8}{v:Sv}{m:Md}
theorem Gd(v:Sv)(n:Nat):Xn (QH v n):=uD _ _ GU
end
section
variable{D:List UInt8->List UInt8}{v:Sv}{m:Md}
theorem Df{r:Rq}(hr:Ye r)(hk:r.kind=2∨r.kind=3):(1<=r.name.length∧r.name.length<=8)∧(1<=r.key.length∧r.key.length<=16):=by
 have:QY r.kind=M:=by rcases hk with e|e<;>rw[e]<;>decide
 exact⟨hr.name this,hr.key this⟩
end
def L2:Prop:=∀(w:F)(v u:H)(t:Tx)(l:List Xz),Gy w v t->zP t->YZ w u l->C5 l->sY O 139 #[v,u] w fun e w'=>e=tD (sL #[tL (Ux t l),Y tC (FY t)])∧L w w' G
def bG:Prop:=∀(w:F)(v:H)(c:Xz),JT w v c->EF c->sY O 160 #[v] w fun e w'=>∃x,e=tD (sL #[x,Y tC (Q9 c)])∧Qe w' x (F3 c)∧L w w' G
def SP:Prop:=∀(w:F)(v:H)(c:Xz),JT w v c->EF c->sY O 164 #[v] w fun e w'=>e=tD (Y tC (Q9 c))∧L w w' G
theorem FQ(w:F):(sizeOf (O.elem 25)).run O w=.ok 1 w:=by
 kernel_rfl
theorem Qe.cap{w:F}{a:Option rC}{n cap:Nat}{bs:List UInt8}(h:Qe w (J a n cap) bs):bs.length<=cap∧n=bs.length:=by
 obtain⟨a',cap',e,hc,_⟩:=h;simp only[tH]at e;obtain⟨_,rfl,rfl⟩:=e;exact⟨hc,rfl⟩
theorem Qe.byte{w:F}{a:Option rC}{n cap:Nat}{bs:List UInt8}(h:Qe w (J a n cap) bs)(i:Nat)(hi:i<bs.length):∃b o,a=I ⟨b,o,G⟩∧Kx w b o bs:=by
 obtain⟨a',cap',e,hc,h⟩:=h;simp only[tH]at e;obtain⟨rfl,rfl,rfl⟩:=e;rcases h with⟨rfl,_⟩|⟨b,o,rfl,h⟩;·simp at hi
 ·exact⟨b,o,rfl,h⟩
theorem Qe.sliced{w:F}{a:Option rC}{cap:Nat}{l:List UInt8}(h:Qe w (J a l.length cap) l)(i j:Nat)(hij:i<=j)(hj:j<=l.length):Qe w (sU a i j cap 1) ((l.take j).drop i):=by
 obtain⟨a',cap',e,hc,h⟩:=h;simp only[tH,true_and]at e;obtain⟨rfl,rfl⟩:=e;have hlen:((l.take j).drop i).length=j-i:=by simp;omega
 refine⟨if cap=i then a else a.map (·.add (i*1)),cap-i,by rw[hlen];rfl,by rw[hlen];omega,?_⟩;by_cases hci:cap=i;·left;exact⟨tJ (by rw[hlen];omega),fun _=>by omega⟩
 ·rw[if_neg hci];rcases h with⟨rfl,h⟩|⟨b,o,rfl,h⟩;(·left;refine⟨by simp,fun e=>?_⟩;cases a with|none=>have:=h rfl;simp at hj;omega|some x=>cases e);·right;refine⟨b,o+i,by simp[ZQ],fun k hk=>?_⟩;rw[hlen]at hk;have:=h (i+k) (by omega);(have e:((l.take j).drop i).getD k 0=l.getD (i+k) 0:=by simp[show i+k<j by omega]);rw[e,show o+i+k=o+(i+k)by omega];exact this
theorem zJ(a:Option rC)(cap:Nat)(l:List UInt8)(n:Nat)(hn:n<=l.length)(hc:l.length<=cap):∃a1 c1,(∀W,(rV 25 (J a l.length cap) G (I (Y tC (n:Int))) G).run O W=.ok (J a1 n c1) W)∧∀W,Qe W (J a l.length cap) l->Qe W (J a1 n c1) (l.take n):=by
 refine⟨if cap=0then a else a.map (·.add (0*1)),cap-0,fun W=>?_,fun W h=>?_⟩;·rw[run_slice_h _ _ _ _ _ (by kernel_rfl) _ _ (by omega) (by omega),FQ];simp only[rI,sU,sJ,pJ]
 ·have:=h.sliced 0 n (by omega) hn;simpa only[sU,oF,pJ]using this
theorem Gt(a:Option rC)(cap:Nat)(l:List UInt8)(i j:Nat)(hij:i<=j)(hj:j<=l.length)(hc:l.length<=cap):∃a1 c1,(∀W,(rV 25 (J a l.length cap) (I (Y tC (i:Int))) (I (Y tC (j:Int))) G).run O W=.ok (J a1 (j-i) c1) W)∧∀W,Qe W (J a l.length cap) l->Qe W (J a1 (j-i) c1) ((l.take j).drop i):=by
 refine⟨if cap=i then a else a.map (·.add (i*1)),cap-i,fun W=>?_,fun W h=>?_⟩;·rw[run_slice_lh _ _ _ _ _ (by kernel_rfl) _ _ _ _ (by omega) (by omega) (by omega),FQ];simp only[rI,sU,sJ]
 ·have:=h.sliced i j hij hj;simpa only[sU]using this
theorem VB(a:Option rC)(cap:Nat)(l:List UInt8)(n:Nat)(hn:n<=l.length):∃a1 c1,(∀W,(rV 25 (J a l.length cap) (I (Y tC (n:Int))) G G).run O W=.ok (J a1 (l.length-n) c1) W)∧∀W,Qe W (J a l.length cap) l->Qe W (J a1 (l.length-n) c1) (l.drop n):=by
 refine⟨if cap=n then a else a.map (·.add (n*1)),cap-n,fun W=>?_,fun W h=>?_⟩;·rw[run_slice_l _ _ _ _ _ (by kernel_rfl) _ _ (by omega) (by omega),FQ];simp only[rI,sU,sJ]
 ·have:=h.sliced n l.length hn (tV _);simpa only[sU,sF]using this
theorem Dg{ws:List Zf}(hn:ws.length<=1000)(h:∀w∈ws,QA w=0):kH ws:=⟨by
 omega,fun j hj=>by
 have h0:=h ws[j] (sS hj);rw[show ws[j]=ws.getD j Qq by simp[hj]]at h0;have h2:=(XH _).1 h0;have h3:(ws.getD j Qq).value.length<=32:=by have:=h2.2.2;split at this;(·rw[this];simp);·exact this
 exact⟨by omega,by omega,by omega⟩⟩
theorem Mu{c:Xz}(h:Q9 c=0):EF c:=by
 obtain⟨h1,h2,h3⟩:=(KH c).1 h;exact⟨by omega,Dg (by omega) h3⟩
def Hm:Prop:=∀(w:F)(v u a b c:H)(l:FL)(t:Tx)(n k m:List UInt8),ZP w v l->V2 l->Gy w u t->zP t->Qe w a n->Qe w b k->Qe w c m->n.length<=140737488355328->k.length<=140737488355328->m.length<=140737488355328->sY O 120 #[v,u,a,b,c] w fun e w'=>∃x,e=tD (sL #[x,Y tC (Kl l t n k m)])∧QN 0 w' x (VH l t n k m)∧L w w' G
def Wl:Prop:=∀(w:F)(v u x:H)(l:PL)(f t:List UInt8),Qr w v l->Qe w u f->Qe w x t->kD l->f.length<=140737488355328->t.length<=140737488355328->sY O 153 #[v,u,x] w fun e w'=>∃y,e=tD (sL #[y,Y tC (Yx l f t)])∧QN 0 w' y (KA l f t)∧L w w' G
def Hn:Prop:=∀(w:F)(v r u t:H)(l:FL)(n k m:List UInt8),ZP w v l->Qe w r n->Qe w u k->Qe w t m->V2 l->n.length<=140737488355328->k.length<=140737488355328->m.length<=140737488355328->sY O 132 #[v,r,u,t] w fun e w'=>∃x,e=tD (sL #[x,Y tC (Yz l n k m)])∧QN 0 w' x (Kc l n k m)∧L w w' G
def EZ:Prop:=∀(w:F)(v:H)(bs:List UInt8)(i:Int),Qe w v bs->sY O 96 #[v,Y tC i] w fun e w'=>e=tD (sL #[tL (Bg bs i).1,Y tC (Bg bs i).2])∧L w w' G
theorem EZ.of(hB:EZ)(w:F)(v:H)(k:List UInt8)(i:Nat)(hv:Qe w v k)(hk:1<=k.length∧k.length<=16)(hi:i<145):sY O 96 #[v,Y tC (i:Int)] w fun e w'=>e=tD (sL #[tL (ZS k i),Y tC 0])∧L w w' G:=by
 have:=hB w v k i hv;rw[aF k i hk hi]at this;exact this
def T7:Prop:=∀(w:F)(v u:H)(a b:List UInt8),Qe w v a->Qe w u b->sY O 94 #[v,u] w fun e w'=>e=tD (sL #[Y tC (Fw a b).1,Y tC (Fw a b).2])∧L w w' G
theorem T7.of(hP:T7)(w:F)(v u:H)(a b:List UInt8)(hv:Qe w v a)(hu:Qe w u b)(ha:1<=a.length∧a.length<=16)(hb:1<=b.length∧b.length<=16):sY O 94 #[v,u] w fun e w'=>e=tD (sL #[Y tC (JE a b),Y tC 0])∧L w w' G:=by
 have:=hP w v u a b hv hu;rw[IG a b ha hb]at this;exact this
def As:Prop:=∀(w:F)(v u:H)(t:Tx)(r:Zf),Gy w v t->zP t->Z9 w u r->YL r->sY O 122 #[v,u] w fun e w'=>∃x,e=tD (sL #[x,Y tC (Xg t r)])∧Gu w' x (Yb t r)∧L w w' G
def S5:Prop:=∀(w:F)(v:H)(r:Rq),Vc w->XT w v r->xN r->sY O 121 #[v] w fun e w'=>∃x,e=tD (sL #[x,Y tC (YY r)])∧Z9 w' x (Xi r)∧L w w' G
def II:Prop:=∀(w:F)(n t:Int),-9223372036854775808<=n->n<=9223372036854775807->-9223372036854775808<=t->t<=9223372036854775807->sY O 117 #[Y tC n,Y tC t] w fun e w'=>e=tD (tL (ZG n t))∧L w w' G
def OU:Prop:=∀(w:F)(v:H)(b:List UInt8),Vc w->Qe w v b->b.length<=140737488355328->sY O 15 #[v] w fun e w'=>∃x,e=tD (sL #[x,Y tC (QI b)])∧XT w' x (Qu b)∧L w w' G
theorem Hs(b:List UInt8)(n:Nat)(h:n<b.length):Zs (b.drop n)=if n+1+(b.getD n 0).toNat<=b.length then I ((b.take (n+1+(b.getD n 0).toNat)).drop (n+1),b.drop (n+1+(b.getD n 0).toNat))else G:=by
 rw[sX h,Zs,show b[n]=b.getD n 0 by simp[h],pY];by_cases hc:n+1+(b.getD n 0).toNat<=b.length;·rw[if_pos (by omega),if_pos hc,List.drop_take,List.drop_drop,Nat.add_sub_cancel_left]
 ·rw[if_neg (by omega),if_neg hc]
def TP(ws:List Zf):Prop:=∀p∈ws,p.name.length<=255∧p.key.length<=255∧p.value.length<=255
theorem D6{ws:List Zf}{p:Zf}(h:TP ws)(hp:p.name.length<=255∧p.key.length<=255∧p.value.length<=255):TP (ws++[p]):=fun q hq=>by
 rcases sB.1 hq with hq|hq;·exact h q hq
 ·simp only[tK,tS,or_false]at hq;rw[hq];exact hp
theorem LU{b:List UInt8}(h:4000<b.length):YA b=1∧Jy b=Zl:=by
 have:YA b=1:=by rw[YA,if_pos h]
 exact⟨this,by rw[Jy,this,if_neg (by decide)]⟩
theorem Ao{b:List UInt8}(h:b.length<4):YA b=14∧Jy b=Zl:=by
 have:YA b=14:=by rw[YA,if_neg (by omega),if_pos h]
 exact⟨this,by rw[Jy,this,if_neg (by decide)]⟩
theorem S7{b:List UInt8}(h1:¬4000<b.length)(h2:¬b.length<4)(h:GD b=G):YA b=14∧Jy b=Zl:=by
 have:YA b=14:=by rw[YA,if_neg h1,if_neg h2,h]
 exact⟨this,by rw[Jy,this,if_neg (by decide)]⟩
theorem SJ{b r:List UInt8}{ws:List Zf}(h1:¬4000<b.length)(h2:¬b.length<4)(h:GD b=I (ws,r))(hr:r.length≠0):YA b=4∧Jy b=Zl:=by
 have:YA b=4:=by rw[YA,if_neg h1,if_neg h2,h];show(if r.length=0then _ else(4:Int))=4;rw[if_neg hr]
 exact⟨this,by rw[Jy,this,if_neg (by decide)]⟩
theorem Hc{b r:List UInt8}{ws:List Zf}(h1:¬4000<b.length)(h2:¬b.length<4)(h:GD b=I (ws,r))(hr:r.length=0):YA b=Q9 ⟨(VT b:Int),ws⟩∧(YA b=0->Jy b=⟨(VT b:Int),ws⟩)∧(YA b≠0->Jy b=Zl):=by
 have:YA b=Q9 ⟨(VT b:Int),ws⟩:=by rw[YA,if_neg h1,if_neg h2,h];show(if r.length=0then _ else(4:Int))=_;rw[if_pos hr]
 refine⟨this,fun h0=>?_,fun h0=>?_⟩;·rw[Jy,if_pos h0,h]
 ·rw[Jy,if_neg h0]
def Xf(k:Int)(m:Nat)(p0 p1 p2 p3 r:List UInt8):Option (Rq×List UInt8):=match m with|0=>X8 k r|1=>U6 k p0 r|2=>U8 k p0 p1 r|3=>U7 k p0 p1 p2 r|_=>I (⟨k,p0,p1,p2,p3⟩,r)
theorem JS(r:List UInt8):Jd M r=Zs r:=rfl
theorem xX(r:List UInt8)(h:r.length=0):Zs r=G:=by
 rw[tJ h];rfl
theorem kK(r:List UInt8)(h:0<r.length):Zs r=if 1+(r.getD 0 0).toNat<=r.length then I ((r.take (1+(r.getD 0 0).toNat)).drop 1,r.drop (1+(r.getD 0 0).toNat))else G:=by
 have:=Hs r 0 h;rw[sR]at this;exact this
theorem GO(k:Int)(p0 p1 p2 p3 r:List UInt8):(QS k 0=N->Xf k 0 p0 p1 p2 p3 r=Xf k 1 [] p1 p2 p3 r)∧(QS k 1=N->Xf k 1 p0 p1 p2 p3 r=Xf k 2 p0 [] p2 p3 r)∧(QS k 2=N->Xf k 2 p0 p1 p2 p3 r=Xf k 3 p0 p1 [] p3 r)∧(QS k 3=N->Xf k 3 p0 p1 p2 p3 r=Xf k 4 p0 p1 p2 [] r):=by
 refine⟨fun h=>?_,fun h=>?_,fun h=>?_,fun h=>?_⟩;·show X8 k r=U6 k [] r;rw[X8,show QY k=N from h];rfl
 ·show U6 k p0 r=U8 k p0 [] r;rw[U6,show QY k=N from h];rfl
 ·show U8 k p0 p1 r=U7 k p0 p1 [] r;rw[U8,show tR (k=3)=N from h];rfl
 ·show U7 k p0 p1 p2 r=I (⟨k,p0,p1,p2,[]⟩,r);rw[U7,show tR (k=4)=N from h];rfl
theorem VV(k:Int)(p0 p1 p2 p3 r:List UInt8)(h0:Zs r=G)(m:Nat)(hm:m<4)(h:QS k m=M):Xf k m p0 p1 p2 p3 r=G:=by
 match m,hm with|0,_=>show X8 k r=G;rw[X8,show QY k=M from h,JS,h0]|1,_=>show U6 k p0 r=G;rw[U6,show QY k=M from h,JS,h0]|2,_=>show U8 k p0 p1 r=G;rw[U8,show tR (k=3)=M from h,JS,h0]|3,_=>show U7 k p0 p1 p2 r=G;rw[U7,show tR (k=4)=M from h,JS,h0]
theorem VW(k:Int)(p0 p1 p2 p3 r p r2:List UInt8)(h0:Zs r=I (p,r2)):(QS k 0=M->Xf k 0 p0 p1 p2 p3 r=Xf k 1 p p1 p2 p3 r2)∧(QS k 1=M->Xf k 1 p0 p1 p2 p3 r=Xf k 2 p0 p p2 p3 r2)∧(QS k 2=M->Xf k 2 p0 p1 p2 p3 r=Xf k 3 p0 p1 p p3 r2)∧(QS k 3=M->Xf k 3 p0 p1 p2 p3 r=Xf k 4 p0 p1 p2 p r2):=by
 refine⟨fun h=>?_,fun h=>?_,fun h=>?_,fun h=>?_⟩;·show X8 k r=U6 k p r2;rw[X8,show QY k=M from h,JS,h0]
 ·show U6 k p0 r=U8 k p0 p r2;rw[U6,show QY k=M from h,JS,h0]
 ·show U8 k p0 p1 r=U7 k p0 p1 p r2;rw[U8,show tR (k=3)=M from h,JS,h0]
 ·show U7 k p0 p1 p2 r=I (⟨k,p0,p1,p2,p⟩,r2);rw[U7,show tR (k=4)=M from h,JS,h0]
def LX(k:Int)(b:List UInt8):Int:=match X8 k b with|none=>14|I (_,x)=>if x.length=0then 0 else 4
def F4(k:Int)(b:List UInt8):Rq:=match X8 k b with|none=>VR|I (r,x)=>if x.length=0then r else VR
theorem Fl{k:Int}{b:List UInt8}(h:X8 k b=G):LX k b=14∧F4 k b=VR:=by
 unfold LX F4;rw[h];exact⟨rfl,rfl⟩
theorem Fp{k:Int}{b x:List UInt8}{r:Rq}(h:X8 k b=I (r,x))(hx:0<x.length):LX k b=4∧F4 k b=VR:=by
 unfold LX F4;rw[h];exact⟨if_neg (by omega),if_neg (by omega)⟩
theorem Fk{k:Int}{b x:List UInt8}{r:Rq}(h:X8 k b=I (r,x))(hx:x.length=0):LX k b=0∧F4 k b=r:=by
 unfold LX F4;rw[h];exact⟨if_pos hx,if_pos hx⟩
theorem aP{k:Int}{b:List UInt8}(h:LX k b=0):(F4 k b).kind=k:=by
 match hD:X8 k b with|none=>rw[(Fl hD).1]at h;cases h|I (r,x)=>by_cases hx:x.length=0;(·rw[(Fk hD hx).2];exact(F2 hD).2);·rw[(Fp hD (by omega)).1]at h;cases h
theorem aJ{b:List UInt8}(h1:¬4000<b.length)(h2:¬b.length=0)(hk:1<=Ui b∧Ui b<=8):QI b=(if LX (Ui b) (b.drop 1)=0then Yd (F4 (Ui b) (b.drop 1))else LX (Ui b) (b.drop 1))∧(QI b=0->Qu b=F4 (Ui b) (b.drop 1)):=by
 match hD:X8 (Ui b) (b.drop 1)with|none=>obtain⟨e1,e2⟩:=Fl hD;(have:QI b=14:=by rw[QI,if_neg h1,if_neg h2,if_pos hk,hD]);rw[e1,this];exact⟨rfl,fun h=>by cases h⟩|I (r,x)=>(have hw:QI b=if x.length=0then Yd r else 4:=by rw[QI,if_neg h1,if_neg h2,if_pos hk,hD]);by_cases hx:x.length=0;(·obtain⟨e1,e2⟩:=Fk hD hx;rw[if_pos hx]at hw;rw[e1,e2,if_pos rfl];exact⟨hw,fun h=>by rw[Qu,if_pos h,hD]⟩);·obtain⟨e1,e2⟩:=Fp hD (by omega);rw[if_neg hx]at hw;rw[e1,hw];exact⟨rfl,fun h=>by cases h⟩
theorem OS{k:Int}{b:List UInt8}(hb:b.length<=4000):(F4 k b).name.length<=4000∧(F4 k b).key.length<=4000∧(F4 k b).last.length<=4000∧(F4 k b).value.length<=4000:=by
 match hD:X8 k b with|none=>rw[(Fl hD).2];simp[VR]|I (r,x)=>by_cases hx:x.length=0;(·rw[(Fk hD hx).2];obtain⟨_,r1,r2,r3,h1,h2,h3,h4⟩:=jZ hD;(have key:∀{c:Bool}{r p r2:List UInt8},Jd c r=I (p,r2)->p.length<=r.length∧r2.length<=r.length:=by intro c r p r2 h;have hf:=VA h;cases c with|false=>have:=L9 h rfl;subst this;rw[hf];exact⟨tU _,by simp[Xl]⟩|true=>rw[hf];simp[Xl,XI];omega);have a1:=key h1;have a2:=key h2;have a3:=key h3;have a4:=key h4;omega);·rw[(Fp hD (by omega)).2];simp[VR]
section
variable{D:List UInt8->List UInt8}{v:Sv}
theorem Ds:∀(l:List Ac)(v:Sv),∃rs,(l.foldl (Zg D) v).out=v.out++rs|[],_=>⟨[],by simp⟩|a::l,v=>by obtain⟨r1,e1⟩:=aQ D v a;obtain⟨r2,e2⟩:=Ds l (Zg D v a);exact⟨r1++r2,by rw[sQ,e2,e1,pW]⟩
theorem eX(l:List Ac)(k:Nat):∃rs,(U3 D l).out=(U3 D (l.take k)).out++rs:=by
 obtain⟨rs,e⟩:=Ds (D:=D) (l.drop k) (U3 D (l.take k));refine⟨rs,?_⟩;rw[<-e,<-MX,pB]
theorem EI(hD:∀x,(D x).length=4):∀(l:List Ac)(v:Sv),Za D v->(∀a∈l,Y1 a)->v.synced<=(l.foldl (Zg D) v).synced|[],_,_,_=>tV _|a::l,v,h,ha=>by have h1:=(Cf hD h (ha a tQ)).1;exact tM h1 (EI hD l _ (h.act hD (ha a tQ)) (fun x hx=>ha x (tN _ hx)))
def Pe(D:List UInt8->List UInt8):Sv->List Ac->List Int|_,[]=>[]|v,a::l=>(if a.kind=2then((Zg D v a).out.drop v.out.length).map (fun r=>r.turn)else[])++Pe D (Zg D v a) l
theorem PQ:∀(q:List Nat)(n:Nat),(∀t∈(JF n q).map (fun r=>r.turn),(n:Int)<t∧t<=((n+q.length:Nat):Int))∧((JF n q).map (fun r=>r.turn)).Pairwise (·<·)|[],n=>⟨fun t ht=>by simp[JF]at ht,by simp[JF]⟩|s::q,n=>by obtain⟨h1,h2⟩:=PQ q (n+1);rw[JF,pH];refine⟨fun t ht=>?_,rB.2 ⟨fun t ht=>?_,h2⟩⟩;(·rcases tK.1 ht with e|e;(·rw[e];show(n:Int)<((n+1:Nat):Int)∧((n+1:Nat):Int)<=((n+(q.length+1):Nat):Int);omega);·have:=h1 t e;rw[sC];omega);·show((n+1:Nat):Int)<t;exact(h1 t ht).1
theorem Ap(v:Sv){a:Ac}(ha:a.kind=2):(∀t∈((Zg D v a).out.drop v.out.length).map (fun r=>r.turn),(v.synced:Int)<t∧t<=((Zg D v a).synced:Int))∧(((Zg D v a).out.drop v.out.length).map (fun r=>r.turn)).Pairwise (·<·):=by
 rw[Zg,if_neg (by omega),if_pos ha];split;·show(∀t∈((v.out++JF v.synced v.queue).drop v.out.length).map _,_∧t<=((v.synced+v.queue.length:Nat):Int))∧(((v.out++JF v.synced v.queue).drop v.out.length).map _).Pairwise _;rw[List.drop_left];exact PQ v.queue v.synced
 ·rw[List.drop_length];exact⟨fun t ht=>by simp at ht,by simp⟩
theorem I9(hD:∀x,(D x).length=4):∀(l:List Ac)(v:Sv),Za D v->(∀a∈l,Y1 a)->(∀t∈Pe D v l,(v.synced:Int)<t∧t<=((l.foldl (Zg D) v).synced:Int))∧(Pe D v l).Pairwise (·<·)|[],v,_,_=>⟨fun t ht=>by simp[Pe]at ht,by simp[Pe]⟩|a::l,v,h,ha=>by have hA:=ha a tQ;have hl:∀x∈l,Y1 x:=fun x hx=>ha x (tN _ hx);have hg:=h.act hD hA;have ht:=(Cf hD h hA).1;have hr:=EI hD l _ hg hl;obtain⟨h1,h2⟩:=I9 hD l _ hg hl;rw[Pe,sQ];by_cases e:a.kind=2;(·rw[if_pos e];obtain⟨k1,k2⟩:=Ap (D:=D) v e;refine⟨fun t hm=>?_,List.pairwise_append.2 ⟨k2,h2,fun x hx y hy=>?_⟩⟩;(·rcases sB.1 hm with hm|hm;(·have:=k1 t hm;omega);·have:=h1 t hm;omega);·have:=k1 x hx;have:=h1 y hy;omega);·rw[if_neg e,pL];exact⟨fun t hm=>by have:=h1 t hm;omega,h2⟩
theorem cY(v:Sv){a:Ac}(ha:a.kind=1):((Zg D v a).out.length=v.out.length+1∧(∃p,(Zg D v a).out=v.out++[p]∧p.sess=(a.sess.toNat:Int))∧(Zg D v a).waits=v.waits∧(Zg D v a).queue=v.queue∧(Zg D v a).up=v.up)∨((Zg D v a).out=v.out∧v.up=M∧QI a.data=0∧(Qu a.data).kind=6∧v.waits a.sess.toNat=N∧(Zg D v a).waits=Um v.waits a.sess.toNat M∧(Zg D v a).queue=v.queue++[a.sess.toNat]∧(Zg D v a).up=v.up):=by
 rw[Zg,if_pos ha];rcases FU D v a.sess.toNat a.data with h|⟨h1,h2,h3,h4,_,h6⟩;·obtain⟨p,e1,e2⟩:=h.out;exact .inl ⟨by rw[e1];simp,⟨p,e1,e2⟩,h.waits,h.queue,h.up⟩
 ·exact .inr ⟨h6.out,h1,h2,h3,h4,h6.waits,h6.queue,h6.up⟩
theorem cM(v:Sv)(hu:v.up=M){a:Ac}(ha:a.kind=2):(Zg D v a).out=v.out++JF v.synced v.queue∧(Zg D v a).waits=Ut v.waits v.queue∧(Zg D v a).queue=[]∧(Zg D v a).up=M:=by
 rw[Zg,if_neg (by omega),if_pos ha,if_pos hu];exact⟨rfl,rfl,rfl,hu⟩
theorem O0(h:Za D v){a:Ac}(ha:a.kind=3):(Zg D v a).out=v.out∧(∀s,(Zg D v a).waits s=N)∧(Zg D v a).queue=[]∧(Zg D v a).up=N:=by
 rw[Zg,if_neg (by omega),if_neg (by omega),if_pos ha];split;·exact⟨rfl,fun _=>rfl,rfl,rfl⟩
 ·(have hf:v.up=N:=by simpa using(by assumption:¬v.up=M));exact⟨rfl,fun s=>h.nowait (h.down hf).1 s,(h.down hf).1,hf⟩
end
structure Vd where
  rest : List UInt8
  short : Bool
def P8(r:Vd)(n:Nat):List UInt8:=if r.short=M∨r.rest.length<n then[]else r.rest.take n
def Cv(r:Vd)(n:Nat):Vd:=if r.short=M∨r.rest.length<n then⟨r.rest,M⟩else⟨r.rest.drop n,N⟩
theorem Fv{r:Vd}{n:Nat}(h:r.short=M∨r.rest.length<n):P8 r n=[]∧Cv r n=⟨r.rest,M⟩:=⟨if_pos h,if_pos h⟩
theorem uM{r:Vd}{n:Nat}(h:¬(r.short=M∨r.rest.length<n)):P8 r n=r.rest.take n∧Cv r n=⟨r.rest.drop n,N⟩:=⟨if_neg h,if_neg h⟩
theorem OL(r:Vd)(n:Nat):(P8 r n).length<=n:=by
 unfold P8;split;·simp
 ·rw[rF];omega
def Xd(r:Vd):Vd:=Cv r 1
def JA(r:Vd):Nat:=if(Xd r).short=M then 0 else((P8 r 1).getD 0 0).toNat
theorem Yl(r:Vd):JA r<256:=by
 unfold JA;split;·omega
 ·exact((P8 r 1).getD 0 0).toNat_lt
theorem YP(x:UInt8)(l:List UInt8):Xd ⟨x::l,N⟩=⟨l,N⟩∧JA ⟨x::l,N⟩=x.toNat:=by
 have h:¬((⟨x::l,N⟩:Vd).short=M∨(⟨x::l,N⟩:Vd).rest.length<1):=by simp
 obtain⟨h1,h2⟩:=uM h;have h3:Xd ⟨x::l,N⟩=⟨l,N⟩:=h2;refine⟨h3,?_⟩;rw[JA,h3,h1,if_neg (by simp)];rfl
theorem vI{r:Vd}(h:r.short=M)(n:Nat):(Cv r n).short=M:=by
 rw[(Fv (.inl h)).2]
theorem J9{r:Vd}(h:r.short=M):(Xd r).short=M:=vI h 1
theorem xR:(Xd ⟨[],N⟩).short=M:=rfl
def A7(r:Vd):List UInt8:=P8 (Xd r) (JA r)
def Ku(r:Vd):Vd:=Cv (Xd r) (JA r)
theorem Vr{r:Vd}(h:r.short=M):(Ku r).short=M:=vI (J9 h) _
theorem uX{l p l2:List UInt8}(h:Zs l=I (p,l2)):A7 ⟨l,N⟩=p∧Ku ⟨l,N⟩=⟨l2,N⟩:=by
 cases l with|nil=>cases h|cons x l=>rw[Zs]at h;obtain⟨h1,h2⟩:=YP x l;unfold A7 Ku;rw[h1,h2];by_cases hx:x.toNat<=l.length;(·rw[if_pos hx]at h;simp only[tA,rW]at h;obtain⟨rfl,rfl⟩:=h;exact uM (by simp;omega));·rw[if_neg hx]at h;cases h
theorem Fm{l:List UInt8}(h:Zs l=G):(Ku ⟨l,N⟩).short=M:=by
 cases l with|nil=>exact vI xR _|cons x l=>rw[Zs]at h;obtain⟨h1,h2⟩:=YP x l;unfold Ku;rw[h1,h2];by_cases hx:x.toNat<=l.length;(·rw[if_pos hx]at h;cases h);·rw[(Fv (.inr (by show l.length<x.toNat;omega))).2]
theorem TH(r:Vd):(A7 r).length<=255:=tM (OL _ _) (pZ (Yl r))
def Fx(r:Vd):Zf:=if JA (Ku (Ku r))=255then⟨A7 r,A7 (Ku r),[],M⟩else⟨A7 r,A7 (Ku r),A7 (Ku (Ku r)),N⟩
def Cn(r:Vd):Vd:=if JA (Ku (Ku r))=255then Xd (Ku (Ku r))else Ku (Ku (Ku r))
theorem Dt{r:Vd}(h:r.short=M):(Cn r).short=M:=by
 unfold Cn;split;·exact J9 (Vr (Vr h))
 ·exact Vr (Vr (Vr h))
theorem Tt{r:Vd}(h:(Ku (Ku r)).short=M):(Cn r).short=M:=by
 unfold Cn;split;·exact J9 h
 ·exact Vr h
theorem aL{l l2:List UInt8}{p:Zf}(h:Y0 l=I (p,l2)):Fx ⟨l,N⟩=p∧Cn ⟨l,N⟩=⟨l2,N⟩:=by
 unfold Y0 at h;cases h1:Zs l with|none=>rw[h1]at h;cases h|some q=>obtain⟨n,la⟩:=q;rw[h1]at h;have h:N0 n la=I (p,l2):=h;unfold N0 at h;obtain⟨a1,a2⟩:=uX h1;cases h2:Zs la with|none=>rw[h2]at h;cases h|some q=>obtain⟨k,lb⟩:=q;rw[h2]at h;have h:kV n k lb=I (p,l2):=h;unfold kV at h;obtain⟨b1,b2⟩:=uX h2;unfold Fx Cn;rw[a1,a2,b1,b2];cases lb with|nil=>cases h|cons x lb=>obtain⟨c1,c2⟩:=YP x lb;by_cases hx:(x::lb).head?=I 255;(·rw[if_pos hx]at h;simp only[tA,rW]at h;obtain⟨rfl,rfl⟩:=h;have:x=255:=oJ hx;subst this;rw[c2,c1,if_pos (by rfl),if_pos (by rfl)];exact⟨rfl,rfl⟩);·rw[if_neg hx]at h;have hne:¬x.toNat=255:=fun e=>hx (by rw[show x=255from oC.1 e];rfl);rw[c2,if_neg hne,if_neg hne];cases h3:Zs (x::lb)with|none=>rw[h3]at h;cases h|some q=>obtain⟨v,lc⟩:=q;rw[h3]at h;simp only[tA,rW]at h;obtain⟨rfl,rfl⟩:=h;obtain⟨d1,d2⟩:=uX h3;rw[d1,d2];exact⟨rfl,rfl⟩
theorem O4{l:List UInt8}(h:Y0 l=G):(Cn ⟨l,N⟩).short=M:=by
 unfold Y0 at h;cases h1:Zs l with|none=>exact Tt (Vr (Fm h1))|some q=>obtain⟨n,la⟩:=q;rw[h1]at h;have h:N0 n la=G:=h;unfold N0 at h;obtain⟨a1,a2⟩:=uX h1;cases h2:Zs la with|none=>exact Tt (by rw[a2];exact Fm h2)|some q=>obtain⟨k,lb⟩:=q;rw[h2]at h;have h:kV n k lb=G:=h;unfold kV at h;obtain⟨b1,b2⟩:=uX h2;unfold Cn;rw[a2,b2];cases lb with|nil=>split;(·exact xR);·exact Fm rfl|cons x lb=>obtain⟨c1,c2⟩:=YP x lb;by_cases hx:(x::lb).head?=I 255;(·rw[if_pos hx]at h;cases h);·rw[if_neg hx]at h;have hne:¬x.toNat=255:=fun e=>hx (by rw[show x=255from oC.1 e];rfl);rw[c2,if_neg hne];cases h3:Zs (x::lb)with|none=>exact Fm h3|some q=>obtain⟨v,lc⟩:=q;rw[h3]at h;cases h
theorem WZ(r:Vd):(Fx r).name.length<=255∧(Fx r).key.length<=255∧(Fx r).value.length<=255:=by
 unfold Fx;split;·exact⟨TH _,TH _,by simp⟩
 ·exact⟨TH _,TH _,TH _⟩
def Uv:Nat->Vd->Vd|0,r=>r|n+1,r=>Cn (Uv n r)
def Un:Nat->Vd->List Zf|0,_=>[]|n+1,r=>Un n r++[Fx (Uv n r)]
theorem Me:∀(n:Nat)(r:Vd),(Un n r).length=n|0,_=>rfl|n+1,r=>by rw[Un,tB,Me n r];rfl
theorem Er:∀(n:Nat)(r:Vd),TP (Un n r)|0,_=>fun p hp=>by simp[Un]at hp|n+1,r=>D6 (Er n r) (WZ _)
theorem El:∀(n:Nat){r:Vd},r.short=M->(Uv n r).short=M|0,_,h=>h|n+1,_,h=>Dt (El n h)
theorem uK:∀(n:Nat){l l2:List UInt8}{ws:List Zf},ZU n l=I (ws,l2)->Un n ⟨l,N⟩=ws∧Uv n ⟨l,N⟩=⟨l2,N⟩|0,l,l2,ws,h=>by rw[ZU]at h;simp only[tA,rW]at h;obtain⟨rfl,rfl⟩:=h;exact⟨rfl,rfl⟩|n+1,l,l2,ws,h=>by rw[zK]at h;cases h1:ZU n l with|none=>rw[h1]at h;cases h|some q=>obtain⟨ws1,l1⟩:=q;rw[h1]at h;have h:(match Y0 l1 with|I (w,r2)=>I (ws1++[w],r2)|none=>G)=I (ws,l2):=h;obtain⟨e1,e2⟩:=uK n h1;cases h2:Y0 l1 with|none=>rw[h2]at h;cases h|some q=>obtain⟨p,l3⟩:=q;rw[h2]at h;simp only[tA,rW]at h;obtain⟨rfl,rfl⟩:=h;obtain⟨d1,d2⟩:=aL h2;rw[Un,Uv,e1,e2,d1,d2];exact⟨rfl,rfl⟩
theorem Dk:∀(n:Nat){l:List UInt8},ZU n l=G->(Uv n ⟨l,N⟩).short=M|0,l,h=>by rw[ZU]at h;cases h|n+1,l,h=>by rw[zK]at h;cases h1:ZU n l with|none=>exact Dt (Dk n h1)|some q=>obtain⟨ws1,l1⟩:=q;rw[h1]at h;have h:(match Y0 l1 with|I (w,r2)=>I (ws1++[w],r2)|none=>G)=G:=h;obtain⟨e1,e2⟩:=uK n h1;cases h2:Y0 l1 with|none=>rw[Uv,e2];exact O4 h2|some q=>obtain⟨p,l3⟩:=q;rw[h2]at h;cases h
def RH(r:Vd):Vd:=Uv (JA (Xd (Xd (Xd r)))) (Xd (Xd (Xd (Xd r))))
def RY(r:Vd):Xz:=⟨((65536*JA r+256*JA (Xd r)+JA (Xd (Xd r)):Nat):Int),Un (JA (Xd (Xd (Xd r)))) (Xd (Xd (Xd (Xd r))))⟩
theorem MR(r:Vd):TP (RY r).writes∧(RY r).writes.length<=255:=⟨Er _ _,by
 show(Un _ _).length<=255;rw[Me];exact pZ (Yl _)⟩
theorem Sw(b:List UInt8)(h:¬b.length<4):JA ⟨b,N⟩=(b.getD 0 0).toNat∧JA (Xd ⟨b,N⟩)=(b.getD 1 0).toNat∧JA (Xd (Xd ⟨b,N⟩))=(b.getD 2 0).toNat∧JA (Xd (Xd (Xd ⟨b,N⟩)))=(b.getD 3 0).toNat∧Xd (Xd (Xd (Xd ⟨b,N⟩)))=⟨b.drop 4,N⟩:=by
 match b,h with|[],h=>exact absurd (by simp) h|[_],h=>exact absurd (by simp) h|[_,_],h=>exact absurd (by simp) h|[_,_,_],h=>exact absurd (by simp) h|x0::x1::x2::x3::b,_=>obtain⟨a1,a2⟩:=YP x0 (x1::x2::x3::b);obtain⟨b1,b2⟩:=YP x1 (x2::x3::b);obtain⟨c1,c2⟩:=YP x2 (x3::b);obtain⟨d1,d2⟩:=YP x3 b;rw[a1,b1,c1,d1];exact⟨a2,b2,c2,d2,rfl⟩
theorem dZ(b:List UInt8)(h:b.length<4):(RH ⟨b,N⟩).short=M:=by
 unfold RH;refine El _ ?_;match b,h with|[],_=>exact J9 (J9 (J9 xR))|[x],_=>rw[(YP x []).1];exact J9 (J9 xR)|[x,y],_=>rw[(YP x [y]).1,(YP y []).1];exact J9 xR|[x,y,z],_=>rw[(YP x [y,z]).1,(YP y [z]).1,(YP z []).1];exact xR|_::_::_::_::_,h=>exact absurd h (by simp only[sC];omega)
theorem WQ{b:List UInt8}(h0:¬4000<b.length)(h:(RH ⟨b,N⟩).short=M):YA b=14∧Jy b=Zl:=by
 by_cases h4:b.length<4;·exact Ao h4
 ·obtain⟨_,_,_,e3,e4⟩:=Sw b h4;cases hb:GD b with|none=>exact S7 h0 h4 hb|some q=>obtain⟨ws,l⟩:=q;obtain⟨_,e5⟩:=uK _ hb;unfold RH at h;rw[e3,e4,e5]at h;cases h
theorem MG{b:List UInt8}(h:(RH ⟨b,N⟩).short=N):¬b.length<4∧GD b=I ((RY ⟨b,N⟩).writes,(RH ⟨b,N⟩).rest)∧(VT b:Int)=(RY ⟨b,N⟩).turn:=by
 by_cases h4:b.length<4;·rw[dZ b h4]at h;cases h
 ·obtain⟨e0,e1,e2,e3,e4⟩:=Sw b h4;refine⟨h4,?_,?_⟩;(·cases hb:GD b with|none=>have:=Dk _ hb;unfold RH at h;rw[e3,e4,this]at h;cases h|some q=>obtain⟨ws,l⟩:=q;obtain⟨e5,e6⟩:=uK _ hb;unfold RH RY;rw[e3,e4,e5,e6]);·unfold RY;rw[e0,e1,e2];rfl
theorem bM{b:List UInt8}(h0:¬4000<b.length)(h:(RH ⟨b,N⟩).short=N)(hr:(RH ⟨b,N⟩).rest.length≠0):YA b=4∧Jy b=Zl:=by
 obtain⟨h4,hb,_⟩:=MG h;exact SJ h0 h4 hb hr
theorem bB{b:List UInt8}(h0:¬4000<b.length)(h:(RH ⟨b,N⟩).short=N)(hr:(RH ⟨b,N⟩).rest.length=0):YA b=Q9 (RY ⟨b,N⟩)∧(YA b=0->Jy b=RY ⟨b,N⟩)∧(YA b≠0->Jy b=Zl):=by
 obtain⟨h4,hb,ht⟩:=MG h;have:=Hc h0 h4 hb hr;rw[ht]at this;exact this
theorem ZA(w:F)(o:Obj):∃W:F,Hid (W=w.alloc o)∧L w W G∧Hid (W.heap[w.heap.size]?=I o):=⟨w.alloc o,rfl,rA _ _ _,oI w o⟩
theorem jG(w:F)(b i:Nat)(u:H):∃W:F,Hid (W=tE w ⟨b,i,G⟩ u)∧L w W (I b):=⟨_,rfl,YH w b i u⟩
theorem gH:(251:Nat)≠5:=by
 decide
theorem bY:(251:Nat)≠75:=by
 decide
theorem Qe.rdr{w w':F}{b:Nat}{a0:Option rC}{n0 c0:Nat}{s:Bool}{t:sA}{v:H}{bs:List UInt8}(h:Qe w v bs)(hb:w.heap[b]?=I (S #[J a0 n0 c0,tL s] t))(hg:L w w' (I b)):Qe w' v bs:=by
 obtain⟨a,cap,rfl,hc,h⟩:=h;refine⟨a,cap,rfl,hc,?_⟩;rcases h with h|⟨pb,o,rfl,h⟩;·exact .inl h
 ·by_cases h0:bs=[];(·exact .inl ⟨h0,fun e=>by cases e⟩);·refine .inr ⟨pb,o,rfl,h.grown hg ?_⟩;intro e;cases e;have hc0:=h 0 (rU.2 h0);simp only[tW,hb,Nat.add_zero]at hc0;match o,hc0 with|0,hc0=>simp at hc0|1,hc0=>simp at hc0|o+2,hc0=>simp at hc0
structure Zd (w0 w : F) (b : Nat) (r : Vd) : Prop where
  at_ : ∃ a cap, w.heap[b]? = I (S #[J a r.rest.length cap, tL r.short] 251) ∧ Qe w0 (J a r.rest.length cap) r.rest
  old : ∃ a n c s, w0.heap[b]? = I (S #[J a n c, tL s] 251)
  grown : L w0 w (I b)
theorem Zd.lt{w0 w:F}{b:Nat}{r:Vd}(h:Zd w0 w b r):b<w.heap.size:=by
 obtain⟨a,cap,h,_⟩:=h.at_;exact(tI.1 h).1
theorem Zd.now{w0 w:F}{b:Nat}{r:Vd}(h:Zd w0 w b r){v:H}{bs:List UInt8}(hv:Qe w0 v bs):Qe w v bs:=by
 obtain⟨a,n,c,s,h0⟩:=h.old;exact hv.rdr h0 h.grown
theorem Zd.row{w0 w:F}{b:Nat}{r:Vd}(h:Zd w0 w b r):I b=G∨∃g cur t fz,I b=I g∧0<=g∧w.heap[g]?=I (S cur t fz)∧t≠5:=by
 obtain⟨a,cap,h,_⟩:=h.at_;exact .inr ⟨b,_,_,_,rfl,tU _,h,gH⟩
theorem Qi.rdr{w0 w w':F}{b:Nat}{r:Vd}{v:H}{bs:List UInt8}(h:Qi 0 w v bs)(hb:Zd w0 w b r)(hg:L w w' (I b)):Qi 0 w' v bs:=h.keptT hg hb.row
theorem Xo{w w':F}(hg:L w w' G)(r:Option Nat):L w w' r:=⟨hg.os,hg.tape,hg.output,hg.size,fun i hi _=>hg.block i hi (by
 simp)⟩
theorem Zd.kept{w0 w w':F}{b:Nat}{r:Vd}(h:Zd w0 w b r)(hg:L w w' G):Zd w0 w' b r:=by
 have hl:=h.lt;obtain⟨a,cap,h1,hs⟩:=h.at_;exact⟨⟨a,cap,by rw[hg.block b hl (by simp)];exact h1,hs⟩,h.old,Qa h.grown (Xo hg _)⟩
theorem Xb{w w':F}{b:Nat}(hg:L w w' (I b)){c:Nat}{o:Obj}(hc:w.heap[c]?=I o)(hne:c≠b):w'.heap[c]?=I o:=by
 rw[hg.block c (tI.1 hc).1 (by simpa using hne)];exact hc
theorem Zd.apart{w0 w w':F}{b:Nat}{r:Vd}(h:Zd w0 w b r){c:Nat}(hne:b≠c)(hc:w0.heap.size<=c)(hg:L w w' (I c)):Zd w0 w' b r:=by
 have hl:=h.lt;obtain⟨a,cap,h1,hs⟩:=h.at_;exact⟨⟨a,cap,by rw[hg.block b hl (by simpa using hne)];exact h1,hs⟩,h.old,Ju h.grown hc hg⟩
theorem Q4.rdr{rb:Nat}{w0 w w':F}{b:Nat}{r:Vd}{v:H}{l:List Zf}(h:Q4 rb 0 w v l)(hb:Zd w0 w b r)(hg:L w w' (I b)):Q4 rb 0 w' v l:=by
 obtain⟨a,cap,h0,_⟩:=hb.at_;exact h.kept hg (.inr (h.ne h0 bY)) hb.row
theorem Zd.ownV{rb:Nat}{w0 w w':F}{b:Nat}{r:Vd}{v:H}{l:List Zf}(h:Zd w0 w b r)(ho:Q4 rb 0 w v l)(hb:w0.heap.size<=rb)(hg:L w w' v.ownBlock):Zd w0 w' b r:=by
 obtain⟨a,cap,h1,hs⟩:=h.at_;have hne:=ho.ne h1 bY;cases hv:v.ownBlock with|none=>rw[hv]at hg;exact h.kept hg|some g=>rw[hv]at hg hne;exact h.apart (c:=g) (fun e=>hne (by rw[e])) (tM hb (ho.lt g hv).1) hg
section
open Go.ChangeShapes Go.WideShapes Go.ChangeAt Go.RowKit
theorem own:ownKnob O.godebug=G:=by
 kernel_rfl
theorem gR:laidOutB O=M:=by
 kernel_rfl
def gJ(k:IntKind)(w:F)(a:Option rC)(len cap:Nat)(zs:List Int):Prop:=(a=G∧len=0∧cap=0∧zs=[])∨∃x,a=I x∧len<=cap∧cap<=pD∧zs.length=cap∧(∀i,i<zs.length->w.cell? (x.add i)=I (Y k (zs.getD i 0)))∧∀n∈zs,(Lit.int k n).wf=M
theorem cO{w:F}{a:Option rC}{len cap:Nat}{zs:List Int}(h:gJ r7 w a len cap zs):∃bs:List UInt8,bs.length=len∧len<=pD∧Qe w (J a len cap) bs:=by
 rcases h with⟨rfl,rfl,rfl,rfl⟩|⟨x,rfl,hl,hm,hz,hc,hw⟩;·exact⟨[],rfl,by unfold pD;omega,QK w⟩
 ·(have hlen:((zs.take len).map fun z=>sH z.toNat).length=len:=by simp;omega);refine⟨(zs.take len).map fun z=>sH z.toNat,hlen,by omega,_,cap,by rw[hlen],by omega,?_⟩;by_cases h0:len=0;(·subst h0;exact .inl ⟨by simp,fun h=>by cases h⟩);·obtain⟨b,o,sp⟩:=x;have h00:=hc 0 (by omega);(obtain rfl:sp=G:=by cases sp with|none=>rfl|some q=>simp[Addr.add,tW]at h00;split at h00<;>simp at h00);refine .inr ⟨b,o,rfl,fun i hi=>?_⟩;rw[hlen]at hi;(have hi2:i<zs.length:=by omega);have:=hc i hi2;rw[ZQ]at this;rw[this];have hwf:=hw (zs.getD i 0) (by simp[hi2]);have hb:=bounds_u8 hwf;simp[hi,hi2]at hb⊢;omega
theorem VG{n:Int}(h:(Lit.int tC n).wf=M):-9223372036854775808<=n∧n<=9223372036854775807:=bounds_i64 h
theorem gT{n:Int}(h:(Lit.int r7 n).wf=M):∃c:UInt8,n=(c.toNat:Int):=by
 have hb:=bounds_u8 h;exact⟨sH n.toNat,by simp;omega⟩
theorem gW:O.bytesOf 5=1:=by
 kernel_rfl
theorem fX{w w':F}(h:L w w' G):Below w.heap.size w w':=⟨h.os,h.tape,h.output,h.size,fun k hk=>h.block k hk (by
 simp)⟩
end
structure WK(g:Gr):Prop where kind:-9223372036854775808<=g.kind∧g.kind<=9223372036854775807sess:-9223372036854775808<=g.sess∧g.sess<=9223372036854775807name:-9223372036854775808<=g.name∧g.name<=9223372036854775807key:-9223372036854775808<=g.key∧g.key<=9223372036854775807value:-9223372036854775808<=g.value∧g.value<=9223372036854775807
def OD(w:F)(b o:Nat)(g:Gr):Prop:=w.cell? ⟨b,o,G⟩=I (Y tC g.kind)∧w.cell? ⟨b,o+1,G⟩=I (Y tC g.sess)∧w.cell? ⟨b,o+2,G⟩=I (Y tC g.name)∧w.cell? ⟨b,o+3,G⟩=I (Y tC g.key)∧w.cell? ⟨b,o+4,G⟩=I (Y tC g.value)
theorem OD.grown{w w':F}{b o:Nat}{g:Gr}(h:OD w b o g)(hg:L w w' G):OD w' b o g:=⟨hg.cell h.1 (by
 simp),hg.cell h.2.1 (by
 simp),hg.cell h.2.2.1 (by
 simp),hg.cell h.2.2.2.1 (by
 simp),hg.cell h.2.2.2.2 (by
 simp)⟩
def Vl(w:F)(v:H)(l:List Gr):Prop:=∃a cap,v=J a l.length cap∧l.length<=cap∧(l=[]∨∃b o,a=I ⟨b,o,G⟩∧∀i,i<l.length->OD w b (o+i*5) (l.getD i IP))
theorem Vl.shape{w:F}{v:H}{l:List Gr}(h:Vl w v l):∃a cap,v=J a l.length cap:=by
 obtain⟨a,cap,rfl,_⟩:=h;exact⟨a,cap,rfl⟩
theorem Vl.grown{w w':F}{v:H}{l:List Gr}(h:Vl w v l)(hg:L w w' G):Vl w' v l:=by
 obtain⟨a,cap,rfl,hc,h⟩:=h;refine⟨a,cap,rfl,hc,?_⟩;rcases h with h|⟨b,o,rfl,h⟩;·exact .inl h
 ·exact .inr ⟨b,o,rfl,fun i hi=>(h i hi).grown hg⟩
theorem Vl.at{w:F}{a:Option rC}{n cap:Nat}{l:List Gr}(h:Vl w (J a n cap) l)(i:Nat)(hi:i<l.length):∃b o,a=I ⟨b,o,G⟩∧OD w b (o+i*5) (l.getD i IP):=by
 obtain⟨a',cap',e,_,h⟩:=h;simp only[tH]at e;obtain⟨rfl,_,_⟩:=e;rcases h with rfl|⟨b,o,rfl,h⟩;·simp at hi
 ·exact⟨b,o,rfl,h i hi⟩
def cT(l:List Gr):Prop:=∀g∈l,WK g
theorem bF{l:List Gr}{m:Nat}(h:m<l.length):V5 l (m+1)=V5 l m++[fU (l.getD m IP)]:=by
 unfold V5;rw[List.take_add_one,List.map_append];simp[h]
theorem cS(l:List Gr)(m:Nat):(V5 l m).length=min m l.length:=by
 simp[V5]
def eO:Prop:=∀(w:F)(v:H)(l:List Gr)(most:Nat),Vl w v l->cT l->Vc w->most<=1000->sY O 14 #[v,Y tC (most:Int)] w fun e w'=>∃x,e=tD x∧KM w.heap.size w' x (V5 l most)∧L w w' G
theorem WS(s q:Int)(d:List UInt8):YS ⟨1,s,q,d⟩=if 0<=s∧s<=7then(if 4000<d.length then 1 else if q=0then 0 else 4)else 2:=by
 unfold YS;rw[if_pos (by show(1:Int)<=1∧(1:Int)<=4;omega)];by_cases h1:0<=s∧s<=7;·rw[if_pos h1,if_neg (by rintro(⟨_,h⟩|⟨h,_⟩);exact h h1;cases h)];by_cases h2:4000<d.length;(·rw[if_pos h2,if_pos h2]);·rw[if_neg h2,if_neg h2];by_cases h3:q=0;(·rw[if_pos h3,if_neg];rintro(⟨h,_⟩|⟨_,h⟩|⟨h,_⟩);(·exact h rfl);(·exact h h3);·exact h rfl);·rw[if_neg h3,if_pos (.inr (.inl ⟨by show(1:Int)≠3;decide,h3⟩))]
 ·rw[if_neg h1,if_pos (.inl ⟨rfl,h1⟩)]
theorem Ag(s q:Int)(d:List UInt8):YS ⟨3,s,q,d⟩=if 0<=q∧q<=200000then(if 4000<d.length then 1 else if s=0then(if 0<d.length then 4 else 0)else 4)else 2:=by
 unfold YS;rw[if_pos (by show(1:Int)<=3∧(3:Int)<=4;omega)];by_cases h1:0<=q∧q<=200000;·rw[if_pos h1,if_neg (by rintro(⟨h,_⟩|⟨_,h⟩);cases h;exact h h1)];by_cases h2:4000<d.length;(·rw[if_pos h2,if_pos h2]);·rw[if_neg h2,if_neg h2];by_cases h3:s=0;(·rw[if_pos h3];by_cases h4:0<d.length;(·rw[if_pos h4,if_pos (.inr (.inr ⟨by show(3:Int)≠1;decide,h4⟩))]);·rw[if_neg h4,if_neg];rintro(⟨_,h⟩|⟨h,_⟩|⟨_,h⟩);(·exact h h3);(·exact h rfl);·exact h4 h);·rw[if_neg h3,if_pos (.inl ⟨by show(3:Int)≠1;decide,h3⟩)]
 ·rw[if_neg h1,if_pos (.inr ⟨rfl,h1⟩)]
theorem Ch(k s q:Int)(d:List UInt8)(hk:k=2∨k=4):YS ⟨k,s,q,d⟩=if 4000<d.length then 1 else if s=0then(if q=0then(if 0<d.length then 4 else 0)else 4)else 4:=by
 unfold YS;have k1:¬k=1:=by omega
 have k3:¬k=3:=by omega
 rw[if_pos (by show 1<=k∧k<=4;omega),if_neg (by rintro(⟨h,_⟩|⟨h,_⟩);exact k1 h;exact k3 h)];by_cases h2:4000<d.length;·rw[if_pos h2,if_pos h2]
 ·rw[if_neg h2,if_neg h2];by_cases h3:s=0;(·rw[if_pos h3];by_cases h5:q=0;(·rw[if_pos h5];by_cases h4:0<d.length;(·rw[if_pos h4,if_pos (.inr (.inr ⟨k1,h4⟩))]);·rw[if_neg h4,if_neg];rintro(⟨_,h⟩|⟨_,h⟩|⟨_,h⟩);(·exact h h3);(·exact h h5);·exact h4 h);·rw[if_neg h5,if_pos (.inr (.inl ⟨k3,h5⟩))]);·rw[if_neg h3,if_pos (.inl ⟨k1,h3⟩)]
def Hw:Prop:=∀(w:F)(v:H)(a:Ac),Ln w v a->Bz a->sY O 48 #[v] w fun e w'=>e=tD (Y tC (YS a))∧L w w' G
def Wb:Prop:=∀(w:F)(v:H)(t:VQ),KJ w v t->xC t->sY O 91 #[v] w fun e w'=>∃x,e=tD (sL #[x,Y tC (TL t)])∧Yu w' x (Kf t)∧L w w' G
def Bf:Prop:=∀(w:F)(v:H)(t:VQ)(keep:Int),KJ w v t->xC t->-9223372036854775808<=keep->keep<=9223372036854775807->sY O 109 #[v,Y tC keep] w fun e w'=>∃x,e=tD (sL #[x,Y tC (Uf t keep)])∧Yu w' x (Xp t keep)∧L w w' G
theorem RW:(106:Nat)≠5:=by
 decide
theorem Sm:(106:Nat)≠75:=by
 decide
theorem RJ:(106:Nat)≠210:=by
 decide
def XP(r:Rq):Nat->List UInt8|0=>[sH r.kind.toNat]|1=>[sH r.kind.toNat]++Xl (QS r.kind 0) r.name|2=>[sH r.kind.toNat]++Xl (QS r.kind 0) r.name++Xl (QS r.kind 1) r.key|3=>[sH r.kind.toNat]++Xl (QS r.kind 0) r.name++Xl (QS r.kind 1) r.key++Xl (QS r.kind 2) r.last|_=>[sH r.kind.toNat]++Xl (QS r.kind 0) r.name++Xl (QS r.kind 1) r.key++Xl (QS r.kind 2) r.last++Xl (QS r.kind 3) r.value
theorem LQ(r:Rq):XP r 4=JZ r:=by
 show[sH r.kind.toNat]++Xl (QY r.kind) r.name++Xl (QY r.kind) r.key++Xl (tR (r.kind=3)) r.last++Xl (tR (r.kind=4)) r.value=_;rw[JZ,qS];simp[pW]
theorem Lc{r:Rq}(h:Ye r)(m:Nat):(XP r m).length<=200:=by
 have k1:r.name.length<=8:=by by_cases e:QY r.kind=M;(·exact(h.name e).2);·rw[h.noName (by simpa using e)];simp
 have k2:r.key.length<=16:=by by_cases e:QY r.kind=M;(·exact(h.key e).2);·rw[h.noKey (by simpa using e)];simp
 have k3:r.last.length<=16:=by by_cases e:r.kind=3;(·exact(h.last e).2);·rw[h.noLast e];simp
 have k4:=h.value;have l1:=KR (QS r.kind 0) r.name;have l2:=KR (QS r.kind 1) r.key;have l3:=KR (QS r.kind 2) r.last;have l4:=KR (QS r.kind 3) r.value;match m with|0=>simp[XP]|1=>simp only[XP,tB,sD];omega|2=>simp only[XP,tB,sD];omega|3=>simp only[XP,tB,sD];omega|m+4=>simp only[XP,tB,sD];omega
end Go.Proofs.YtghhckgnmfgjeaaGreatDoor
