/-
  Texts of this proof, joined, with few blanks: AcM0, PairM0, PairB, WrMem, CmtMem, TapeA, TapeB, TapeK, HistF, HistC, TxnF, TxnG, SrvF, SrvI, SrvO, TopF, TenMem, CmtSet, RdMem, StepMem, SvK, SvG, CmtTy, CmtRow, CmtRowD, TxNote, TxM, TxnL, TxCheck, TCCheck, PairStepQ, PairSlice, FCCheck, FCApply, TxMs, RqRd, WrCkF, TxLook, FindM, SrvS, SrvL, SrvM, SrvN, TxClash, TpEnc, TpCheck, BSlice, CmtFit, TxScan, TCRange, FCRange, BitC, PartC, TxWrite, RqWt, HsKept, RqDe, TapeH, WrDtF, AcMem, RdrF, RdrMem, FrameB, GearM, TpSync, TpCrash, TapTy, LnCk, LineH, WrEnF.
-/
import Derived.Deep.AppendLies
import Derived.Test.YteohkbehnmjliaaGreatDoorQ1
import Derived.Maps.AppendAt
import Derived.Deep.RegionWith
import Derived.Handy
import Derived.ProofKit
import Derived.OpenShut
import Derived.ShutString
import Derived.ChangeOld
import Derived.Deep.DeepHandedRow
import Derived.SizedLaws
import Derived.Test.YteohkbehnmjliaaGreatDoorRows
set_option maxRecDepth 100000
set_option maxHeartbeats 8000000
open Array renaming getElem?_eq_some_iff->tI,getElem?_modify->tW,getElem?_toList->r7
open Bool renaming true->M,false->N,and_eq_true->rM,or_eq_false_iff->rO
open Classical renaming byContradiction->sR
open Decidable renaming decide->tS
open Go renaming World->F,Value->H,TypeId->tY,undef->sI,sliced->sP,Calls->sZ,Addr->rC,Operand->rD,Oper->rG,info_parts->rV,yielded->pA,maxLen->pG,heap_alloc_new->oG
open Go.Addr.mk renaming injEq->rK
open Go.Ending renaming returned->tE
open Go.Instr renaming slice->rT
open Go.IntKind renaming i64->tB,u8->r8
open Go.Obj renaming cells->S
open Go.Obj.cells renaming injEq->tX
open Go.Proofs.Tryz renaming prog->O
open Go.Region renaming wanted->sE
open Go.Result renaming andThen->rJ
open Go.Value renaming slice->J,int->Y,bool->tP,tuple->sG,agg->sQ,ownBlock->pH
open Go.Value.slice renaming injEq->tH
open Go.World renaming grownBy->L,setCell->tD,cell?->tV,cell?_of_block->sJ,ownsRow_nil->sK,grownBy_alloc->sL,news_of_block->sY,frozen?->rW,cell?_setCell_same'->pI
open Go.World.ownsRow renaming kept->tU,lt->sF
open Int renaming toNat_natCast->sW,emod_lt_of_pos->pP,emod_nonneg->oD
open List renaming length_append->tC,eq_nil_of_length_eq_zero->tJ,mem_cons->tK,append_nil->tL,not_mem_nil->tM,flatMap_cons->tN,mem_append->tZ,length_singleton->sA,getElem?_take->sC,take_length->sD,getElem?_eq_some_iff->sH,length_cons->sN,getElem_mem->sO,drop_eq_getElem_cons->sU,mem_cons_of_mem->sV,take_succ_eq_append_getElem->sX,any_eq_true->rA,flatMap_nil->rB,take_succ_cons->rF,mem_cons_self->rH,pairwise_cons->rI,length_set->rP,length_pos_iff->rS,length_take->rX,any_cons->pC,take_set->pD,append_assoc->pF,getElem?_append_left->pJ,take_append_drop->pK,getElem?_append->pL,drop_succ_cons->pM,set_cons_succ->pN,nodup_append->pO,cons_append->pQ,length_drop->pR,length_nil->pU,nil_append->pV,nodup_cons->pW,mem_filter->pX,foldl_cons->pY,take_take->pZ,drop_zero->oE
open Nat renaming lt_of_lt_of_le->tG,le_trans->tQ,zero_le->tR,le_refl->sB,zero_add->sM,succ_mul->rY,mul_le_mul_right->pB,sub_zero->pE,le_of_lt_succ->pS,min_eq_left->oC,sub_self->oF
open Option renaming none->G,some->I,map_some->rN
open Option.some renaming injEq->tA,inj->oH
open Prod.mk renaming injEq->rU
open UInt8 renaming ofNat->sS,toNat_inj->pT
namespace Go.Proofs.YteohkbehnmjliaaGreatDoor
open Go.RowKit
def Wn(w:F)(v:H)(a:Ac):Prop:=∃vd,v=sQ #[Y tB a.kind,Y tB a.sess,Y tB a.keep,vd]∧Qe w vd a.data
theorem Wn.grown{w w':F}{v:H}{a:Ac}(h:Wn w v a)(hg:L w w' G):Wn w' v a:=by
 obtain⟨vd,rfl,h1⟩:=h;exact⟨vd,rfl,h1.grown hg⟩
theorem Wn.agg{w:F}{v:H}{a:Ac}(h:Wn w v a):∃da dc,v=sQ #[Y tB a.kind,Y tB a.sess,Y tB a.keep,J da a.data.length dc]∧Qe w (J da a.data.length dc) a.data:=by
 obtain⟨vd,rfl,h1⟩:=h;obtain⟨da,dc,rfl⟩:=h1.shape;exact⟨da,dc,rfl,h1⟩
def Bi(w:F)(b o:Nat)(a:Ac):Prop:=∃vd,w.cell? ⟨b,o,G⟩=I (Y tB a.kind)∧w.cell? ⟨b,o+1,G⟩=I (Y tB a.sess)∧w.cell? ⟨b,o+2,G⟩=I (Y tB a.keep)∧w.cell? ⟨b,o+3,G⟩=I vd∧Qe w vd a.data
theorem Bi.grown{w w':F}{b o:Nat}{a:Ac}(h:Bi w b o a)(hg:L w w' G):Bi w' b o a:=by
 obtain⟨vd,c1,c2,c3,c4,h1⟩:=h;exact⟨vd,hg.cell c1 (by simp),hg.cell c2 (by simp),hg.cell c3 (by simp),hg.cell c4 (by simp),h1.grown hg⟩
def YA(w:F)(v:H)(l:List Ac):Prop:=∃a cap,v=J a l.length cap∧l.length<=cap∧((l=[]∧(a=G->cap=0))∨∃b o,a=I ⟨b,o,G⟩∧∀i,i<l.length->Bi w b (o+i*4) (l.getD i UY))
theorem R7(w:F):YA w (J G 0 0) []:=⟨G,0,rfl,sB _,.inl ⟨rfl,fun _=>rfl⟩⟩
theorem YA.shape{w:F}{v:H}{l:List Ac}(h:YA w v l):∃a cap,v=J a l.length cap:=by
 obtain⟨a,cap,rfl,_⟩:=h;exact⟨a,cap,rfl⟩
theorem YA.grown{w w':F}{v:H}{l:List Ac}(h:YA w v l)(hg:L w w' G):YA w' v l:=by
 obtain⟨a,cap,rfl,hc,h⟩:=h;refine⟨a,cap,rfl,hc,?_⟩;rcases h with h|⟨b,o,rfl,h⟩;·exact .inl h
 ·exact .inr ⟨b,o,rfl,fun i hi=>(h i hi).grown hg⟩
theorem YA.at{w:F}{a:Option rC}{n cap:Nat}{l:List Ac}(h:YA w (J a n cap) l)(i:Nat)(hi:i<l.length):∃b o,a=I ⟨b,o,G⟩∧Bi w b (o+i*4) (l.getD i UY):=by
 obtain⟨a',cap',e,hc,h⟩:=h;simp only[tH]at e;obtain⟨rfl,rfl,rfl⟩:=e;rcases h with⟨rfl,_⟩|⟨b,o,rfl,h⟩;·simp at hi
 ·exact⟨b,o,rfl,h i hi⟩
structure Si(a:Ac):Prop where kind:-9223372036854775808<=a.kind∧a.kind<=9223372036854775807sess:-9223372036854775808<=a.sess∧a.sess<=9223372036854775807keep:-9223372036854775808<=a.keep∧a.keep<=9223372036854775807data:a.data.length<=140737488355328
structure Ru (l : List Ac) : Prop where
  many : l.length * 48 <= 140737488355328
  each : ∀ i, i < l.length -> Si (l.getD i UY)
theorem LW{a:Ac}(h:Xt a):Si a:=by
 have h0:=h.kind;have h1:=h.data;have h2:0<=a.sess∧a.sess<=7:=by by_cases e:a.kind=1;(·exact h.sess e);·rw[h.noSess e];omega
 have h3:0<=a.keep∧a.keep<=200000:=by by_cases e:a.kind=3;(·exact h.keep e);·rw[h.noKeep e];omega
 exact⟨by omega,by omega,by omega,by omega⟩
abbrev AV:=Ac×H
def Sw:AV:=(UY,sI)
def Y9(us:List AV):List H:=us.flatMap fun x=>[Y tB x.1.kind,Y tB x.1.sess,Y tB x.1.keep,x.2]
theorem yT(us:List AV):(Y9 us).length=us.length*4:=by
 induction us with|nil=>rfl|cons x us ih=>rw[Y9,tN,tC,<-Y9,ih,sN];simp;omega
theorem vK(a b:List AV):Y9 (a++b)=Y9 a++Y9 b:=by
 simp[Y9]
theorem Mb:∀(us:List AV)(i:Nat),i<us.length->(Y9 us)[i*4]?=I (Y tB (us.getD i Sw).1.kind)∧(Y9 us)[i*4+1]?=I (Y tB (us.getD i Sw).1.sess)∧(Y9 us)[i*4+2]?=I (Y tB (us.getD i Sw).1.keep)∧(Y9 us)[i*4+3]?=I (us.getD i Sw).2|[],i,h=>by simp at h|x::us,0,_=>⟨rfl,rfl,rfl,rfl⟩|x::us,i+1,h=>by have:=Mb us i (by simpa using h);rw[show(i+1)*4=i*4+4by omega];exact this
theorem aU:(27:Nat)≠5:=by
 decide
def Kf(rb:Nat)(w:F)(v:H)(l:List Ac):Prop:=∃us:List AV,us.map (·.1)=l∧w.ownsRow rb 27 4 v l.length (Y9 us)∧∀x∈us,Qi 0 w x.2 x.1.data
theorem OH(rb:Nat)(w:F):Kf rb w (J G 0 0) []:=⟨[],rfl,sK _ _ _ _,fun x hx=>by
 simp at hx⟩
theorem Kf.row{rb:Nat}{w:F}{v:H}{l:List Ac}(h:Kf rb w v l):v.ownBlock=G∨∃g cur fz,v.ownBlock=I g∧rb<=g∧w.heap[g]?=I (S cur 27 fz):=by
 obtain⟨us,_,h,_⟩:=h;rcases h.2with⟨rfl,_⟩|⟨g,cap,cur,rfl,hb,hg,_⟩;·exact .inl rfl
 ·exact .inr ⟨g,cur,_,rfl,hb,hg⟩
theorem Kf.lt{rb:Nat}{w:F}{v:H}{l:List Ac}(h:Kf rb w v l):∀k,v.ownBlock=I k->rb<=k∧k<w.heap.size:=by
 obtain⟨us,_,h,_⟩:=h;exact sF h
theorem Kf.grownNone{rb:Nat}{w w':F}{v:H}{l:List Ac}(h:Kf rb w v l)(hg:L w w' G):Kf rb w' v l:=by
 obtain⟨us,h1,h2,h3⟩:=h;refine⟨us,h1,tU h2 hg ?_,fun x hx=>(h3 x hx).keptT hg (.inl rfl)⟩;cases hv:v.ownBlock with|none=>exact .inl rfl|some k=>exact .inr (by simp)
theorem Kf.alloc{rb:Nat}{w:F}{v:H}{l:List Ac}(h:Kf rb w v l)(o:Obj):Kf rb (w.alloc o) v l:=h.grownNone (sL _ _ _)
theorem Kf.shape{rb:Nat}{w:F}{v:H}{l:List Ac}(h:Kf rb w v l):∃a cap,v=J a l.length cap:=by
 obtain⟨us,_,h,_⟩:=h;rcases h.2with⟨rfl,h0⟩|⟨g,cap,cur,rfl,_⟩;·exact⟨G,0,by rw[h0]⟩
 ·exact⟨_,cap,rfl⟩
theorem Wv{us:List AV}{l:List Ac}(h:us.map (·.1)=l)(i:Nat)(hi:i<l.length):(us.getD i Sw).1=l.getD i UY∧us.getD i Sw∈us:=by
 subst h;have hi':i<us.length:=by simpa using hi
 refine⟨by simp[hi'],?_⟩;rw[show us.getD i Sw=us[i]by simp[hi']];exact sO hi'
theorem Kf.list{rb:Nat}{w:F}{v:H}{l:List Ac}(h:Kf rb w v l):YA w v l:=by
 obtain⟨us,hl,hr,h3⟩:=h;rcases hr.2with⟨rfl,h0⟩|⟨g,cap,cur,rfl,hb,hg,hn,hm,hs,ht⟩;·have:l=[]:=tJ h0;rw[this];exact R7 w
 ·(have hcell:∀j u,(Y9 us)[j]?=I u->w.cell? ⟨g,j,G⟩=I u:=by intro j u hj;(have hlt:j<l.length*4:=by have:=(sH.1 hj).1;rw[hr.1]at this;exact this);(have e2:(cur.toList.take (l.length*4))[j]?=(Y9 us)[j]?:=by rw[ht]);rw[sC,if_pos hlt,hj]at e2;simp[tV,hg];simpa using e2);refine⟨_,cap,rfl,hn,.inr ⟨g,0,rfl,fun i hi=>?_⟩⟩;obtain⟨e1,e2⟩:=Wv hl i hi;(have hlen:us.length=l.length:=by rw[<-hl];simp);obtain⟨c1,c2,c3,c4⟩:=Mb us i (by omega);have hp:=h3 _ e2;rw[e1]at c1 c2 c3 hp;rw[sM];exact⟨_,hcell _ _ c1,hcell _ _ c2,hcell _ _ c3,hcell _ _ c4,hp.1⟩
theorem Tm{rb:Nat}{w W w1:F}{v:H}{l:List Ac}(h:L w W G)(ho:Kf rb W v l)(hb:w.heap.size<=rb)(hg:L W w1 v.ownBlock):L w w1 G:=⟨hg.os.trans h.os,hg.tape.trans h.tape,hg.output.trans h.output,tQ h.size hg.size,fun i hi hn=>(hg.block i (tG hi h.size) (fun e=>by
 have:=(ho.lt i e.symm).1;omega)).trans (h.block i hi hn)⟩
theorem Db:(O.info? 27).map (fun i=>(i.zero,i.size,i.bytes))=I (I (sQ #[Y tB 0,Y tB 0,Y tB 0,J G 0 0]),4,48):=by
 kernel_rfl
def PM(w:F)(v:H)(p:Pr):Prop:=∃vk vv,v=sQ #[vk,vv]∧Qe w vk p.1∧Qe w vv p.2
theorem PM.grown{w w':F}{v:H}{p:Pr}(h:PM w v p)(hg:L w w' G):PM w' v p:=by
 obtain⟨vk,vv,rfl,h1,h2⟩:=h;exact⟨vk,vv,rfl,h1.grown hg,h2.grown hg⟩
def PY(w:F)(b o:Nat)(p:Pr):Prop:=∃vk vv,w.cell? ⟨b,o,G⟩=I vk∧w.cell? ⟨b,o+1,G⟩=I vv∧Qe w vk p.1∧Qe w vv p.2
theorem PY.grown{w w':F}{b o:Nat}{p:Pr}(h:PY w b o p)(hg:L w w' G):PY w' b o p:=by
 obtain⟨vk,vv,c1,c2,h1,h2⟩:=h;exact⟨vk,vv,hg.cell c1 (by simp),hg.cell c2 (by simp),h1.grown hg,h2.grown hg⟩
def Qr(w:F)(v:H)(l:PL):Prop:=∃a cap,v=J a l.length cap∧l.length<=cap∧((l=[]∧(a=G->cap=0))∨∃b o,a=I ⟨b,o,G⟩∧∀i,i<l.length->PY w b (o+i*2) (l.getD i ([],[])))
theorem Yr(w:F):Qr w (J G 0 0) []:=⟨G,0,rfl,sB _,.inl ⟨rfl,fun _=>rfl⟩⟩
theorem Qr.grown{w w':F}{v:H}{l:PL}(h:Qr w v l)(hg:L w w' G):Qr w' v l:=by
 obtain⟨a,cap,rfl,hc,h⟩:=h;refine⟨a,cap,rfl,hc,?_⟩;rcases h with h|⟨b,o,rfl,h⟩;·exact .inl h
 ·exact .inr ⟨b,o,rfl,fun i hi=>(h i hi).grown hg⟩
theorem Qr.shape{w:F}{v:H}{l:PL}(h:Qr w v l):∃a cap,v=J a l.length cap:=by
 obtain⟨a,cap,rfl,_⟩:=h;exact⟨a,cap,rfl⟩
theorem Qr.at{w:F}{a:Option rC}{n cap:Nat}{l:PL}(h:Qr w (J a n cap) l)(i:Nat)(hi:i<l.length):∃b o,a=I ⟨b,o,G⟩∧PY w b (o+i*2) (l.getD i ([],[])):=by
 obtain⟨a',cap',e,hc,h⟩:=h;simp only[tH]at e;obtain⟨rfl,rfl,rfl⟩:=e;rcases h with⟨rfl,_⟩|⟨b,o,rfl,h⟩;·simp at hi
 ·exact⟨b,o,rfl,h i hi⟩
theorem Qi.kept{base:Nat}{w w':F}{v:H}{bs:List UInt8}(h:Qi base w v bs){row:Option Nat}(hg:L w w' row)(hrow:row=G∨∃g cur fz,row=I g∧base<=g∧w.heap[g]?=I (S cur 42 fz)):Qi base w' v bs:=by
 obtain⟨hs,ho⟩:=h;rcases ho with rfl|⟨b,hb,hlt,hc⟩;·obtain⟨a,cap,rfl,hc,h⟩:=hs;refine⟨⟨a,cap,rfl,hc,?_⟩,.inl rfl⟩;rcases h with h|⟨b,o,rfl,h⟩;(·exact .inl h);·exact .inr ⟨b,o,rfl,fun i hi=>by simp at hi⟩
 ·(have hne:I b≠row:=by intro e;rcases hrow with rfl|⟨g,cur,fz,rfl,hbg,hgc⟩;(·cases e);·cases e;rcases hc with hc|⟨cur2,fz2,hc⟩;(·omega);·rw[hc]at hgc;simp at hgc);have hblk:=hg.block b hlt hne;refine⟨?_,.inr ⟨b,hb,tG hlt hg.size,?_⟩⟩;(·obtain⟨a,cap,rfl,hcp,h⟩:=hs;refine⟨a,cap,rfl,hcp,?_⟩;rcases h with h|⟨b',o,rfl,h⟩;(·exact .inl h);·refine .inr ⟨b',o,rfl,fun i hi=>?_⟩;simp[pH]at hb;subst hb;exact hg.cell (h i hi) (by simpa using hne));·rcases hc with hc|⟨cur,fz,hc⟩;(·exact .inl hc);·exact .inr ⟨cur,fz,by rw[hblk];exact hc⟩
def flat(vs:List (H×H)):List H:=vs.flatMap fun x=>[x.1,x.2]
theorem KP(vs:List (H×H)):(flat vs).length=vs.length*2:=by
 induction vs with|nil=>rfl|cons x r ih=>simp only[flat,tN,tC,sN,pU]at ih⊢;omega
theorem J7(a b:List (H×H)):flat (a++b)=flat a++flat b:=by
 simp[flat]
theorem xU:∀(vs:List (H×H))(i:Nat),i<vs.length->(flat vs)[i*2]?=I (vs.getD i (sI,sI)).1∧(flat vs)[i*2+1]?=I (vs.getD i (sI,sI)).2|[],i,h=>by simp at h|x::r,0,_=>by simp[flat]|x::r,i+1,h=>by have:=xU r i (by simpa using h);rw[show(i+1)*2=i*2+2by omega,show i*2+2+1=(i*2+1)+2by omega];simpa[flat]using this
def GI(base:Nat)(w:F)(v:H)(l:PL):Prop:=∃vs:List (H×H),vs.length=l.length∧w.ownsRow base 42 2 v l.length (flat vs)∧∀i,i<l.length->Qi base w (vs.getD i (sI,sI)).1 (l.getD i ([],[])).1∧Qi base w (vs.getD i (sI,sI)).2 (l.getD i ([],[])).2
theorem GI.row{base:Nat}{w:F}{v:H}{l:PL}(h:GI base w v l):v.ownBlock=G∨∃g cur fz,v.ownBlock=I g∧base<=g∧w.heap[g]?=I (S cur 42 fz):=by
 obtain⟨vs,_,h,_⟩:=h;rcases h.2with⟨rfl,_⟩|⟨g,cap,cur,rfl,hb,hg,_⟩;·exact .inl rfl
 ·exact .inr ⟨g,cur,_,rfl,hb,hg⟩
theorem GI.lt{base:Nat}{w:F}{v:H}{l:PL}(h:GI base w v l):∀k,v.ownBlock=I k->base<=k∧k<w.heap.size:=by
 obtain⟨vs,_,h,_⟩:=h;exact sF h
theorem GI.grownNone{base:Nat}{w w':F}{v:H}{l:PL}(h:GI base w v l)(hg:L w w' G):GI base w' v l:=by
 obtain⟨vs,h1,h2,h3⟩:=h;refine⟨vs,h1,tU h2 hg ?_,fun i hi=>⟨((h3 i hi).1).kept hg (.inl rfl),((h3 i hi).2).kept hg (.inl rfl)⟩⟩;cases hv:v.ownBlock with|none=>exact .inl rfl|some k=>exact .inr (by simp)
theorem GI.alloc{base:Nat}{w:F}{v:H}{l:PL}(h:GI base w v l)(o:Obj):GI base (w.alloc o) v l:=h.grownNone (sL _ _ _)
theorem GI.shape{base:Nat}{w:F}{v:H}{l:PL}(h:GI base w v l):∃a cap,v=J a l.length cap:=by
 obtain⟨vs,_,h,_⟩:=h;rcases h.2with⟨rfl,h0⟩|⟨g,cap,cur,rfl,_⟩;·exact⟨G,0,by rw[h0]⟩
 ·exact⟨_,cap,rfl⟩
theorem gI{base:Nat}{w W w1:F}{v:H}{l:PL}(h:L w W G)(ho:GI base W v l)(hb:w.heap.size<=base)(hg:L W w1 v.ownBlock):L w w1 G:=⟨hg.os.trans h.os,hg.tape.trans h.tape,hg.output.trans h.output,tQ h.size hg.size,fun i hi hn=>(hg.block i (tG hi h.size) (fun e=>by
 have:=(ho.lt i e.symm).1;omega)).trans (h.block i hi hn)⟩
theorem CQ:(O.info? 42).map (fun i=>(i.zero,i.size,i.bytes))=I (I (sQ #[J G 0 0,J G 0 0]),2,48):=by
 kernel_rfl
theorem Ju{α:Type}(a b:List α)(i:Nat)(d:α):(a++b).getD i d=if i<a.length then a.getD i d else b.getD (i-a.length) d:=by
 by_cases h:i<a.length;·rw[if_pos h];simp[pL,h]
 ·rw[if_neg h];simp[pL,h]
theorem jH(vs:List (H×H))(k:Nat):flat (vs.take k)=(flat vs).take (k*2):=by
 induction vs generalizing k with|nil=>simp[flat]|cons x r ih=>cases k with|zero=>simp[flat]|succ k=>rw[rF,show(k+1)*2=k*2+2by omega];have:=ih k;simp only[flat,tN,pQ,pV,rF]at this⊢;rw[this]
theorem Nc(vs:List (H×H))(k:Nat):flat (vs.drop k)=(flat vs).drop (k*2):=by
 induction vs generalizing k with|nil=>simp[flat]|cons x r ih=>cases k with|zero=>simp[flat]|succ k=>rw[pM,show(k+1)*2=k*2+2by omega];have:=ih k;simp only[flat,tN,pQ,pV,pM]at this⊢;rw[this]
theorem GI.cells{base:Nat}{w:F}{g n cap:Nat}{vs:List (H×H)}{l:PL}(hr:w.ownsRow base 42 2 (J (I ⟨g,0,G⟩) n cap) l.length (flat vs)):∀j u,(flat vs)[j]?=I u->w.cell? ⟨g,j,G⟩=I u:=by
 intro j u hj;rcases hr.2with⟨e,_⟩|⟨g',cap',cur,e,hb,hg,hn,hm,hs,ht⟩;·cases e
 ·simp only[tH,tA,rK]at e;obtain⟨⟨rfl,_⟩,_,_⟩:=e;(have hlt:j<l.length*2:=by have:=(sH.1 hj).1;rw[hr.1]at this;exact this);(have e2:(cur.toList.take (l.length*2))[j]?=(flat vs)[j]?:=by rw[ht]);rw[sC,if_pos hlt,hj]at e2;simp[tV,hg];simpa using e2
theorem Q9.setOther{base:Nat}{w:F}{v:H}{bs:List UInt8}(h:Q9 base w v bs)(c i:Nat)(x:H)(hc:c<base):Q9 base (tD w ⟨c,i,G⟩ x) v bs:=by
 refine h.grown (row:=I c) (Qh (Qb _ _) i x) ?_;cases hv:v.ownBlock with|none=>exact .inl rfl|some k=>have:=(h.lt k hv).1;exact .inr (by simp;omega)
theorem Vd{W w:F}{b:Nat}{x y:H}{t:tY}(hg:L W w G)(h:W.heap[b]?=I (S #[x,y] t))(u v:H):(tD w ⟨b,0,G⟩ u).cell? ⟨b,0,G⟩=I u∧((tD w ⟨b,0,G⟩ u).setCell ⟨b,1,G⟩ v).cell? ⟨b,1,G⟩=I v:=by
 have hb:w.heap[b]?=I (S #[x,y] t):=by rw[hg.block b (tI.1 h).1 (by simp)];exact h
 have c0:w.cell? ⟨b,0,G⟩=I x:=by simp[tV,hb]
 have c1:w.cell? ⟨b,1,G⟩=I y:=by simp[tV,hb]
 refine⟨pI _ _ _ (by rw[c0];rfl),pI _ _ _ ?_⟩;rw[World.cell?_setCell_other _ _ _ _ (by simp),c1];rfl
theorem Gy{base:Nat}{W:F}{pb:Nat}{x y:H}(h:W.heap[pb]?=I (S #[x,y] 42))(hb:base<=pb)(u v:H):((tD W ⟨pb,0,G⟩ u).setCell ⟨pb,1,G⟩ v).heap[pb]?=I (S #[u,v] 42)∧(∀z bs,Qi base W z bs->Qi base ((tD W ⟨pb,0,G⟩ u).setCell ⟨pb,1,G⟩ v) z bs)∧∀w0:F,w0.heap.size<=pb->L w0 W G->L w0 ((tD W ⟨pb,0,G⟩ u).setCell ⟨pb,1,G⟩ v) G:=by
 refine⟨?_,fun z bs hz=>?_,fun w0 h0 hg=>Qd (Qd hg _ h0 _ _) _ h0 _ _⟩;·simp only[tD,tW,if_true,h,rN];first|rfl|simp
 ·exact hz.kept (Qh (Qh (Qb _ _) _ _) _ _) (.inr ⟨pb,_,_,rfl,hb,h⟩)
def KG(rb pb:Nat)(w:F)(v:H)(l:PL):Prop:=∃vs:List (H×H),vs.length=l.length∧w.ownsRow rb 42 2 v l.length (flat vs)∧∀i,i<l.length->Qi pb w (vs.getD i (sI,sI)).1 (l.getD i ([],[])).1∧Qi pb w (vs.getD i (sI,sI)).2 (l.getD i ([],[])).2
theorem BL(rb pb:Nat)(w:F):KG rb pb w (J G 0 0) []:=⟨[],rfl,sK _ _ _ _,fun i hi=>by
 simp at hi⟩
theorem KG.p{rb pb:Nat}{w:F}{v:H}{l:PL}(h:KG rb pb w v l)(hb:pb<=rb):GI pb w v l:=by
 obtain⟨vs,h1,h2,h3⟩:=h;refine⟨vs,h1,⟨h2.1,?_⟩,h3⟩;rcases h2.2with h|⟨g,cap,cur,h1,h2,h3⟩;·exact .inl h
 ·exact .inr ⟨g,cap,cur,h1,tQ hb h2,h3⟩
theorem KG.row{rb base:Nat}{w:F}{v:H}{l:PL}(h:KG rb base w v l)(hb:base<=rb):v.ownBlock=G∨∃g cur fz,v.ownBlock=I g∧base<=g∧w.heap[g]?=I (S cur 42 fz):=(h.p hb).row
theorem KG.lt{rb pb:Nat}{w:F}{v:H}{l:PL}(h:KG rb pb w v l):∀k,v.ownBlock=I k->rb<=k∧k<w.heap.size:=by
 obtain⟨vs,_,h,_⟩:=h;exact sF h
theorem KG.grownNone{rb pb:Nat}{w w':F}{v:H}{l:PL}(h:KG rb pb w v l)(hg:L w w' G):KG rb pb w' v l:=by
 obtain⟨vs,h1,h2,h3⟩:=h;refine⟨vs,h1,tU h2 hg ?_,fun i hi=>⟨((h3 i hi).1).kept hg (.inl rfl),((h3 i hi).2).kept hg (.inl rfl)⟩⟩;cases hv:v.ownBlock with|none=>exact .inl rfl|some k=>exact .inr (by simp)
theorem KG.alloc{rb pb:Nat}{w:F}{v:H}{l:PL}(h:KG rb pb w v l)(o:Obj):KG rb pb (w.alloc o) v l:=h.grownNone (sL _ _ _)
theorem KG.shape{rb pb:Nat}{w:F}{v:H}{l:PL}(h:KG rb pb w v l):∃a cap,v=J a l.length cap:=by
 obtain⟨vs,_,h,_⟩:=h;rcases h.2with⟨rfl,h0⟩|⟨g,cap,cur,rfl,_⟩;·exact⟨G,0,by rw[h0]⟩
 ·exact⟨_,cap,rfl⟩
theorem Rs{rb pb:Nat}{w W w1:F}{v:H}{l:PL}(h:L w W G)(ho:KG rb pb W v l)(hb:w.heap.size<=rb)(hg:L W w1 v.ownBlock):L w w1 G:=⟨hg.os.trans h.os,hg.tape.trans h.tape,hg.output.trans h.output,tQ h.size hg.size,fun i hi hn=>(hg.block i (tG hi h.size) (fun e=>by
 have:=(ho.lt i e.symm).1;omega)).trans (h.block i hi hn)⟩
def iK(base:Nat)(w:F)(b o:Nat)(p:Pr):Prop:=∃vk vv,w.cell? ⟨b,o,G⟩=I vk∧w.cell? ⟨b,o+1,G⟩=I vv∧Qi base w vk p.1∧Qi base w vv p.2
def QN(base:Nat)(w:F)(v:H)(l:PL):Prop:=∃a cap,v=J a l.length cap∧l.length<=cap∧((l=[]∧(a=G->cap=0))∨∃b o,a=I ⟨b,o,G⟩∧(b<base∨∃cur fz,w.heap[b]?=I (S cur 42 fz))∧∀i,i<l.length->iK base w b (o+i*2) (l.getD i ([],[])))
theorem QN.list{base:Nat}{w:F}{v:H}{l:PL}(h:QN base w v l):Qr w v l:=by
 obtain⟨a,cap,rfl,hc,h⟩:=h;refine⟨a,cap,rfl,hc,?_⟩;rcases h with h|⟨b,o,rfl,_,h⟩;·exact .inl h
 ·refine .inr ⟨b,o,rfl,fun i hi=>?_⟩;obtain⟨vk,vv,c1,c2,h1,h2⟩:=h i hi;exact⟨vk,vv,c1,c2,h1.1,h2.1⟩
theorem Qr.pairsB{w w':F}{v:H}{l:PL}(h:Qr w v l)(hg:L w w' G)(base:Nat)(hb:w.heap.size<=base):QN base w' v l:=by
 obtain⟨a,cap,rfl,hc,h⟩:=h;refine⟨a,cap,rfl,hc,?_⟩;rcases h with h|⟨b,o,rfl,h⟩;·exact .inl h
 ·by_cases h0:l=[];(·exact .inl ⟨h0,fun e=>by cases e⟩);·have hl:0<l.length:=rS.2 h0;refine .inr ⟨b,o,rfl,.inl ?_,fun i hi=>?_⟩;(·obtain⟨vk,vv,c1,_⟩:=h 0 hl;exact tG (VK c1) hb);·obtain⟨vk,vv,c1,c2,h1,h2⟩:=h i hi;exact⟨vk,vv,hg.cell c1 (by simp),hg.cell c2 (by simp),h1.part hg base hb,h2.part hg base hb⟩
theorem GI.pairsB{base:Nat}{w:F}{v:H}{l:PL}(h:GI base w v l):QN base w v l:=by
 obtain⟨vs,hl,hr,h3⟩:=h;have hr':=hr;rcases hr.2with⟨rfl,h0⟩|⟨g,cap,cur,rfl,hb,hg,hn,hm,hs,ht⟩;·have:l=[]:=tJ h0;subst this;exact⟨G,0,rfl,sB _,.inl ⟨rfl,fun _=>rfl⟩⟩
 ·refine⟨_,cap,rfl,hn,.inr ⟨g,0,rfl,.inr ⟨cur,_,hg⟩,fun i hi=>?_⟩⟩;have hf:=xU vs i (by omega);refine⟨(vs.getD i (sI,sI)).1,(vs.getD i (sI,sI)).2,?_,?_,(h3 i hi).1,(h3 i hi).2⟩;(·have:=GI.cells hr' _ _ hf.1;rw[sM];exact this);·have:=GI.cells hr' _ _ hf.2;rw[sM];exact this
theorem QN.kept{base:Nat}{w w':F}{v:H}{l:PL}(h:QN base w v l){row:Option Nat}(hg:L w w' row)(hrow:row=G∨∃g cur t fz,row=I g∧base<=g∧w.heap[g]?=I (S cur t fz)∧t≠5∧t≠42):QN base w' v l:=by
 obtain⟨a,cap,rfl,hc,h⟩:=h;refine⟨a,cap,rfl,hc,?_⟩;rcases h with h|⟨b,o,rfl,hb,h⟩;·exact .inl h
 ·by_cases h0:l=[];(·exact .inl ⟨h0,fun e=>by cases e⟩);·have hl:0<l.length:=rS.2 h0;(have hlt:b<w.heap.size:=by obtain⟨vk,vv,c1,_⟩:=h 0 hl;exact VK c1);(have hne:I b≠row:=by intro e;rcases hrow with rfl|⟨g,cur,t,fz,rfl,hbg,hgc,ht,ht2⟩;(·cases e);·cases e;rcases hb with hb|⟨cur2,fz2,hb⟩;(·omega);·rw[hb]at hgc;simp only[tA,tX]at hgc;exact ht2 hgc.2.1.symm);(have hrow':row=G∨∃g cur t fz,row=I g∧base<=g∧w.heap[g]?=I (S cur t fz)∧t≠5:=by rcases hrow with h|⟨g,cur,t,fz,h1,h2,h3,h4,_⟩;(·exact .inl h);·exact .inr ⟨g,cur,t,fz,h1,h2,h3,h4⟩);refine .inr ⟨b,o,rfl,?_,fun i hi=>?_⟩;(·rcases hb with hb|⟨cur,fz,hb⟩;(·exact .inl hb);·exact .inr ⟨cur,fz,by rw[hg.block b hlt hne];exact hb⟩);·obtain⟨vk,vv,c1,c2,h1,h2⟩:=h i hi;exact⟨vk,vv,hg.cell c1 (by simpa using hne),hg.cell c2 (by simpa using hne),h1.keptT hg hrow',h2.keptT hg hrow'⟩
theorem QN.grown{base:Nat}{w w':F}{v:H}{l:PL}(h:QN base w v l)(hg:L w w' G):QN base w' v l:=h.kept hg (.inl rfl)
theorem yG{base:Nat}{w:F}{v:H}{l:PL}(h:QN base w v l):v.oneCell'=M:=by
 obtain⟨a,cap,rfl,_⟩:=h;rfl
theorem YJ(base:Nat)(w:F):QN base w (J G 0 0) []:=⟨G,0,rfl,sB _,.inl ⟨rfl,fun _=>rfl⟩⟩
theorem QN.shape{base:Nat}{w:F}{v:H}{l:PL}(h:QN base w v l):∃a cap,v=J a l.length cap:=by
 obtain⟨a,cap,rfl,_⟩:=h;exact⟨a,cap,rfl⟩
theorem QN.mono{base base':Nat}{w:F}{v:H}{l:PL}(h:QN base w v l)(hb:base<=base'):QN base' w v l:=by
 obtain⟨a,cap,rfl,hc,h⟩:=h;refine⟨a,cap,rfl,hc,?_⟩;rcases h with h|⟨b,o,rfl,h1,h2⟩;·exact .inl h
 ·refine .inr ⟨b,o,rfl,?_,fun i hi=>?_⟩;(·rcases h1 with h1|h1;(·exact .inl (by omega));·exact .inr h1);·obtain⟨vk,vv,c1,c2,p1,p2⟩:=h2 i hi;exact⟨vk,vv,c1,c2,p1.mono hb,p2.mono hb⟩
theorem KG.pairsB{rb:Nat}{w:F}{v:H}{l:PL}(h:KG rb 0 w v l):QN 0 w v l:=(h.p (tR _)).pairsB
theorem QN.up{w:F}{v:H}{l:PL}(h:QN 0 w v l)(base:Nat):QN base w v l:=h.mono (tR _)
abbrev WV:=Ze×H×H×H
def Ah:WV:=(Qs,sI,sI,sI)
def Jg(us:List WV):List H:=us.flatMap fun x=>[x.2.1,x.2.2.1,tP x.1.gone,x.2.2.2]
theorem Wp(us:List WV):(Jg us).length=us.length*4:=by
 induction us with|nil=>rfl|cons x r ih=>simp only[Jg,tN,tC,sN,pU]at ih⊢;omega
theorem uR(a b:List WV):Jg (a++b)=Jg a++Jg b:=by
 simp[Jg]
theorem Mh:∀(us:List WV)(i:Nat),i<us.length->(Jg us)[i*4]?=I (us.getD i Ah).2.1∧(Jg us)[i*4+1]?=I (us.getD i Ah).2.2.1∧(Jg us)[i*4+2]?=I (tP (us.getD i Ah).1.gone)∧(Jg us)[i*4+3]?=I (us.getD i Ah).2.2.2|[],i,h=>by simp at h|x::r,0,_=>by simp[Jg]|x::r,i+1,h=>by have:=Mh r i (by simpa using h);rw[show(i+1)*4=i*4+4by omega,show i*4+4+1=(i*4+1)+4by omega,show i*4+4+2=(i*4+2)+4by omega,show i*4+4+3=(i*4+3)+4by omega];simpa[Jg]using this
theorem uE:(97:Nat)≠5:=by
 decide
theorem Wo{us:List WV}{l:List Ze}(h:us.map (·.1)=l)(i:Nat)(hi:i<l.length):(us.getD i Ah).1=l.getD i Qs∧us.getD i Ah∈us:=by
 subst h;have hi':i<us.length:=by simpa using hi
 refine⟨by simp[hi'],?_⟩;rw[show us.getD i Ah=us[i]by simp[hi']];exact sO hi'
theorem cR:(O.info? 97).map (fun i=>(i.zero,i.size,i.bytes))=I (I (sQ #[J G 0 0,J G 0 0,tP N,J G 0 0]),4,80):=by
 kernel_rfl
theorem Ek(w:F)(vn vk vv:H)(p:Ze)(h1:Qe w vn p.name)(h2:Qe w vk p.key)(h3:Qe w vv p.value)(t:tY):QQ (w.alloc (S #[vn,vk,tP p.gone,vv] t)) (J (I ⟨w.heap.size,0,G⟩) 1 1) [p]:=by
 refine⟨_,1,rfl,by simp,.inr ⟨w.heap.size,0,rfl,fun i hi=>?_⟩⟩;match i,hi with|0,_=>exact⟨vn,vk,vv,by simp,by simp,by simp,by simp,h1.alloc _,h2.alloc _,h3.alloc _⟩
def OR(base:Nat)(w:F)(b o:Nat)(p:Ze):Prop:=∃vn vk vv,w.cell? ⟨b,o,G⟩=I vn∧w.cell? ⟨b,o+1,G⟩=I vk∧w.cell? ⟨b,o+2,G⟩=I (tP p.gone)∧w.cell? ⟨b,o+3,G⟩=I vv∧Qi base w vn p.name∧Qi base w vk p.key∧Qi base w vv p.value
def Xp(base:Nat)(w:F)(v:H)(l:List Ze):Prop:=∃a cap,v=J a l.length cap∧l.length<=cap∧((l=[]∧(a=G->cap=0))∨∃b o,a=I ⟨b,o,G⟩∧(b<base∨∃cur fz,w.heap[b]?=I (S cur 97 fz))∧∀i,i<l.length->OR base w b (o+i*4) (l.getD i Qs))
theorem Ck(base:Nat)(w:F):Xp base w (J G 0 0) []:=⟨G,0,rfl,sB _,.inl ⟨rfl,fun _=>rfl⟩⟩
theorem Xp.shape{base:Nat}{w:F}{v:H}{l:List Ze}(h:Xp base w v l):∃a cap,v=J a l.length cap:=by
 obtain⟨a,cap,rfl,_⟩:=h;exact⟨a,cap,rfl⟩
theorem Xp.oneCell{base:Nat}{w:F}{v:H}{l:List Ze}(h:Xp base w v l):v.oneCell'=M:=by
 obtain⟨a,cap,rfl,_⟩:=h;rfl
theorem Xp.list{base:Nat}{w:F}{v:H}{l:List Ze}(h:Xp base w v l):QQ w v l:=by
 obtain⟨a,cap,rfl,hc,h⟩:=h;refine⟨a,cap,rfl,hc,?_⟩;rcases h with h|⟨b,o,rfl,_,h⟩;·exact .inl h
 ·refine .inr ⟨b,o,rfl,fun i hi=>?_⟩;obtain⟨vn,vk,vv,c1,c2,c3,c4,h1,h2,h3⟩:=h i hi;exact⟨vn,vk,vv,c1,c2,c3,c4,h1.1,h2.1,h3.1⟩
theorem Xp.kept{base:Nat}{w w':F}{v:H}{l:List Ze}(h:Xp base w v l){row:Option Nat}(hg:L w w' row)(hrow:row=G∨∃g cur t fz,row=I g∧base<=g∧w.heap[g]?=I (S cur t fz)∧t≠5∧t≠97):Xp base w' v l:=by
 obtain⟨a,cap,rfl,hc,h⟩:=h;refine⟨a,cap,rfl,hc,?_⟩;rcases h with h|⟨b,o,rfl,hb,h⟩;·exact .inl h
 ·by_cases h0:l=[];(·exact .inl ⟨h0,fun e=>by cases e⟩);·have hl:0<l.length:=rS.2 h0;(have hlt:b<w.heap.size:=by obtain⟨vn,vk,vv,c1,_⟩:=h 0 hl;exact VK c1);(have hne:I b≠row:=by intro e;rcases hrow with rfl|⟨g,cur,t,fz,rfl,hbg,hgc,ht,ht2⟩;(·cases e);·cases e;rcases hb with hb|⟨cur2,fz2,hb⟩;(·omega);·rw[hb]at hgc;simp only[tA,tX]at hgc;exact ht2 hgc.2.1.symm);(have hrow':row=G∨∃g cur t fz,row=I g∧base<=g∧w.heap[g]?=I (S cur t fz)∧t≠5:=by rcases hrow with h|⟨g,cur,t,fz,h1,h2,h3,h4,_⟩;(·exact .inl h);·exact .inr ⟨g,cur,t,fz,h1,h2,h3,h4⟩);refine .inr ⟨b,o,rfl,?_,fun i hi=>?_⟩;(·rcases hb with hb|⟨cur,fz,hb⟩;(·exact .inl hb);·exact .inr ⟨cur,fz,by rw[hg.block b hlt hne];exact hb⟩);·obtain⟨vn,vk,vv,c1,c2,c3,c4,h1,h2,h3⟩:=h i hi;exact⟨vn,vk,vv,hg.cell c1 (by simpa using hne),hg.cell c2 (by simpa using hne),hg.cell c3 (by simpa using hne),hg.cell c4 (by simpa using hne),h1.keptT hg hrow',h2.keptT hg hrow',h3.keptT hg hrow'⟩
theorem Xp.grown{base:Nat}{w w':F}{v:H}{l:List Ze}(h:Xp base w v l)(hg:L w w' G):Xp base w' v l:=h.kept hg (.inl rfl)
def Kc(w:F)(v:H)(c:XI):Prop:=∃vs,v=sQ #[Y tB c.turn,vs]∧QQ w vs c.writes
theorem Kc.grown{w w':F}{v:H}{c:XI}(h:Kc w v c)(hg:L w w' G):Kc w' v c:=by
 obtain⟨vs,rfl,h⟩:=h;exact⟨vs,rfl,h.grown hg⟩
theorem Kc.agg{w:F}{v:H}{c:XI}(h:Kc w v c):∃a cap,v=sQ #[Y tB c.turn,J a c.writes.length cap]:=by
 obtain⟨vs,rfl,h⟩:=h;obtain⟨a,cap,rfl⟩:=h.shape;exact⟨a,cap,rfl⟩
theorem Kc.writes{w:F}{c:XI}{x y:H}(h:Kc w (sQ #[x,y]) c):x=Y tB c.turn∧QQ w y c.writes:=by
 obtain⟨vs,e,h⟩:=h;injection e with e;injection e with e;injection e with e1 e;injection e with e2 e;exact⟨e1,e2▸h⟩
structure N0(c:XI):Prop where turn:-9223372036854775808<=c.turn∧c.turn<=9223372036854775807writes:uJ c.writes
structure Gg where
  data : List UInt8
  synced : Int
def Gl:Gg:=⟨[],0⟩
def K8(w:F)(v:H)(t:Gg):Prop:=∃vd,v=sQ #[vd,Y tB t.synced]∧Qe w vd t.data
theorem K8.grown{w w':F}{v:H}{t:Gg}(h:K8 w v t)(hg:L w w' G):K8 w' v t:=by
 obtain⟨vd,rfl,h⟩:=h;exact⟨vd,rfl,h.grown hg⟩
theorem K8.agg{w:F}{v:H}{t:Gg}(h:K8 w v t):∃a cap,v=sQ #[J a t.data.length cap,Y tB t.synced]:=by
 obtain⟨vd,rfl,h⟩:=h;obtain⟨a,cap,rfl⟩:=h.shape;exact⟨a,cap,rfl⟩
theorem K8.data{w:F}{t:Gg}{x y:H}(h:K8 w (sQ #[x,y]) t):Qe w x t.data∧y=Y tB t.synced:=by
 obtain⟨vd,e,h⟩:=h;injection e with e;injection e with e;injection e with e1 e;injection e with e2 e;exact⟨e1▸h,e2⟩
structure yD(t:Gg):Prop where data:t.data.length<=140737488355328synced:-9223372036854775808<=t.synced∧t.synced<=9223372036854775807
def YI(w:F)(v:H)(t:Gg):Prop:=∃vd,v=sQ #[vd,Y tB t.synced]∧Qi 0 w vd t.data
theorem YI.is{w:F}{v:H}{t:Gg}(h:YI w v t):K8 w v t:=by
 obtain⟨vd,rfl,h⟩:=h;exact⟨vd,rfl,h.slice⟩
theorem V9(w:F):YI w (sQ #[J G 0 0,Y tB 0]) Gl:=⟨_,rfl,Qx w,.inl rfl⟩
def GH(t:Gg):Bool:=tS (t.data.length<=200000)&&tS (0<=t.synced∧t.synced<=(t.data.length:Int))
theorem KT(t:Gg):GH t=M↔t.data.length<=200000∧0<=t.synced∧t.synced<=(t.data.length:Int):=by
 unfold GH;rw[rM,decide_eq_true_iff,decide_eq_true_iff]
def TP(c:XI):List UInt8:=if Za c=0then Zi c else[]
def RJ(t:Gg):Int:=if GH t=M then 0 else 6
def JT(t:Gg):Gg:=if GH t=M then⟨t.data,(t.data.length:Int)⟩else Gl
def UB(t:Gg)(keep:Int):Int:=if GH t=M then(if keep<0then 2 else 0)else 6
def Xz(t:Gg)(keep:Int):Nat:=if keep<(t.data.length:Int)-t.synced then(t.synced+keep).toNat else t.data.length
def Xv(t:Gg)(keep:Int):Gg:=if UB t keep=0then⟨t.data.take (Xz t keep),(Xz t keep:Int)⟩else Gl
def VH(D:List UInt8->List UInt8)(t:Gg)(c:XI):Int:=if GH t=M then(if Za c=0then(if 200000<t.data.length+(ZH D c).length then 11 else 0)else Za c)else 6
def zY(D:List UInt8->List UInt8)(t:Gg)(c:XI):Gg:=if VH D t c=0then⟨t.data++ZH D c,t.synced⟩else Gl
def EO(t:Gg):Int:=if GH t=M then 0 else 6
def yM(D:List UInt8->List UInt8)(t:Gg):List XI:=if GH t=M then(KU D 1 t.data).1 else[]
def xE(D:List UInt8->List UInt8)(t:Gg):Gg:=if GH t=M then⟨t.data.take (D4 D t.data),if t.synced>(D4 D t.data:Int)then(D4 D t.data:Int)else t.synced⟩else Gl
theorem Bv{D:List UInt8->List UInt8}(hD:∀x,(D x).length=4){c:XI}(hc:Za c=0):6<=(ZH D c).length∧(ZH D c).length<=600:=by
 have h1:=PJ hD c;have h2:=Vg hc;omega
theorem Ag(D:List UInt8->List UInt8)(cs:List XI)(i:Nat)(h:i<cs.length):Q6 D (cs.take (i+1))=Q6 D (cs.take i)++ZH D (cs.getD i Zk):=by
 rw[sX h,VJ,Pz,show cs[i]=cs.getD i Zk by simp[h]]
theorem gT{D:List UInt8->List UInt8}{t:Gg}(hm:GH t=M){cs:List XI}{r:List UInt8}{n:Nat}(h:KU D 1 t.data=(cs,r))(hn:D4 D t.data=n):EO t=0∧yM D t=cs∧xE D t=⟨t.data.take n,if t.synced>(n:Int)then(n:Int)else t.synced⟩:=by
 refine⟨by rw[EO,if_pos hm],by rw[yM,if_pos hm,h],by rw[xE,if_pos hm,hn]⟩
theorem aC{D:List UInt8->List UInt8}(hD:∀x,(D x).length=4){cs:List XI}(h:zD 1 cs)(k:Nat)(s:Int)(hk:k<=(Q6 D cs).length)(hs:0<=s∧s<=(k:Int))(hl:(Q6 D cs).length<=200000):∃j,j<=cs.length∧(Q6 D (cs.take j)).length<=k∧(j<cs.length->k<(Q6 D (cs.take (j+1))).length)∧EO ⟨(Q6 D cs).take k,s⟩=0∧yM D ⟨(Q6 D cs).take k,s⟩=cs.take j∧xE D ⟨(Q6 D cs).take k,s⟩=⟨Q6 D (cs.take j),if s>((Q6 D (cs.take j)).length:Int)then((Q6 D (cs.take j)).length:Int)else s⟩:=by
 obtain⟨j,h1,h2,h3,h4,h5⟩:=Br hD h k;have hkl:((Q6 D cs).take k).length=k:=by simp;omega
 have hm:GH ⟨(Q6 D cs).take k,s⟩=M:=(KT _).2 ⟨by show((Q6 D cs).take k).length<=_;omega,by show 0<=s∧s<=(((Q6 D cs).take k).length:Int);omega⟩;have hn:D4 D ((Q6 D cs).take k)=(Q6 D (cs.take j)).length:=by rw[D4,h2,hkl];show k-(((Q6 D cs).take k).drop _).length=_;rw[pR,hkl];omega
 obtain⟨a,b,c⟩:=gT hm h2 hn;refine⟨j,h1,h3,h5,a,b,?_⟩;rw[c];have e:((Q6 D cs).take k).take (Q6 D (cs.take j)).length=Q6 D (cs.take j):=by rw[pZ,oC h3];(conv=>lhs;rw[<-pK j cs,VJ]);rw[show(cs.take j++cs.drop j).take j=cs.take j by rw[pK]];exact List.take_left' rfl
 show(⟨((Q6 D cs).take k).take _,_⟩:Gg)=_;rw[e]
def OJ:FL->Nat->List XI->Int|_,_,[]=>0|f,i,c::cs=>if Za c=0then(if c.turn=((i+1:Nat):Int)then(if Q4 f c.writes=0then OJ (Xy f c.writes) (i+1) cs else Q4 f c.writes)else 3)else Za c
def qH:FL->List XI->FL|f,[]=>f|f,c::cs=>qH (Xy f c.writes) cs
theorem vW:∀(a b:List XI)(f:FL),qH f (a++b)=qH (qH f a) b|[],_,_=>rfl|_::a,b,_=>vW a b _
theorem Sq(cs:List XI)(f:FL)(c:XI):qH f (cs++[c])=Xy (qH f cs) c.writes:=by
 rw[vW];rfl
def vL:FL->Nat->List XI->Prop|_,_,[]=>True|f,i,c::cs=>Za c=0∧c.turn=((i+1:Nat):Int)∧Q4 f c.writes=0∧vL (Xy f c.writes) (i+1) cs
theorem vL.take:∀{cs:List XI}{f:FL}{i:Nat}(_:vL f i cs)(j:Nat),vL f i (cs.take j)|[],_,_,_,j=>by rw[List.take_nil];trivial|_::_,_,_,_,0=>trivial|_::_,_,_,h,j+1=>⟨h.1,h.2.1,h.2.2.1,vL.take h.2.2.2 j⟩
theorem vL.at:∀{cs:List XI}{f:FL}{i:Nat}(_:vL f i cs)(j:Nat)(_:j<cs.length),Za (cs.getD j Zk)=0∧(cs.getD j Zk).turn=((i+j+1:Nat):Int)∧Q4 (qH f (cs.take j)) (cs.getD j Zk).writes=0|[],_,_,_,j,hj=>by simp at hj|c::cs,f,i,h,0,_=>⟨h.1,h.2.1,h.2.2.1⟩|c::cs,f,i,h,j+1,hj=>by have:=vL.at h.2.2.2 j (by simpa using hj);rw[show i+(j+1)+1=i+1+j+1by omega];simpa[qH]using this
theorem FO{l:FL}(h:Xq l)(ws:List Ze):Xq (Xy l ws):=by
 unfold Xy;by_cases h0:Q4 l ws=0;·rw[if_pos h0];unfold Q4 at h0;rw[if_pos ((Yc l).2 h)]at h0;by_cases h10:10<ws.length;(·rw[if_pos h10]at h0;omega);·rw[if_neg h10]at h0;exact vO ws l h h0
 ·rw[if_neg h0];exact VU
theorem qX:∀(cs:List XI)(f:FL),Xq f->Xq (qH f cs)|[],_,h=>h|c::cs,_,h=>qX cs _ (FO h c.writes)
def ZK(n t:Int):Bool:=tS (0<=t∧t<=n∧n-t<6)
def Rr(a b:Ze):Prop:=a.name=b.name∧a.key=b.key
def NY(l:List Ze):Prop:=l.Pairwise fun a b=>¬Rr a b
def XJ(a b:Rd):Bool:=a.wide==b.wide&&(tS (a.name=b.name)&&(tS (a.key=b.key)&&tS (a.last=b.last)))
theorem qS(a b:Rd):XJ a b=M↔a=b:=by
 obtain⟨n,k,w,l⟩:=a;obtain⟨n2,k2,w2,l2⟩:=b;simp only[XJ,rM,decide_eq_true_iff,beq_iff_eq,Rd.mk.injEq];exact⟨fun⟨h1,h2,h3,h4⟩=>⟨h2,h3,h1,h4⟩,fun⟨h1,h2,h3,h4⟩=>⟨h3,h1,h2,h4⟩⟩
def ZP(a b:Ze):Bool:=tS (a.name=b.name)&&tS (a.key=b.key)
theorem zC(a b:Ze):ZP a b=M↔Rr a b:=by
 simp only[ZP,rM,decide_eq_true_iff];exact Iff.rfl
def G2:List Rd->List Rd->Int|_,[]=>0|p,r::rs=>if XH r=0then(if p.any (fun q=>XJ q r)=M then 3 else G2 (p++[r]) rs)else XH r
def xY:List Ze->List Ze->Int|_,[]=>0|p,w::ws=>if QE w=0then(if p.any (fun q=>ZP q w)=M then 3 else xY (p++[w]) ws)else QE w
theorem Tw:∀(rs p:List Rd),G2 p rs=0↔(∀r∈rs,XH r=0)∧(∀r∈rs,r∉p)∧rs.Nodup|[],p=>by simp[G2]|r::rs,p=>by have ih:=Tw rs (p++[r]);rw[G2];by_cases h1:XH r=0;(·rw[if_pos h1];by_cases h2:p.any (fun q=>XJ q r)=M;(·rw[if_pos h2];refine⟨fun h=>by omega,fun h=>?_⟩;obtain⟨q,hq,he⟩:=rA.1 h2;rw[(qS q r).1 he]at hq;exact absurd hq (h.2.1 r (rH ..)));·rw[if_neg h2,ih];have hr:r∉p:=fun hm=>h2 (rA.2 ⟨r,hm,(qS r r).2 rfl⟩);constructor;(·rintro⟨a,b,c⟩;refine⟨fun x hx=>?_,fun x hx=>?_,pW.2 ⟨fun hm=>b r hm (by simp),c⟩⟩;(·rcases tK.1 hx with rfl|hx;(·exact h1);·exact a x hx);·rcases tK.1 hx with rfl|hx;(·exact hr);·exact fun hm=>b x hx (tZ.2 (.inl hm)));·rintro⟨a,b,c⟩;have c':=pW.1 c;refine⟨fun x hx=>a x (sV _ hx),fun x hx hm=>?_,c'.2⟩;rcases tZ.1 hm with hm|hm;(·exact b x (sV _ hx) hm);·simp only[tK,tM,or_false]at hm;subst hm;exact c'.1 hx);·rw[if_neg h1];exact⟨fun h=>absurd h h1,fun h=>absurd (h.1 r (rH ..)) h1⟩
theorem DK:∀(ws p:List Ze),xY p ws=0↔(∀w∈ws,QE w=0)∧(∀w∈ws,∀q∈p,¬Rr q w)∧NY ws|[],p=>by simp[xY,NY]|w::ws,p=>by have ih:=DK ws (p++[w]);rw[xY];by_cases h1:QE w=0;(·rw[if_pos h1];by_cases h2:p.any (fun q=>ZP q w)=M;(·rw[if_pos h2];refine⟨fun h=>by omega,fun h=>?_⟩;obtain⟨q,hq,he⟩:=rA.1 h2;exact absurd ((zC q w).1 he) (h.2.1 w (rH ..) q hq));·rw[if_neg h2,ih];have hr:∀q∈p,¬Rr q w:=fun q hm e=>h2 (rA.2 ⟨q,hm,(zC q w).2 e⟩);constructor;(·rintro⟨a,b,c⟩;refine⟨fun x hx=>?_,fun x hx q hq=>?_,rI.2 ⟨fun x hx=>b x hx w (by simp),c⟩⟩;(·rcases tK.1 hx with rfl|hx;(·exact h1);·exact a x hx);·rcases tK.1 hx with rfl|hx;(·exact hr q hq);·exact b x hx q (tZ.2 (.inl hq)));·rintro⟨a,b,c⟩;have c':=rI.1 c;refine⟨fun x hx=>a x (sV _ hx),fun x hx q hm=>?_,c'.2⟩;rcases tZ.1 hm with hm|hm;(·exact b x (sV _ hx) q hm);·simp only[tK,tM,or_false]at hm;subst hm;exact c'.1 x hx);·rw[if_neg h1];exact⟨fun h=>absurd h h1,fun h=>absurd (h.1 w (rH ..)) h1⟩
structure Tx where
  start : Int
  reads : List Rd
  writes : List Ze
def FN:Tx:=⟨0,[],[]⟩
def Gt(t:Tx):Int:=if 0<=t.start∧t.start<=1048576then(if 20<t.reads.length∨10<t.writes.length then 1 else(if G2 [] t.reads=0then xY [] t.writes else G2 [] t.reads))else 2
structure qO (t : Tx) : Prop where
  start : 0 <= t.start ∧ t.start <= 1048576
  reads : t.reads.length <= 20
  writes : t.writes.length <= 10
  each : ∀ r ∈ t.reads, XH r = 0
  once : t.reads.Nodup
  wrs : ∀ w ∈ t.writes, QE w = 0
  apart : NY t.writes
theorem uA(t:Tx):Gt t=0↔qO t:=by
 unfold Gt;by_cases h1:0<=t.start∧t.start<=1048576;·rw[if_pos h1];by_cases h2:20<t.reads.length∨10<t.writes.length;(·rw[if_pos h2];exact⟨fun h=>by omega,fun h=>by have:=h.reads;have:=h.writes;omega⟩);·rw[if_neg h2];by_cases h3:G2 [] t.reads=0;(·rw[if_pos h3,DK];have h3':=(Tw _ _).1 h3;exact⟨fun h=>⟨h1,by omega,by omega,h3'.1,h3'.2.2,h.1,h.2.2⟩,fun h=>⟨h.wrs,fun _ _ _ hq=>by simp at hq,h.apart⟩⟩);·rw[if_neg h3];exact⟨fun h=>absurd h h3,fun h=>absurd ((Tw _ _).2 ⟨h.each,fun _ _ hq=>by simp at hq,h.once⟩) h3⟩
 ·rw[if_neg h1];exact⟨fun h=>by omega,fun h=>absurd h.start h1⟩
def EM(t:Tx)(r:Rd):Bool:=t.reads.any (fun q=>XJ q r)
theorem OP(t:Tx)(r:Rd):EM t r=M↔r∈t.reads:=by
 unfold EM;rw[rA];exact⟨fun⟨q,hq,e⟩=>(qS q r).1 e▸hq,fun h=>⟨r,h,(qS r r).2 rfl⟩⟩
def Xn(t:Tx)(r:Rd):Int:=if Gt t=0then(if XH r=0then(if EM t r=M then 0 else(if t.reads.length=20then 11 else 0))else XH r)else Gt t
def Yf(t:Tx)(r:Rd):Tx:=if Xn t r=0then(if EM t r=M then t else⟨t.start,t.reads++[r],t.writes⟩)else FN
theorem f7{t:Tx}(h:qO t){r:Rd}(hr:XH r=0):Xn t r=if EM t r=M then 0 else(if t.reads.length=20then 11 else 0):=by
 rw[Xn,if_pos ((uA t).2 h),if_pos hr]
theorem eW{t:Tx}(h:qO t){r:Rd}(hr:XH r=0)(he:Xn t r=0):qO (Yf t r):=by
 rw[Yf,if_pos he];by_cases hh:EM t r=M;·rw[if_pos hh];exact h
 ·rw[if_neg hh];rw[f7 h hr,if_neg hh]at he;have hm:r∉t.reads:=fun e=>hh ((OP t r).2 e);(have h20:t.reads.length≠20:=fun e=>by rw[if_pos e]at he;omega);refine⟨h.start,?_,h.writes,fun x hx=>?_,?_,h.wrs,h.apart⟩;(·have:=h.reads;simp;omega);(·rcases tZ.1 hx with hx|hx;(·exact h.each x hx);·simp only[tK,tM,or_false]at hx;rw[hx];exact hr);·rw[pO];refine⟨h.once,by simp,fun a ha b hb e=>?_⟩;simp only[tK,tM,or_false]at hb;subst hb;subst e;exact hm ha
def FH(l:List Ze)(w:Ze):Bool:=l.any (fun q=>ZP q w)
def xD:List Ze->Ze->List Ze|[],w=>[w]|a::l,w=>if ZP a w=M then w::l else a::xD l w
def Xh(t:Tx)(w:Ze):Int:=if Gt t=0then(if QE w=0then(if FH t.writes w=M then 0 else(if t.writes.length=10then 11 else 0))else QE w)else Gt t
def Yl(t:Tx)(w:Ze):Tx:=if Xh t w=0then⟨t.start,t.reads,xD t.writes w⟩else FN
theorem Cf:∀(l:List Ze)(w:Ze),(xD l w).length=if FH l w=M then l.length else l.length+1|[],w=>rfl|a::l,w=>by rw[xD,FH,pC];by_cases h:ZP a w=M;(·rw[if_pos h,h];rfl);·rw[if_neg h,sN,Cf l w];(have hf:ZP a w=N:=by simpa using h);rw[hf,Bool.false_or];show _=if FH l w=M then _ else _;by_cases h2:FH l w=M;(·rw[if_pos h2,if_pos h2];rfl);·rw[if_neg h2,if_neg h2];rfl
theorem TV:∀(l:List Ze)(w x:Ze),x∈xD l w->x=w∨x∈l|[],w,x,h=>by simpa[xD]using h|a::l,w,x,h=>by rw[xD]at h;by_cases h1:ZP a w=M;(·rw[if_pos h1]at h;rcases tK.1 h with h|h;(·exact .inl h);·exact .inr (sV _ h));·rw[if_neg h1]at h;rcases tK.1 h with h|h;(·exact .inr (by rw[h];exact rH ..));·exact(TV l w x h).elim .inl fun h=>.inr (sV _ h)
theorem Ch{a b c:Ze}(h:Rr a b)(k:Rr b c):Rr a c:=⟨h.1.trans k.1,h.2.trans k.2⟩
theorem Ts:∀(l:List Ze)(w:Ze),NY l->NY (xD l w)|[],w,_=>List.pairwise_singleton ..|a::l,w,h=>by have h':=rI.1 h;rw[xD];by_cases h1:ZP a w=M;(·rw[if_pos h1];exact rI.2 ⟨fun x hx e=>h'.1 x hx (Ch ((zC a w).1 h1) e),h'.2⟩);·rw[if_neg h1];refine rI.2 ⟨fun x hx e=>?_,Ts l w h'.2⟩;rcases TV l w x hx with rfl|hx;(·exact h1 ((zC _ _).2 e));·exact h'.1 x hx e
theorem O8{t:Tx}(h:qO t){w:Ze}(hw:QE w=0):Xh t w=if FH t.writes w=M then 0 else(if t.writes.length=10then 11 else 0):=by
 rw[Xh,if_pos ((uA t).2 h),if_pos hw]
theorem cU{t:Tx}(h:qO t){w:Ze}(hw:QE w=0)(he:Xh t w=0):qO (Yl t w):=by
 rw[Yl,if_pos he];rw[O8 h hw]at he;refine⟨h.start,h.reads,?_,h.each,h.once,fun x hx=>?_,Ts _ _ h.apart⟩;·show(xD t.writes w).length<=10;rw[Cf];have:=h.writes;by_cases hh:FH t.writes w=M;(·rw[if_pos hh];exact this);·rw[if_neg hh]at he⊢;(have h10:t.writes.length≠10:=fun e=>by rw[if_pos e]at he;omega);omega
 ·rcases TV _ _ _ hx with rfl|hx;(·exact hw);·exact h.wrs x hx
def iV(l:List Ze)(n k:List UInt8):Option Ze:=l.find? fun q=>tS (q.name=n)&&tS (q.key=k)
theorem OM{l:List Ze}{n k:List UInt8}{w:Ze}(h:iV l n k=I w):w∈l∧w.name=n∧w.key=k:=by
 refine⟨List.mem_of_find?_eq_some h,?_⟩;have:=List.find?_some h;simpa using this
def lC(a b k:List UInt8):Bool:=!YW k a&&!YW b k
def KI(n a b:List UInt8)(l:PL)(w:Ze):PL:=if w.name=n∧lC a b w.key=M then(if w.gone=M then kK l w.key else Km l (w.key,w.value))else l
def Dd(n a b:List UInt8):PL->List Ze->PL|l,[]=>l|l,w::ws=>Dd n a b (KI n a b l w) ws
def zH(n a b:List UInt8):PL->List Ze->Int|_,[]=>0|l,w::ws=>if 60<(KI n a b l w).length then 11 else zH n a b (KI n a b l w) ws
def XU(r:Rd)(w:Ze):Bool:=tS (r.name=w.name)&&(if r.wide=M then lC r.key r.last w.key else tS (r.key=w.key))
def lR(t:Tx)(ws:List Ze):Bool:=ws.any fun w=>t.reads.any fun r=>XU r w
def aE(t:Tx)(l:List XI):Bool:=l.any fun c=>tS (t.start<c.turn)&&lR t c.writes
def TG(t:Tx):Int:=Gt t
def UR(t:Tx)(l:List XI):Bool:=if Gt t=0then aE t l else N
def zV(l:FL)(t:Tx):Int:=if Q8 l=0then Gt t else Q8 l
def KO(l:FL)(t:Tx)(n k:List UInt8):Int:=if zV l t=0then(if Qt n.length=0then Qq k.length else Qt n.length)else zV l t
def VV(l:FL)(t:Tx)(n k:List UInt8):Bool:=if KO l t n k=0then(iV t.writes n k).isSome else N
def Vn(l:FL)(t:Tx)(n k:List UInt8):Bool:=if KO l t n k=0then(match iV t.writes n k with|I w=>!w.gone|none=>Vl l n k)else N
def Vb(l:FL)(t:Tx)(n k:List UInt8):List UInt8:=if KO l t n k=0then(match iV t.writes n k with|I w=>w.value|none=>Vm l n k)else[]
theorem Lj{l:FL}{t:Tx}(hl:Xq l)(ht:qO t){n k:List UInt8}(hn:1<=n.length∧n.length<=8)(hk:1<=k.length∧k.length<=16):KO l t n k=0:=by
 rw[KO,zV,if_pos ((Yc l).2 hl),if_pos ((uA t).2 ht),if_pos ((Zy _).2 hn),(Zu _).2 hk]
def KD(l:FL)(t:Tx)(n a b:List UInt8):Int:=if zV l t=0then(if Qt n.length=0then(if Qq a.length=0then(if Qq b.length=0then zH n a b (Vq (Jr l n) a b) t.writes else Qq b.length)else Qq a.length)else Qt n.length)else zV l t
def Vx(l:FL)(t:Tx)(n a b:List UInt8):PL:=if KD l t n a b=0then Dd n a b (Vq (Jr l n) a b) t.writes else[]
structure Rp where
  sess : Int
  code : Int
  turn : Int
  found : Bool
  value : List UInt8
  pairs : PL
  pf : Option (FL × List UInt8 × List UInt8)
def U2(s:Nat)(e:Int):Rp:=⟨(s:Int),e,0,N,[],[],G⟩
def WN(s:Nat)(t:Int):Rp:=⟨(s:Int),0,t,N,[],[],G⟩
structure Sv where
  up : Bool
  tape : Gg
  commits : List XI
  synced : Nat
  begun : Nat -> Bool
  waits : Nat -> Bool
  txns : Nat -> Tx
  queue : List Nat
  out : List Rp
def Kx{α:Type}(f:Nat->α)(i:Nat)(x:α):Nat->α:=fun j=>if j=i then x else f j
theorem ZC{α:Type}(f:Nat->α)(i:Nat)(x:α):Kx f i x i=x:=by
 simp[Kx]
theorem QT{α:Type}(f:Nat->α){i j:Nat}(x:α)(h:j≠i):Kx f i x j=f j:=by
 simp[Kx,h]
def Gi(up:Bool)(t:Gg)(cs:List XI)(o:List Rp):Sv:=⟨up,t,cs,cs.length,fun _=>N,fun _=>N,fun _=>FN,[],o⟩
def LL:Sv:=Gi M Gl [] []
def ZJ(v:Sv)(r:Rp):Sv:={v with out:=v.out++[r]}
def QH(v:Sv)(n:Nat):FL:=qH [] (v.commits.take n)
def KM(v:Sv)(s:Nat)(x:Rd)(o:Rp):Sv:=if Xn (v.txns s) x=0then ZJ {v with txns:=Kx v.txns s (Yf (v.txns s) x)} o else ZJ v (U2 s (Xn (v.txns s) x))
def Ua(v:Sv)(s:Nat)(w:Ze):Sv:=ZJ (if Xh (v.txns s) w=0then{v with txns:=Kx v.txns s (Yl (v.txns s) w)}else v) (U2 s (Xh (v.txns s) w))
def Et(v:Sv)(s:Nat)(r:Rq):Sv:=if VV (QH v (v.txns s).start.toNat) (v.txns s) r.name r.key=M then ZJ v ⟨(s:Int),0,(v.txns s).start,Vn (QH v (v.txns s).start.toNat) (v.txns s) r.name r.key,Vb (QH v (v.txns s).start.toNat) (v.txns s) r.name r.key,[],G⟩else KM v s (Zs r) ⟨(s:Int),0,(v.txns s).start,Vn (QH v (v.txns s).start.toNat) (v.txns s) r.name r.key,Vb (QH v (v.txns s).start.toNat) (v.txns s) r.name r.key,[],G⟩
def jV(v:Sv)(s:Nat)(r:Rq):Sv:=if KD (QH v (v.txns s).start.toNat) (v.txns s) r.name r.key r.last=0then KM v s (Zs r) ⟨(s:Int),0,(v.txns s).start,N,[],Vx (QH v (v.txns s).start.toNat) (v.txns s) r.name r.key r.last,G⟩else ZJ v (U2 s (KD (QH v (v.txns s).start.toNat) (v.txns s) r.name r.key r.last))
def Gv(v:Sv)(s:Nat)(r:Rq):Sv:=if r.kind=4∨r.kind=5then Ua v s (Xi r)else if r.kind=2then Et v s r else jV v s r
def Y8(v:Sv)(s:Nat):XI:=⟨((v.commits.length+1:Nat):Int),(v.txns s).writes⟩
def Xr(v:Sv)(s:Nat):Sv:={v with begun:=Kx v.begun s N}
def YN(D:List UInt8->List UInt8)(v:Sv)(s:Nat):Sv:=if(v.txns s).writes.length=0then ZJ (Xr v s) (WN s (v.txns s).start)else if v.queue.length=6∨v.commits.length=300then ZJ v (U2 s 11)else if UR (v.txns s) v.commits=M then ZJ (Xr v s) (U2 s 9)else if Q4 (QH v v.commits.length) (v.txns s).writes≠0then ZJ (Xr v s) (U2 s (Q4 (QH v v.commits.length) (v.txns s).writes))else if VH D v.tape (Y8 v s)≠0then ZJ (Xr v s) (U2 s (VH D v.tape (Y8 v s)))else{Xr v s with tape:=zY D v.tape (Y8 v s),commits:=v.commits++[Y8 v s],queue:=v.queue++[s],waits:=Kx v.waits s M}
def NH(v:Sv)(s:Nat)(r:Rq):Sv:=ZJ v ⟨(s:Int),0,(v.synced:Int),Vl (QH v v.synced) r.name r.key,Vm (QH v v.synced) r.name r.key,[],I (QH v v.synced,r.name,r.key)⟩
def QI(v:Sv)(s:Nat)(r:Rq):Bool:=v.waits s||(if r.kind=1then v.begun s else !v.begun s)
def Jh(D:List UInt8->List UInt8)(v:Sv)(s:Nat)(r:Rq):Sv:=if r.kind=8then NH v s r else if QI v s r=M then ZJ v (U2 s 6)else if r.kind=1then ZJ {v with begun:=Kx v.begun s M,txns:=Kx v.txns s ⟨(v.synced:Int),[],[]⟩} (WN s (v.synced:Int))else if r.kind=7then ZJ (Xr v s) (U2 s 0)else if ZK (v.synced:Int) (v.txns s).start=N then ZJ (Xr v s) (U2 s 10)else if r.kind=6then YN D v s else Gv v s r
def Z5(D:List UInt8->List UInt8)(v:Sv)(s:Nat)(data:List UInt8):Sv:=if v.up=N then ZJ v (U2 s 13)else if QK data=0then Jh D v s (Qu data)else ZJ v (U2 s (QK data))
def KR:Nat->List Nat->List Rp|_,[]=>[]|n,s::q=>WN s ((n+1:Nat):Int)::KR (n+1) q
def Uy(f:Nat->Bool)(q:List Nat):Nat->Bool:=fun j=>if j∈q then N else f j
def Vt(v:Sv):Sv:={v with tape:=JT v.tape,synced:=v.synced+v.queue.length,waits:=Uy v.waits v.queue,queue:=[],out:=v.out++KR v.synced v.queue}
def K9(D:List UInt8->List UInt8)(v:Sv)(k:Int):Sv:=Gi N (xE D (Xv v.tape k)) (yM D (Xv v.tape k)) v.out
def YQ(D:List UInt8->List UInt8)(v:Sv)(a:Ac):Sv:=if a.kind=1then Z5 D v a.sess.toNat a.data else if a.kind=2then(if v.up=M then Vt v else v)else if a.kind=3then(if v.up=M then K9 D v a.keep else v)else{v with up:=M}
def YV(D:List UInt8->List UInt8)(l:List Ac):Sv:=l.foldl (YQ D) LL
theorem Pn(D:List UInt8->List UInt8)(l:List Ac)(a:Ac):YV D (l++[a])=YQ D (YV D l) a:=by
 simp[YV]
theorem xI(D:List UInt8->List UInt8)(l k:List Ac):YV D (l++k)=k.foldl (YQ D) (YV D l):=by
 simp[YV]
def qG(l:List Ac):Int:=Gq l
structure Oc where
  up : Bool
  turn : Int
  pending : Int
  forest : FL
  replies : List Rp
def Ga(v:Sv):Oc:=⟨v.up,(v.synced:Int),(v.queue.length:Int),QH v v.synced,v.out⟩
def Ig:Oc:=⟨N,0,0,[],[]⟩
def xW(D:List UInt8->List UInt8)(l:List Ac):Oc:=if qG l=0then Ga (YV D l)else Ig
section
theorem Nl:∀{cs:List XI}{f:FL}{i:Nat},vL f i cs->zD (i+1) cs|[],_,_,_=>trivial|_::_,_,_,h=>⟨by rw[h.2.1],h.1,Nl h.2.2.2⟩
theorem NS:∀{cs:List XI}{f:FL}{i:Nat}{c:XI},vL f i cs->Za c=0->c.turn=((i+cs.length+1:Nat):Int)->Q4 (qH f cs) c.writes=0->vL f i (cs++[c])|[],_,_,_,_,h1,h2,h3=>⟨h1,by rw[h2];rfl,h3,trivial⟩|d::cs,f,i,c,h,h1,h2,h3=>⟨h.1,h.2.1,h.2.2.1,NS h.2.2.2 h1 (by rw[h2,sN];congr 1;omega) h3⟩
structure Zg (D : List UInt8 -> List UInt8) (v : Sv) : Prop where
  goes : vL [] 0 v.commits
  many : v.commits.length <= 300
  data : v.tape.data = Q6 D v.commits
  mark : v.tape.synced = ((Q6 D (v.commits.take v.synced)).length : Int)
  room : v.tape.data.length <= 200000
  turn : v.synced + v.queue.length = v.commits.length
  few : v.queue.length <= 6
  wait : ∀ s, v.waits s = M ↔ s ∈ v.queue
  once : v.queue.Nodup
  tx : ∀ s, v.begun s = M -> qO (v.txns s) ∧ (v.txns s).start <= (v.synced : Int)
  idle : ∀ s, v.waits s = M -> v.begun s = N
  down : v.up = N -> v.queue = [] ∧ ∀ s, v.begun s = N
variable{D:List UInt8->List UInt8}{v:Sv}
theorem Zg.tell(h:Zg D v)(r:Rp):Zg D (ZJ v r):=⟨h.goes,h.many,h.data,h.mark,h.room,h.turn,h.few,h.wait,h.once,h.tx,h.idle,h.down⟩
theorem yS{f:Nat->Bool}{s j:Nat}(h:Kx f s N j=M):j≠s∧f j=M:=by
 by_cases e:j=s;·rw[e,ZC]at h;cases h
 ·exact⟨e,by rwa[QT f _ e]at h⟩
theorem Zg.end(h:Zg D v)(s:Nat):Zg D (Xr v s):=by
 refine⟨h.goes,h.many,h.data,h.mark,h.room,h.turn,h.few,h.wait,h.once,fun j hj=>h.tx j (yS hj).2,fun j hj=>?_,fun hu=>⟨(h.down hu).1,fun j=>?_⟩⟩;·show Kx v.begun s N j=N;by_cases e:j=s;(·rw[e,ZC]);·rw[QT _ _ e];exact h.idle j hj
 ·show Kx v.begun s N j=N;by_cases e:j=s;(·rw[e,ZC]);·rw[QT _ _ e];exact(h.down hu).2 j
theorem Zg.txn(h:Zg D v){s:Nat}{t:Tx}(ht:qO t)(hs:t.start<=(v.synced:Int)):Zg D {v with txns:=Kx v.txns s t}:=by
 refine⟨h.goes,h.many,h.data,h.mark,h.room,h.turn,h.few,h.wait,h.once,fun j hj=>?_,h.idle,h.down⟩;show qO (Kx v.txns s t j)∧(Kx v.txns s t j).start<=_;by_cases e:j=s;·rw[e,ZC];exact⟨ht,hs⟩
 ·rw[QT _ _ e];exact h.tx j hj
theorem Zg.may(h:Zg D v):GH v.tape=M:=by
 refine(KT _).2 ⟨h.room,?_⟩;rw[h.mark,h.data];have:=U9 D v.commits v.synced v.commits.length (by have:=h.turn;omega);rw[sD]at this;omega
theorem kX{t:Tx}{r:Rd}(h:Xn t r=0):(Yf t r).start=t.start:=by
 rw[Yf,if_pos h];split<;>rfl
theorem CS{t:Tx}{w:Ze}(h:Xh t w=0):(Yl t w).start=t.start:=by
 rw[Yl,if_pos h]
theorem Zg.note(h:Zg D v){s:Nat}(hb:v.begun s=M){x:Rd}(hx:XH x=0)(o:Rp):Zg D (KM v s x o):=by
 obtain⟨h1,h2⟩:=h.tx s hb;unfold KM;by_cases e:Xn (v.txns s) x=0;·rw[if_pos e];exact(h.txn (eW h1 hx e) (by rw[kX e];exact h2)).tell _
 ·rw[if_neg e];exact h.tell _
theorem Zg.write(h:Zg D v){s:Nat}(hb:v.begun s=M){w:Ze}(hw:QE w=0):Zg D (Ua v s w):=by
 obtain⟨h1,h2⟩:=h.tx s hb;unfold Ua;by_cases e:Xh (v.txns s) w=0;·rw[if_pos e];exact(h.txn (cU h1 hw e) (by rw[CS e];exact h2)).tell _
 ·rw[if_neg e];exact h.tell _
theorem uD{r:Rq}(h:YS r)(hk:r.kind=2∨r.kind=3):XH (Zs r)=0:=bE (by
 rw[(Nk h).1,if_pos hk])
theorem Wm{r:Rq}(h:YS r)(hk:r.kind=4∨r.kind=5):QE (Xi r)=0:=Pm (by
 rw[(Nk h).2,if_pos hk])
theorem Zg.work(h:Zg D v){s:Nat}(hb:v.begun s=M){r:Rq}(hr:YS r)(hk:2<=r.kind∧r.kind<=5):Zg D (Gv v s r):=by
 unfold Gv;by_cases h1:r.kind=4∨r.kind=5;·rw[if_pos h1];exact h.write hb (Wm hr h1)
 ·rw[if_neg h1];by_cases h2:r.kind=2;(·rw[if_pos h2];unfold Et;split;(·exact h.tell _);·exact h.note hb (uD hr (.inl h2)) _);·rw[if_neg h2];unfold jV;split;(·exact h.note hb (uD hr (.inr (by omega))) _);·exact h.tell _
theorem CE{t:Tx}(ht:qO t)(hw:¬t.writes.length=0)(n:Nat)(hn:n<=300):Za ⟨((n+1:Nat):Int),t.writes⟩=0:=(K6 _).2 ⟨by
 show(1:Int)<=((n+1:Nat):Int)∧((n+1:Nat):Int)<=1048576;omega,⟨by
 show 1<=t.writes.length;omega,ht.writes⟩,ht.wrs⟩
theorem Bp(h:Zg D v){s:Nat}(hb:v.begun s=M)(h1:¬(v.txns s).writes.length=0)(h2:¬(v.queue.length=6∨v.commits.length=300))(h4:Q4 (QH v v.commits.length) (v.txns s).writes=0)(h5:VH D v.tape (Y8 v s)=0):Zg D {Xr v s with tape:=zY D v.tape (Y8 v s),commits:=v.commits++[Y8 v s],queue:=v.queue++[s],waits:=Kx v.waits s M}:=by
 obtain⟨ht,hst⟩:=h.tx s hb;have hm:=h.many;have hc:Za (Y8 v s)=0:=CE ht h1 _ hm;have hmay:=h.may;have hroom:v.tape.data.length+(ZH D (Y8 v s)).length<=200000:=by rw[VH,if_pos hmay,if_pos hc]at h5;by_cases e:200000<v.tape.data.length+(ZH D (Y8 v s)).length;(·rw[if_pos e]at h5;exact absurd h5 (by decide));·omega
 have hT:zY D v.tape (Y8 v s)=⟨v.tape.data++ZH D (Y8 v s),v.tape.synced⟩:=by rw[zY,if_pos h5]
 have hnw:v.waits s≠M:=fun e=>by have:=h.idle s e;rw[hb]at this;cases this
 have hnq:s∉v.queue:=fun e=>hnw ((h.wait s).2 e);have hup:v.up=M:=by cases hu:v.up with|true=>rfl|false=>have:=(h.down hu).2 s;rw[hb]at this;cases this
 have htn:=h.turn;rw[hT];refine⟨?_,?_,?_,?_,?_,?_,?_,?_,?_,?_,?_,?_⟩;·refine NS h.goes hc (by show((v.commits.length+1:Nat):Int)=_;congr 1;omega) ?_;rw[QH,sD]at h4;exact h4
 ·show(v.commits++[Y8 v s]).length<=300;rw[tC,sA];omega
 ·show v.tape.data++ZH D (Y8 v s)=Q6 D (v.commits++[Y8 v s]);rw[VJ,Pz,h.data]
 ·show v.tape.synced=((Q6 D ((v.commits++[Y8 v s]).take v.synced)).length:Int);rw[List.take_append_of_le_length (by omega)];exact h.mark
 ·show(v.tape.data++ZH D (Y8 v s)).length<=200000;rw[tC];exact hroom
 ·show v.synced+(v.queue++[s]).length=(v.commits++[Y8 v s]).length;rw[tC,tC,sA,sA];omega
 ·show(v.queue++[s]).length<=6;have:=h.few;rw[tC,sA];omega
 ·intro j;show Kx v.waits s M j=M↔j∈v.queue++[s];by_cases e:j=s;(·rw[e,ZC];simp);·rw[QT _ _ e,h.wait j];simp[e]
 ·show(v.queue++[s]).Nodup;rw[pO];exact⟨h.once,by simp,fun a ha b hb e=>hnq (by simp at hb;rw[<-hb,<-e];exact ha)⟩
 ·intro j hj;exact h.tx j (yS hj).2
 ·intro j hj;show Kx v.begun s N j=N;by_cases e:j=s;(·rw[e,ZC]);·rw[QT _ _ e];exact h.idle j (by have:Kx v.waits s M j=M:=hj;rwa[QT _ _ e]at this)
 ·intro hu;have:v.up=N:=hu;rw[hup]at this;cases this
theorem Zg.commit(h:Zg D v){s:Nat}(hb:v.begun s=M):Zg D (YN D v s):=by
 unfold YN;by_cases h1:(v.txns s).writes.length=0;·rw[if_pos h1];exact(h.end s).tell _
 ·rw[if_neg h1];by_cases h2:v.queue.length=6∨v.commits.length=300;(·rw[if_pos h2];exact h.tell _);·rw[if_neg h2];by_cases h3:UR (v.txns s) v.commits=M;(·rw[if_pos h3];exact(h.end s).tell _);·rw[if_neg h3];by_cases h4:Q4 (QH v v.commits.length) (v.txns s).writes≠0;(·rw[if_pos h4];exact(h.end s).tell _);·rw[if_neg h4];by_cases h5:VH D v.tape (Y8 v s)≠0;(·rw[if_pos h5];exact(h.end s).tell _);·rw[if_neg h5];exact Bp h hb h1 h2 (sR h4) (sR h5)
theorem Zg.req(h:Zg D v)(hup:v.up=M)(s:Nat){r:Rq}(hr:YS r):Zg D (Jh D v s r):=by
 unfold Jh;by_cases h1:r.kind=8;·rw[if_pos h1];exact h.tell _
 ·rw[if_neg h1];by_cases h2:QI v s r=M;(·rw[if_pos h2];exact h.tell _);·rw[if_neg h2];(have h2':v.waits s=N∧(if r.kind=1then v.begun s else !v.begun s)=N:=by unfold QI at h2;cases hw:v.waits s;(·rw[hw]at h2;exact⟨rfl,by simpa using h2⟩);·rw[hw]at h2;exact absurd rfl h2);by_cases h3:r.kind=1;(·rw[if_pos h3];refine Zg.tell ?_ _;have hm:=h.many;have htn:=h.turn;refine⟨h.goes,h.many,h.data,h.mark,h.room,h.turn,h.few,h.wait,h.once,fun j hj=>?_,fun j hj=>?_,fun hu=>?_⟩;(·show qO (Kx v.txns s _ j)∧(Kx v.txns s _ j).start<=_;by_cases e:j=s;(·rw[e,ZC];exact⟨⟨by show(0:Int)<=(v.synced:Int)∧(v.synced:Int)<=1048576;omega,by simp,by simp,by simp,by simp,by simp,by simp[NY]⟩,Int.le_refl _⟩);·rw[QT _ _ e];exact h.tx j (by have:Kx v.begun s M j=M:=hj;rwa[QT _ _ e]at this));(·show Kx v.begun s M j=N;have hj':v.waits j=M:=hj;by_cases e:j=s;(·rw[e,h2'.1]at hj';cases hj');·rw[QT _ _ e];exact h.idle j hj');·have:v.up=N:=hu;rw[hup]at this;cases this);·rw[if_neg h3];(have hb:v.begun s=M:=by have:=h2'.2;rw[if_neg h3]at this;simpa using this);by_cases h4:r.kind=7;(·rw[if_pos h4];exact(h.end s).tell _);·rw[if_neg h4];by_cases h5:ZK (v.synced:Int) (v.txns s).start=N;(·rw[if_pos h5];exact(h.end s).tell _);·rw[if_neg h5];by_cases h6:r.kind=6;(·rw[if_pos h6];exact h.commit hb);·rw[if_neg h6];have hk:=hr.kind;exact h.work hb hr (by omega)
theorem Zg.ask(h:Zg D v)(s:Nat)(d:List UInt8):Zg D (Z5 D v s d):=by
 unfold Z5;by_cases h1:v.up=N;·rw[if_pos h1];exact h.tell _
 ·rw[if_neg h1];by_cases h2:QK d=0;(·rw[if_pos h2];exact h.req (by simpa using h1) s ((Ym _).1 (Yy h2).1));·rw[if_neg h2];exact h.tell _
theorem Zg.sync(h:Zg D v):Zg D (Vt v):=by
 have hm:=h.may;have htn:=h.turn;refine⟨h.goes,h.many,?_,?_,?_,?_,by simp[Vt],?_,by simp[Vt],?_,?_,?_⟩;·show(JT v.tape).data=_;rw[JT,if_pos hm];exact h.data
 ·show(JT v.tape).synced=((Q6 D (v.commits.take (v.synced+v.queue.length))).length:Int);rw[JT,if_pos hm,htn,sD,<-h.data]
 ·show(JT v.tape).data.length<=_;rw[JT,if_pos hm];exact h.room
 ·show v.synced+v.queue.length+([]:List Nat).length=v.commits.length;simpa using htn
 ·intro j;show Uy v.waits v.queue j=M↔j∈([]:List Nat);rw[Uy];constructor;(·intro e;split at e;(·cases e);·rename_i hq;exact absurd ((h.wait j).1 e) hq);·intro e;simp at e
 ·intro j hj;obtain⟨h1,h2⟩:=h.tx j hj;exact⟨h1,by show _<=((v.synced+v.queue.length:Nat):Int);have:(v.txns j).start<=(v.synced:Int):=h2;show(v.txns j).start<=_;omega⟩
 ·intro j hj;have:Uy v.waits v.queue j=M:=hj;rw[Uy]at this;split at this;(·cases this);·exact h.idle j this
 ·intro hu;exact⟨rfl,(h.down hu).2⟩
theorem L2{up:Bool}{t:Gg}{cs:List XI}{o:List Rp}(hg:vL [] 0 cs)(hm:cs.length<=300)(hd:t=⟨Q6 D cs,((Q6 D cs).length:Int)⟩)(hr:(Q6 D cs).length<=200000):Zg D (Gi up t cs o):=by
 subst hd;refine⟨hg,hm,rfl,?_,hr,rfl,by simp[Gi],fun s=>by simp[Gi],by simp[Gi],fun s hs=>by simp[Gi]at hs,fun s hs=>by simp[Gi]at hs,fun _=>⟨rfl,fun _=>rfl⟩⟩;show((Q6 D cs).length:Int)=((Q6 D (cs.take cs.length)).length:Int);rw[sD]
theorem Ax(D:List UInt8->List UInt8):Zg D LL:=L2 trivial (by
 simp) rfl (by
 simp[Q6])
theorem qR(hD:∀x,(D x).length=4)(h:Zg D v){k:Int}(hk:0<=k):∃j,v.synced<=j∧j<=v.commits.length∧K9 D v k=Gi N ⟨Q6 D (v.commits.take j),((Q6 D (v.commits.take j)).length:Int)⟩ (v.commits.take j) v.out∧(k=0->j=v.synced):=by
 have hm:=h.may;obtain⟨m1,m2,m3⟩:=(KT _).1 hm;have hit:zD 1 v.commits:=Nl h.goes;have htn:=h.turn;have hce:UB v.tape k=0:=by rw[UB,if_pos hm,if_neg (by omega)]
 have hcn:Xz v.tape k<=v.tape.data.length∧v.tape.synced<=(Xz v.tape k:Int):=by rw[Xz];split<;>omega
 have hcT:Xv v.tape k=⟨(Q6 D v.commits).take (Xz v.tape k),(Xz v.tape k:Int)⟩:=by rw[Xv,if_pos hce,h.data]
 have hrl:(Q6 D v.commits).length<=200000:=by rw[<-h.data];exact h.room
 obtain⟨j,h1,h2,h3,_,h5,h6⟩:=aC hD hit (Xz v.tape k) (Xz v.tape k:Int) (by rw[<-h.data];exact hcn.1) (by omega) hrl;have hsj:v.synced<=j:=by refine R6 (D:=D) (cs:=v.commits) (k:=Xz v.tape k) (by omega) h3 ?_;have:=h.mark;omega
 have e:(if(Xz v.tape k:Int)>((Q6 D (v.commits.take j)).length:Int)then((Q6 D (v.commits.take j)).length:Int)else(Xz v.tape k:Int))=((Q6 D (v.commits.take j)).length:Int):=by split<;>omega
 refine⟨j,hsj,h1,?_,?_⟩;·rw[K9,hcT,h5,h6,e]
 ·intro hk0;by_cases hj:j=v.synced;(·exact hj);·exfalso;(have hn:(Xz v.tape k:Int)=v.tape.synced:=by rw[Xz,hk0];split<;>omega);have g1:=U9 D v.commits (v.synced+1) j (by omega);have g2:=Ag D v.commits v.synced (by omega);have hc:=(h.goes.at v.synced (by omega)).1;have g3:=(Bv hD hc).1;have hmk:=h.mark;rw[g2,tC]at g1;omega
theorem Zg.crash(hD:∀x,(D x).length=4)(h:Zg D v){k:Int}(hk:0<=k):Zg D (K9 D v k):=by
 obtain⟨j,h1,h2,h3,_⟩:=qR hD h hk;have hm:=h.many;have hle:=U9 D v.commits j v.commits.length h2;rw[sD,<-h.data]at hle;have hr:=h.room;rw[h3];exact L2 (h.goes.take j) (by rw[rX];omega) rfl (by omega)
theorem Zg.start(h:Zg D v):Zg D {v with up:=M}:=⟨h.goes,h.many,h.data,h.mark,h.room,h.turn,h.few,h.wait,h.once,h.tx,h.idle,fun hu=>by
 cases hu⟩
theorem Zg.act(hD:∀x,(D x).length=4)(h:Zg D v){a:Ac}(ha:Xt a):Zg D (YQ D v a):=by
 unfold YQ;by_cases h1:a.kind=1;·rw[if_pos h1];exact h.ask _ _
 ·rw[if_neg h1];by_cases h2:a.kind=2;(·rw[if_pos h2];split;(·exact h.sync);·exact h);·rw[if_neg h2];by_cases h3:a.kind=3;(·rw[if_pos h3];split;(·exact h.crash hD (ha.keep h3).1);·exact h);·rw[if_neg h3];exact h.start
theorem Nd(hD:∀x,(D x).length=4):∀(l:List Ac)(v:Sv),Zg D v->(∀a∈l,Xt a)->Zg D (l.foldl (YQ D) v)|[],_,h,_=>h|a::l,v,h,ha=>Nd hD l _ (h.act hD (ha a (by simp))) (fun x hx=>ha x (by simp[hx]))
theorem uU(hD:∀x,(D x).length=4)(l:List Ac)(h:∀a∈l,Xt a):Zg D (YV D l):=Nd hD l LL (Ax D) h
end
structure Same (v u : Sv) : Prop where
  up : u.up = v.up
  tape : u.tape = v.tape
  commits : u.commits = v.commits
  synced : u.synced = v.synced
  waits : u.waits = v.waits
  queue : u.queue = v.queue
theorem Same.rfl{v:Sv}:Same v v:=⟨by
 rfl,by
 rfl,by
 rfl,by
 rfl,by
 rfl,by
 rfl⟩
theorem Same.trans{v u w:Sv}(h:Same v u)(k:Same u w):Same v w:=⟨k.up.trans h.up,k.tape.trans h.tape,k.commits.trans h.commits,k.synced.trans h.synced,k.waits.trans h.waits,k.queue.trans h.queue⟩
structure fL (s : Nat) (v u : Sv) : Prop extends Same v u where
  out : ∃ r, u.out = v.out ++ [r] ∧ r.sess = (s : Int)
  begun : ∀ j, j ≠ s -> u.begun j = v.begun j
  txns : ∀ j, j ≠ s -> u.txns j = v.txns j
theorem Uq(v:Sv)(s:Nat)(r:Rp)(h:r.sess=(s:Int)):fL s v (ZJ v r):=⟨⟨rfl,rfl,rfl,rfl,rfl,rfl⟩,⟨r,rfl,h⟩,fun _ _=>rfl,fun _ _=>rfl⟩
theorem yV(v:Sv)(s:Nat)(r:Rp)(h:r.sess=(s:Int)):fL s v (ZJ (Xr v s) r):=⟨⟨rfl,rfl,rfl,rfl,rfl,rfl⟩,⟨r,rfl,h⟩,fun _ hj=>QT _ _ hj,fun _ _=>rfl⟩
theorem LP(v:Sv)(s:Nat)(t:Tx)(r:Rp)(h:r.sess=(s:Int)):fL s v (ZJ {v with txns:=Kx v.txns s t} r):=⟨⟨rfl,rfl,rfl,rfl,rfl,rfl⟩,⟨r,rfl,h⟩,fun _ _=>rfl,fun _ hj=>QT _ _ hj⟩
theorem D5(v:Sv)(s:Nat)(x:Rd)(o:Rp)(h:o.sess=(s:Int)):fL s v (KM v s x o):=by
 unfold KM;split;·exact LP v s _ _ h
 ·exact Uq v s _ rfl
theorem WZ(v:Sv)(s:Nat)(w:Ze):fL s v (Ua v s w):=by
 unfold Ua;split;·exact LP v s _ _ rfl
 ·exact Uq v s _ rfl
theorem Oq(v:Sv)(s:Nat)(r:Rq):fL s v (Gv v s r):=by
 unfold Gv;split;·exact WZ v s _
 ·split;(·unfold Et;split;(·exact Uq v s _ rfl);·exact D5 v s _ _ rfl);·unfold jV;split;(·exact D5 v s _ _ rfl);·exact Uq v s _ rfl
structure OZ (D : List UInt8 -> List UInt8) (s : Nat) (v u : Sv) : Prop where
  up : u.up = v.up
  tape : u.tape = zY D v.tape (Y8 v s)
  commits : u.commits = v.commits ++ [Y8 v s]
  synced : u.synced = v.synced
  waits : u.waits = Kx v.waits s M
  queue : u.queue = v.queue ++ [s]
  out : u.out = v.out
  begun : u.begun = Kx v.begun s N
  txns : u.txns = v.txns
  full : (v.txns s).writes.length ≠ 0
  room : v.queue.length ≠ 6 ∧ v.commits.length ≠ 300
  clash : UR (v.txns s) v.commits = N
  fits : Q4 (QH v v.commits.length) (v.txns s).writes = 0
  app : VH D v.tape (Y8 v s) = 0
theorem IP(D:List UInt8->List UInt8)(v:Sv)(s:Nat):fL s v (YN D v s)∨OZ D s v (YN D v s):=by
 unfold YN;by_cases h1:(v.txns s).writes.length=0;·rw[if_pos h1];exact .inl (yV v s _ rfl)
 ·rw[if_neg h1];by_cases h2:v.queue.length=6∨v.commits.length=300;(·rw[if_pos h2];exact .inl (Uq v s _ rfl));·rw[if_neg h2];by_cases h3:UR (v.txns s) v.commits=M;(·rw[if_pos h3];exact .inl (yV v s _ rfl));·rw[if_neg h3];by_cases h4:Q4 (QH v v.commits.length) (v.txns s).writes≠0;(·rw[if_pos h4];exact .inl (yV v s _ rfl));·rw[if_neg h4];by_cases h5:VH D v.tape (Y8 v s)≠0;(·rw[if_pos h5];exact .inl (yV v s _ rfl));·rw[if_neg h5];exact .inr ⟨rfl,rfl,rfl,rfl,rfl,rfl,rfl,rfl,rfl,h1,⟨fun e=>h2 (.inl e),fun e=>h2 (.inr e)⟩,by simpa using h3,sR h4,sR h5⟩
theorem gV(D:List UInt8->List UInt8)(v:Sv)(s:Nat)(r:Rq):fL s v (Jh D v s r)∨(r.kind=6∧QI v s r=N∧OZ D s v (Jh D v s r)):=by
 unfold Jh;by_cases h1:r.kind=8;·rw[if_pos h1];exact .inl (Uq v s _ rfl)
 ·rw[if_neg h1];by_cases h2:QI v s r=M;(·rw[if_pos h2];exact .inl (Uq v s _ rfl));·rw[if_neg h2];by_cases h3:r.kind=1;(·rw[if_pos h3];exact .inl ⟨⟨rfl,rfl,rfl,rfl,rfl,rfl⟩,⟨_,rfl,rfl⟩,fun _ hj=>QT _ _ hj,fun _ hj=>QT _ _ hj⟩);·rw[if_neg h3];by_cases h4:r.kind=7;(·rw[if_pos h4];exact .inl (yV v s _ rfl));·rw[if_neg h4];by_cases h5:ZK (v.synced:Int) (v.txns s).start=N;(·rw[if_pos h5];exact .inl (yV v s _ rfl));·rw[if_neg h5];by_cases h6:r.kind=6;(·rw[if_pos h6];rcases IP D v s with h|h;(·exact .inl h);·exact .inr ⟨h6,by simpa using h2,h⟩);·rw[if_neg h6];exact .inl (Oq v s r)
theorem Oi(D:List UInt8->List UInt8)(v:Sv)(s:Nat)(d:List UInt8):fL s v (Z5 D v s d)∨(v.up=M∧QK d=0∧(Qu d).kind=6∧v.waits s=N∧v.begun s=M∧OZ D s v (Z5 D v s d)):=by
 unfold Z5;by_cases h1:v.up=N;·rw[if_pos h1];exact .inl (Uq v s _ rfl)
 ·rw[if_neg h1];by_cases h2:QK d=0;(·rw[if_pos h2];rcases gV D v s (Qu d)with h|⟨h3,h4,h5⟩;(·exact .inl h);·right;unfold QI at h4;rw[if_neg (by omega)]at h4;simp only[rO,Bool.not_eq_false']at h4;exact⟨by simpa using h1,h2,h3,h4.1,h4.2,h5⟩);·rw[if_neg h2];exact .inl (Uq v s _ rfl)
theorem Fc:∀(q:List Nat)(n:Nat),(KR n q).length=q.length|[],_=>rfl|_::q,n=>by rw[KR,sN,sN,Fc q]
structure Gr where
  kind : Int
  sess : Int
  name : Int
  key : Int
  value : Int
def kT:Gr:=⟨0,0,0,0,0⟩
def Jf(n:Int)(many:Nat):Nat:=if n<0then((-(n+1))%(many:Int)).toNat else(n%(many:Int)).toNat
theorem VZ(n:Int){many:Nat}(h:0<many):Jf n many<many:=by
 unfold Jf;split;·have b0:=oD (-(n+1)) (show(many:Int)≠0 by omega);have b1:=pP (-(n+1)) (show(0:Int)<many by omega);omega
 ·have b0:=oD n (show(many:Int)≠0 by omega);have b1:=pP n (show(0:Int)<many by omega);omega
def lN(n:Int):List UInt8:=[sS (97+Jf n 3)]
def lL(n:Int):List UInt8:=[sS (107+Jf n 5)]
def mB(n:Int):List UInt8:=[sS (Jf n 50)]
def FJ(k:Nat)(a b c d:List UInt8):Rq:=if k<4then⟨1,[],[],[],[]⟩else if k<7then⟨2,a,b,[],[]⟩else if k=7then⟨3,a,b,c,[]⟩else if k<12then⟨4,a,b,[],d⟩else if k=12then⟨5,a,b,[],[]⟩else if k<17then⟨6,[],[],[],[]⟩else if k=17then⟨7,[],[],[],[]⟩else⟨8,a,b,[],[]⟩
def EH(g:Gr):Rq:=FJ (Jf g.kind 20) (lN g.name) (lL g.key) (lL g.value) (mB g.value)
theorem fG(k:Nat){a b c d:List UInt8}(ha:a.length=1)(hb:b.length=1)(hc:c.length=1)(hd:d.length=1):YS (FJ k a b c d):=by
 unfold FJ;repeat' split
 all_goals(refine⟨⟨?_,?_⟩,?_,?_,?_,?_,?_,?_,?_,?_⟩<;>simp[QW, *])
theorem L6(g:Gr):YS (EH g):=fG _ rfl rfl rfl rfl
def EB(g:Gr):Ac:=if Jf g.kind 26=20∨Jf g.kind 26=21∨Jf g.kind 26=22then⟨2,0,0,[]⟩else if Jf g.kind 26=23then⟨3,0,(Jf g.value 80:Int),[]⟩else if Jf g.kind 26=24then⟨4,0,0,[]⟩else if Jf g.kind 26=25then⟨1,(Jf g.sess 8:Int),0,[sS (r8.wrap g.value).toNat,sS (r8.wrap g.key).toNat]⟩else⟨1,(Jf g.sess 8:Int),0,Kd (EH g)⟩
def Yo(l:List Gr)(n:Nat):List Ac:=(l.take n).map EB
theorem L8{r:Rq}(h:YS r):Kd r=KN r:=by
 rw[Kd,if_pos ((Ym r).2 h)]
theorem cX{r:Rq}(h:YS r):(Kd r).length<=78:=by
 rw[L8 h];exact(uH h).1
theorem Oo{s:Int}{d:List UInt8}(h0:0<=s)(h1:s<=7)(hd:d.length<=4000):Xt ⟨1,s,0,d⟩:=by
 refine⟨⟨by simp,by simp⟩,fun _=>⟨h0,h1⟩,fun h=>by simp at h,hd,fun h=>by simp at h,fun _=>rfl,fun h=>by simp at h⟩
theorem fJ:Xt ⟨2,0,0,[]⟩:=⟨⟨by
 simp,by
 simp⟩,fun h=>by
 simp at h,fun h=>by
 simp at h,by
 simp,fun _=>rfl,fun _=>rfl,fun _=>rfl⟩
theorem bM:Xt ⟨4,0,0,[]⟩:=⟨⟨by
 simp,by
 simp⟩,fun h=>by
 simp at h,fun h=>by
 simp at h,by
 simp,fun _=>rfl,fun _=>rfl,fun _=>rfl⟩
theorem Oj{k:Int}(h0:0<=k)(h1:k<=200000):Xt ⟨3,0,k,[]⟩:=⟨⟨by
 simp,by
 simp⟩,fun h=>by
 simp at h,fun _=>⟨h0,h1⟩,by
 simp,fun _=>rfl,fun h=>by
 simp at h,fun _=>rfl⟩
theorem fZ(g:Gr):Xt (EB g):=by
 have h8:=VZ g.sess (many:=8) (by decide);have h80:=VZ g.value (many:=80) (by decide);have hr:=cX (L6 g);unfold EB;split;·exact fJ
 ·split;(·exact Oj (by omega) (by omega));·split;(·exact bM);·split;(·exact Oo (by omega) (by omega) (by simp));·exact Oo (by omega) (by omega) (by omega)
theorem Rn(l:List Gr)(n:Nat):∀a∈Yo l n,Xt a:=fun a ha=>by
 obtain⟨g,_,rfl⟩:=List.mem_map.1 ha;exact fZ g
structure UI (l : FL) : Prop where
  many : l.length * 48 <= 140737488355328
  each : ∀ i, i < l.length -> (l.getD i ([], [])).1.length <= 140737488355328 ∧ uF (l.getD i ([], [])).2
theorem UI.len{l:FL}(h:UI l):l.length<=140737488355328:=by
 have:=h.many;omega
theorem Xq.fits{l:FL}(h:Xq l):UI l:=by
 refine⟨by have:=h.room;omega,fun i hi=>?_⟩;have:=h.tens l[i] (sO hi);rw[show l[i]=l.getD i ([],[])by simp[hi]]at this;exact⟨by omega,this.2.2.fits⟩
def D9(w:F)(b o:Nat)(t:Tn):Prop:=∃vn vp,w.cell? ⟨b,o,G⟩=I vn∧w.cell? ⟨b,o+1,G⟩=I vp∧Qe w vn t.1∧Qr w vp t.2
theorem D9.grown{w w':F}{b o:Nat}{t:Tn}(h:D9 w b o t)(hg:L w w' G):D9 w' b o t:=by
 obtain⟨vn,vp,c1,c2,h1,h2⟩:=h;exact⟨vn,vp,hg.cell c1 (by simp),hg.cell c2 (by simp),h1.grown hg,h2.grown hg⟩
def Zx(w:F)(v:H)(l:FL):Prop:=∃a cap,v=J a l.length cap∧l.length<=cap∧((l=[]∧(a=G->cap=0))∨∃b o,a=I ⟨b,o,G⟩∧∀i,i<l.length->D9 w b (o+i*2) (l.getD i ([],[])))
theorem qV(w:F):Zx w (J G 0 0) []:=⟨G,0,rfl,sB _,.inl ⟨rfl,fun _=>rfl⟩⟩
theorem Zx.grown{w w':F}{v:H}{l:FL}(h:Zx w v l)(hg:L w w' G):Zx w' v l:=by
 obtain⟨a,cap,rfl,hc,h⟩:=h;refine⟨a,cap,rfl,hc,?_⟩;rcases h with h|⟨b,o,rfl,h⟩;·exact .inl h
 ·exact .inr ⟨b,o,rfl,fun i hi=>(h i hi).grown hg⟩
theorem Zx.shape{w:F}{v:H}{l:FL}(h:Zx w v l):∃a cap,v=J a l.length cap:=by
 obtain⟨a,cap,rfl,_⟩:=h;exact⟨a,cap,rfl⟩
theorem Zx.at{w:F}{a:Option rC}{n cap:Nat}{l:FL}(h:Zx w (J a n cap) l)(i:Nat)(hi:i<l.length):∃b o,a=I ⟨b,o,G⟩∧D9 w b (o+i*2) (l.getD i ([],[])):=by
 obtain⟨a',cap',e,hc,h⟩:=h;simp only[tH]at e;obtain⟨rfl,rfl,rfl⟩:=e;rcases h with⟨rfl,_⟩|⟨b,o,rfl,h⟩;·simp at hi
 ·exact⟨b,o,rfl,h i hi⟩
theorem gG:(123:Nat)≠5:=by
 decide
theorem gC:(123:Nat)≠42:=by
 decide
def Zz(base:Nat)(w:F)(v:H)(l:FL):Prop:=∃vs:List (H×H),vs.length=l.length∧w.ownsRow base 123 2 v l.length (flat vs)∧∀i,i<l.length->Qi 0 w (vs.getD i (sI,sI)).1 (l.getD i ([],[])).1∧QN 0 w (vs.getD i (sI,sI)).2 (l.getD i ([],[])).2
theorem yK(base:Nat)(w:F):Zz base w (J G 0 0) []:=⟨[],rfl,sK _ _ _ _,fun i hi=>by
 simp at hi⟩
theorem Zz.row{base:Nat}{w:F}{v:H}{l:FL}(h:Zz base w v l):v.ownBlock=G∨∃g cur t fz,v.ownBlock=I g∧base<=g∧w.heap[g]?=I (S cur t fz)∧t≠5∧t≠42:=by
 obtain⟨vs,_,h,_⟩:=h;rcases h.2with⟨rfl,_⟩|⟨g,cap,cur,rfl,hb,hg,_⟩;·exact .inl rfl
 ·exact .inr ⟨g,cur,_,_,rfl,hb,hg,gG,gC⟩
theorem Zz.row0{base:Nat}{w:F}{v:H}{l:FL}(h:Zz base w v l):v.ownBlock=G∨∃g cur t fz,v.ownBlock=I g∧0<=g∧w.heap[g]?=I (S cur t fz)∧t≠5∧t≠42:=by
 rcases h.row with h|⟨g,cur,t,fz,h1,_,h3⟩;·exact .inl h
 ·exact .inr ⟨g,cur,t,fz,h1,tR _,h3⟩
theorem iP{base:Nat}{w:F}{r:Option Nat}(h:r=G∨∃g cur t fz,r=I g∧base<=g∧w.heap[g]?=I (S cur t fz)∧t≠5∧t≠42):r=G∨∃g cur t fz,r=I g∧base<=g∧w.heap[g]?=I (S cur t fz)∧t≠5:=by
 rcases h with h|⟨g,cur,t,fz,h1,h2,h3,h4,_⟩;·exact .inl h
 ·exact .inr ⟨g,cur,t,fz,h1,h2,h3,h4⟩
theorem Zz.lt{base:Nat}{w:F}{v:H}{l:FL}(h:Zz base w v l):∀k,v.ownBlock=I k->base<=k∧k<w.heap.size:=by
 obtain⟨vs,_,h,_⟩:=h;exact sF h
theorem Zz.grownNone{base:Nat}{w w':F}{v:H}{l:FL}(h:Zz base w v l)(hg:L w w' G):Zz base w' v l:=by
 obtain⟨vs,h1,h2,h3⟩:=h;refine⟨vs,h1,tU h2 hg ?_,fun i hi=>⟨((h3 i hi).1).keptT hg (.inl rfl),((h3 i hi).2).kept hg (.inl rfl)⟩⟩;cases hv:v.ownBlock with|none=>exact .inl rfl|some k=>exact .inr (by simp)
theorem Zz.alloc{base:Nat}{w:F}{v:H}{l:FL}(h:Zz base w v l)(o:Obj):Zz base (w.alloc o) v l:=h.grownNone (sL _ _ _)
theorem Zz.shape{base:Nat}{w:F}{v:H}{l:FL}(h:Zz base w v l):∃a cap,v=J a l.length cap:=by
 obtain⟨vs,_,h,_⟩:=h;rcases h.2with⟨rfl,h0⟩|⟨g,cap,cur,rfl,_⟩;·exact⟨G,0,by rw[h0]⟩
 ·exact⟨_,cap,rfl⟩
theorem Zz.cells{base:Nat}{w:F}{g n cap:Nat}{vs:List (H×H)}{l:FL}(hr:w.ownsRow base 123 2 (J (I ⟨g,0,G⟩) n cap) l.length (flat vs)):∀j u,(flat vs)[j]?=I u->w.cell? ⟨g,j,G⟩=I u:=by
 intro j u hj;rcases hr.2with⟨e,_⟩|⟨g',cap',cur,e,hb,hg,hn,hm,hs,ht⟩;·cases e
 ·simp only[tH,tA,rK]at e;obtain⟨⟨rfl,_⟩,_,_⟩:=e;(have hlt:j<l.length*2:=by have:=(sH.1 hj).1;rw[hr.1]at this;exact this);(have e2:(cur.toList.take (l.length*2))[j]?=(flat vs)[j]?:=by rw[ht]);rw[sC,if_pos hlt,hj]at e2;simp[tV,hg];simpa using e2
theorem Zz.list{base:Nat}{w:F}{v:H}{l:FL}(h:Zz base w v l):Zx w v l:=by
 obtain⟨vs,hl,hr,h3⟩:=h;have hr':=hr;rcases hr.2with⟨rfl,h0⟩|⟨g,cap,cur,rfl,hb,hg,hn,hm,hs,ht⟩;·have:l=[]:=tJ h0;subst this;exact qV w
 ·refine⟨_,cap,rfl,hn,.inr ⟨g,0,rfl,fun i hi=>?_⟩⟩;have hf:=xU vs i (by omega);refine⟨(vs.getD i (sI,sI)).1,(vs.getD i (sI,sI)).2,?_,?_,(h3 i hi).1.1,(h3 i hi).2.list⟩;(·have:=Zz.cells hr' _ _ hf.1;rw[sM];exact this);·have:=Zz.cells hr' _ _ hf.2;rw[sM];exact this
theorem T6{base:Nat}{w W w1:F}{v:H}{l:FL}(h:L w W G)(ho:Zz base W v l)(hb:w.heap.size<=base)(hg:L W w1 v.ownBlock):L w w1 G:=⟨hg.os.trans h.os,hg.tape.trans h.tape,hg.output.trans h.output,tQ h.size hg.size,fun i hi hn=>(hg.block i (tG hi h.size) (fun e=>by
 have:=(ho.lt i e.symm).1;omega)).trans (h.block i hi hn)⟩
theorem Ta:(O.info? 123).map (fun i=>(i.zero,i.size,i.bytes))=I (I (sQ #[J G 0 0,J G 0 0]),2,48):=by
 kernel_rfl
theorem kA{w:F}{o:rG}{a:Act}{K:Act->F->Prop}{Q:Exit->Act->F->Prop}(s x:rD)(ho:o.op=.call {callee:=.builtin .append,args:=#[s,x],argTypes:=#[31,31]})(base:Nat)(v:H)(l:FL)(hs:a.eval s=v)(hown:Zz base w v l)(vn vp:H)(t:Tn)(hk:Qi 0 w vn t.1)(hv:QN 0 w vp t.2)(nb:Nat)(hb:w.heap[nb]?=I (S #[vn,vp] 123))(hx:a.eval x=J (I ⟨nb,0,G⟩) 1 1)(hl:(l.length+1)*48<=140737488355328)(hbase:base<=w.heap.size)(h:∀v' w',Zz base w' v' (l++[t])->L w w' v.ownBlock->K (a.put o.dst v') w'):o.wp O a w K Q:=by
 obtain⟨i0,hi,hz0,hz1,hz2⟩:=rV Ta;have hrow:=hown.row0;obtain⟨vs,hvl,hr,hp⟩:=hown;refine wp_append_lies w s x 31 ho base 123 i0 (sQ #[J G 0 0,J G 0 0]) 2 48 Tryz.underlying31 hi hz0 hz1 hz2 rfl (by decide) v l.length (flat vs) hs hr ⟨nb,0,G⟩ 1 1 (flat [(vn,vp)]) hx rfl (sY (cs:=#[vn,vp]) hb) ?_ (by omega) (by unfold pG;omega) hl hbase _ rfl ?_;·intro u hu;simp only[flat,tN,rB,tL,tK,tM,or_false]at hu;rcases hu with rfl|rfl;(·exact Zv hk);·exact yG hv
 ·intro g cap w' h1 h2 _ _;refine h _ w' ⟨vs++[(vn,vp)],by simp[hvl],?_,?_⟩ h2;(·rw[J7,tC];exact h1);·intro i hi;rw[Ju,Ju,hvl];by_cases hil:i<l.length;(·rw[if_pos hil,if_pos hil];exact⟨(hp i hil).1.keptT h2 (iP hrow),(hp i hil).2.kept h2 hrow⟩);·rw[if_neg hil,if_neg hil];(obtain rfl:i=l.length:=by simp at hi;omega);rw[oF];exact⟨hk.keptT h2 (iP hrow),hv.kept h2 hrow⟩
theorem FZ{w:F}{ops:Array rG}{o:rG}{a:Act}{K:Act->F->Prop}{Q:Exit->Act->F->Prop}{E:Prop}(hgd:o.guard=G)(s x:rD)(ho:o.op=.call {callee:=.builtin .append,args:=#[s,x],argTypes:=#[31,31]})(base:Nat)(v:H)(l:FL)(hs:a.eval s=v)(hown:Zz base w v l)(vn vp:H)(t:Tn)(hk:Qi 0 w vn t.1)(hv:QN 0 w vp t.2)(nb:Nat)(hb:w.heap[nb]?=I (S #[vn,vp] 123))(hx:a.eval x=J (I ⟨nb,0,G⟩) 1 1)(hl:(l.length+1)*48<=140737488355328)(hbase:base<=w.heap.size)(h:∀v' w',Zz base w' v' (l++[t])->L w w' v.ownBlock->K (a.put o.dst v') w'):if sE o (pA ops a.tmps)=M then Oper.wp O o a w K Q else E:=by
 have hw:sE o (pA ops a.tmps)=M:=by simp[sE,hgd]
 rw[if_pos hw];exact kA s x ho base v l hs hown vn vp t hk hv nb hb hx hl hbase h
theorem uS{w:F}{ops:Array rG}{rest:List rG}{o:rG}{a:Act}{Q:Exit->Act->F->Prop}(hgd:o.guard=G)(s x:rD)(ho:o.op=.call {callee:=.builtin .append,args:=#[s,x],argTypes:=#[31,31]})(base:Nat)(v:H)(l:FL)(hs:a.eval s=v)(hown:Zz base w v l)(vn vp:H)(t:Tn)(hk:Qi 0 w vn t.1)(hv:QN 0 w vp t.2)(nb:Nat)(hb:w.heap[nb]?=I (S #[vn,vp] 123))(hx:a.eval x=J (I ⟨nb,0,G⟩) 1 1)(hl:(l.length+1)*48<=140737488355328)(hbase:base<=w.heap.size)(h:∀v' w',Zz base w' v' (l++[t])->L w w' v.ownBlock->wpList O ops Q rest (a.put o.dst v') w'):wpList O ops Q (o::rest) a w:=wpList_plain hgd fun _ hK=>kA s x ho base v l hs hown vn vp t hk hv nb hb hx hl hbase fun v' w' h1 h2=>hK _ _ (h v' w' h1 h2)
theorem Qk{w:F}{b i:Nat}{cs:Array H}{t:tY}{fz:Nat×Nat}{u:H}(h:w.heap[b]?=I (S cs t fz)):(tD w ⟨b,i,G⟩ u).heap[b]?=I (S (cs.setIfInBounds i u) t fz):=by
 simp only[tD,tW,if_true,h,rN];rfl
theorem Qy{w:F}{b c i:Nat}{o:Obj}{u:H}(h:w.heap[b]?=I o)(hne:b≠c):(tD w ⟨c,i,G⟩ u).heap[b]?=I o:=by
 simp only[tD,tW];rw[if_neg (fun e=>hne e.symm)];exact h
theorem YX(w:F)(b i:Nat)(u:H):L w (tD w ⟨b,i,G⟩ u) (I b):=Qh (Qb w _) i u
theorem Qi.setOther{base:Nat}{w:F}{v:H}{bs:List UInt8}(h:Qi base w v bs){b i:Nat}{cs:Array H}{t:tY}{fz:Nat×Nat}(hb:w.heap[b]?=I (S cs t fz))(ht:t≠5)(hbb:base<=b)(u:H):Qi base (tD w ⟨b,i,G⟩ u) v bs:=h.keptT (YX w b i u) (.inr ⟨b,cs,t,fz,rfl,hbb,hb,ht⟩)
def Q5(rb pb:Nat)(w:F)(v:H)(l:List Ze):Prop:=∃us:List WV,us.map (·.1)=l∧w.ownsRow rb 97 4 v l.length (Jg us)∧∀x∈us,Qi pb w x.2.1 x.1.name∧Qi pb w x.2.2.1 x.1.key∧Qi pb w x.2.2.2 x.1.value
theorem XA(rb pb:Nat)(w:F):Q5 rb pb w (J G 0 0) []:=⟨[],rfl,sK _ _ _ _,fun x hx=>by
 simp at hx⟩
theorem Q5.row{rb pb:Nat}{w:F}{v:H}{l:List Ze}(h:Q5 rb pb w v l):v.ownBlock=G∨∃g cur fz,v.ownBlock=I g∧rb<=g∧w.heap[g]?=I (S cur 97 fz):=by
 obtain⟨us,_,h,_⟩:=h;rcases h.2with⟨rfl,_⟩|⟨g,cap,cur,rfl,hb,hg,_⟩;·exact .inl rfl
 ·exact .inr ⟨g,cur,_,rfl,hb,hg⟩
theorem Q5.lt{rb pb:Nat}{w:F}{v:H}{l:List Ze}(h:Q5 rb pb w v l):∀k,v.ownBlock=I k->rb<=k∧k<w.heap.size:=by
 obtain⟨us,_,h,_⟩:=h;exact sF h
theorem Q5.ne{rb pb:Nat}{w:F}{v:H}{l:List Ze}(h:Q5 rb pb w v l){b:Nat}{cs:Array H}{t:tY}{fz:Nat×Nat}(hb:w.heap[b]?=I (S cs t fz))(ht:t≠97):v.ownBlock≠I b:=by
 intro e;rcases h.row with h0|⟨g,cur,fz2,h1,_,h2⟩;·rw[h0]at e;cases e
 ·rw[h1]at e;cases e;rw[hb]at h2;simp only[tA,tX]at h2;exact ht h2.2.1
theorem Q5.kept{rb pb:Nat}{w w':F}{v:H}{l:List Ze}(h:Q5 rb pb w v l){row:Option Nat}(hg:L w w' row)(hne:v.ownBlock=G∨v.ownBlock≠row)(hrow:row=G∨∃g cur t fz,row=I g∧pb<=g∧w.heap[g]?=I (S cur t fz)∧t≠5):Q5 rb pb w' v l:=by
 obtain⟨us,h1,h2,h3⟩:=h;exact⟨us,h1,tU h2 hg hne,fun x hx=>⟨(h3 x hx).1.keptT hg hrow,(h3 x hx).2.1.keptT hg hrow,(h3 x hx).2.2.keptT hg hrow⟩⟩
theorem Q5.grownNone{rb pb:Nat}{w w':F}{v:H}{l:List Ze}(h:Q5 rb pb w v l)(hg:L w w' G):Q5 rb pb w' v l:=h.kept hg (by
 cases hv:v.ownBlock with|none=>exact .inl rfl|some k=>exact .inr (by simp)) (.inl rfl)
theorem Q5.setOther{rb pb:Nat}{w:F}{v:H}{l:List Ze}(h:Q5 rb pb w v l){b i:Nat}{cs:Array H}{t:tY}{fz:Nat×Nat}(hb:w.heap[b]?=I (S cs t fz))(ht:t≠5)(ht2:t≠97)(hbb:pb<=b)(u:H):Q5 rb pb (tD w ⟨b,i,G⟩ u) v l:=h.kept (YX w b i u) (.inr (h.ne hb ht2)) (.inr ⟨b,cs,t,fz,rfl,hbb,hb,ht⟩)
theorem Q5.shape{rb pb:Nat}{w:F}{v:H}{l:List Ze}(h:Q5 rb pb w v l):∃a cap,v=J a l.length cap:=by
 obtain⟨us,_,h,_⟩:=h;rcases h.2with⟨rfl,h0⟩|⟨g,cap,cur,rfl,_⟩;·exact⟨G,0,by rw[h0]⟩
 ·exact⟨_,cap,rfl⟩
theorem Q5.any{rb pb:Nat}{w:F}{v:H}{l:List Ze}(h:Q5 rb pb w v l):∃a n cap,v=J a n cap:=by
 obtain⟨a,cap,e⟩:=h.shape;exact⟨a,_,cap,e⟩
theorem Q5.down{rb pb:Nat}{w:F}{v:H}{l:List Ze}(h:Q5 rb pb w v l)(rb':Nat)(hb:rb'<=rb):Q5 rb' pb w v l:=by
 obtain⟨us,h1,h2,h3⟩:=h;refine⟨us,h1,⟨h2.1,?_⟩,h3⟩;rcases h2.2with h|⟨g,cap,cur,e,hb2,rest⟩;·exact .inl h
 ·exact .inr ⟨g,cap,cur,e,tQ hb hb2,rest⟩
theorem Q5.writesB{rb pb:Nat}{w:F}{v:H}{l:List Ze}(h:Q5 rb pb w v l):Xp pb w v l:=by
 obtain⟨us,hl,hr,h3⟩:=h;rcases hr.2with⟨rfl,h0⟩|⟨g,cap,cur,rfl,hb,hg,hn,hm,hs,ht⟩;·have:l=[]:=tJ h0;rw[this];exact Ck pb w
 ·(have hcell:∀j u,(Jg us)[j]?=I u->w.cell? ⟨g,j,G⟩=I u:=by intro j u hj;(have hlt:j<l.length*4:=by have:=(sH.1 hj).1;rw[hr.1]at this;exact this);(have e2:(cur.toList.take (l.length*4))[j]?=(Jg us)[j]?:=by rw[ht]);rw[sC,if_pos hlt,hj]at e2;simp[tV,hg];simpa using e2);refine⟨_,cap,rfl,hn,.inr ⟨g,0,rfl,.inr ⟨_,_,hg⟩,fun i hi=>?_⟩⟩;obtain⟨e1,e2⟩:=Wo hl i hi;(have hlen:us.length=l.length:=by rw[<-hl];simp);obtain⟨c1,c2,c3,c4⟩:=Mh us i (by omega);have hp:=h3 _ e2;rw[e1]at c3 hp;rw[sM];exact⟨_,_,_,hcell _ _ c1,hcell _ _ c2,hcell _ _ c3,hcell _ _ c4,hp.1,hp.2.1,hp.2.2⟩
theorem Q5.list{rb pb:Nat}{w:F}{v:H}{l:List Ze}(h:Q5 rb pb w v l):QQ w v l:=h.writesB.list
theorem Gd{rb pb:Nat}{w W w1:F}{v:H}{l:List Ze}(h:L w W G)(ho:Q5 rb pb W v l)(hb:w.heap.size<=rb)(hg:L W w1 v.ownBlock):L w w1 G:=⟨hg.os.trans h.os,hg.tape.trans h.tape,hg.output.trans h.output,tQ h.size hg.size,fun i hi hn=>(hg.block i (tG hi h.size) (fun e=>by
 have:=(ho.lt i e.symm).1;omega)).trans (h.block i hi hn)⟩
def RI(w:F)(b o:Nat)(r:Rd):Prop:=∃vn vk vl,w.cell? ⟨b,o,G⟩=I vn∧w.cell? ⟨b,o+1,G⟩=I vk∧w.cell? ⟨b,o+2,G⟩=I (tP r.wide)∧w.cell? ⟨b,o+3,G⟩=I vl∧Qe w vn r.name∧Qe w vk r.key∧Qe w vl r.last
theorem RI.grown{w w':F}{b o:Nat}{r:Rd}(h:RI w b o r)(hg:L w w' G):RI w' b o r:=by
 obtain⟨vn,vk,vl,c1,c2,c3,c4,h1,h2,h3⟩:=h;exact⟨vn,vk,vl,hg.cell c1 (by simp),hg.cell c2 (by simp),hg.cell c3 (by simp),hg.cell c4 (by simp),h1.grown hg,h2.grown hg,h3.grown hg⟩
def Z9(w:F)(v:H)(l:List Rd):Prop:=∃a cap,v=J a l.length cap∧l.length<=cap∧((l=[]∧(a=G->cap=0))∨∃b o,a=I ⟨b,o,G⟩∧∀i,i<l.length->RI w b (o+i*4) (l.getD i Zf))
theorem Bm(w:F):Z9 w (J G 0 0) []:=⟨G,0,rfl,sB _,.inl ⟨rfl,fun _=>rfl⟩⟩
theorem Z9.shape{w:F}{v:H}{l:List Rd}(h:Z9 w v l):∃a cap,v=J a l.length cap:=by
 obtain⟨a,cap,rfl,_⟩:=h;exact⟨a,cap,rfl⟩
theorem Z9.grown{w w':F}{v:H}{l:List Rd}(h:Z9 w v l)(hg:L w w' G):Z9 w' v l:=by
 obtain⟨a,cap,rfl,hc,h⟩:=h;refine⟨a,cap,rfl,hc,?_⟩;rcases h with h|⟨b,o,rfl,h⟩;·exact .inl h
 ·exact .inr ⟨b,o,rfl,fun i hi=>(h i hi).grown hg⟩
theorem Z9.at{w:F}{a:Option rC}{n cap:Nat}{l:List Rd}(h:Z9 w (J a n cap) l)(i:Nat)(hi:i<l.length):∃b o,a=I ⟨b,o,G⟩∧RI w b (o+i*4) (l.getD i Zf):=by
 obtain⟨a',cap',e,hc,h⟩:=h;simp only[tH]at e;obtain⟨rfl,rfl,rfl⟩:=e;rcases h with⟨rfl,_⟩|⟨b,o,rfl,h⟩;·simp at hi
 ·exact⟨b,o,rfl,h i hi⟩
structure lJ (l : List Rd) : Prop where
  many : l.length * 80 <= 140737488355328
  each : ∀ i, i < l.length -> P8 (l.getD i Zf)
structure xO (t : Tx) : Prop where
  start : -9223372036854775808 <= t.start ∧ t.start <= 9223372036854775807
  reads : lJ t.reads
  writes : uJ t.writes
def G4(w:F)(v:H)(t:Tx):Prop:=∃vr vw,v=sQ #[Y tB t.start,vr,vw]∧Z9 w vr t.reads∧QQ w vw t.writes
theorem G4.grown{w w':F}{v:H}{t:Tx}(h:G4 w v t)(hg:L w w' G):G4 w' v t:=by
 obtain⟨vr,vw,rfl,h1,h2⟩:=h;exact⟨vr,vw,rfl,h1.grown hg,h2.grown hg⟩
theorem G4.agg{w:F}{v:H}{t:Tx}(h:G4 w v t):∃ra rc wa wc,v=sQ #[Y tB t.start,J ra t.reads.length rc,J wa t.writes.length wc]:=by
 obtain⟨vr,vw,rfl,h1,h2⟩:=h;obtain⟨ra,rc,rfl⟩:=h1.shape;obtain⟨wa,wc,rfl⟩:=h2.shape;exact⟨ra,rc,wa,wc,rfl⟩
theorem G4.parts{w:F}{t:Tx}{x y z:H}(h:G4 w (sQ #[x,y,z]) t):x=Y tB t.start∧Z9 w y t.reads∧QQ w z t.writes:=by
 obtain⟨vr,vw,e,h1,h2⟩:=h;simp only[Value.agg.injEq,Array.mk.injEq,List.cons.injEq,and_true]at e;obtain⟨rfl,rfl,rfl⟩:=e;exact⟨rfl,h1,h2⟩
theorem PG{r:Rd}(h:XH r=0):P8 r:=by
 obtain⟨h1,h2,h3⟩:=(EX r).1 h;refine⟨by omega,by omega,?_⟩;split at h3;·omega
 ·rw[h3];simp
abbrev RV:=Rd×H×H×H
def Af:RV:=(Zf,sI,sI,sI)
def GA(us:List RV):List H:=us.flatMap fun x=>[x.2.1,x.2.2.1,tP x.1.wide,x.2.2.2]
theorem Ms(a b:List RV):GA (a++b)=GA a++GA b:=by
 simp[GA]
theorem Nz:∀(us:List RV)(i:Nat),i<us.length->(GA us)[i*4]?=I (us.getD i Af).2.1∧(GA us)[i*4+1]?=I (us.getD i Af).2.2.1∧(GA us)[i*4+2]?=I (tP (us.getD i Af).1.wide)∧(GA us)[i*4+3]?=I (us.getD i Af).2.2.2|[],i,h=>by simp at h|x::us,0,_=>⟨rfl,rfl,rfl,rfl⟩|x::us,i+1,h=>by have:=Nz us i (by simpa using h);rw[show(i+1)*4=i*4+4by omega];exact this
theorem iT:(157:Nat)≠5:=by
 decide
theorem lA:(157:Nat)≠97:=by
 decide
def ZM(rb pb:Nat)(w:F)(v:H)(l:List Rd):Prop:=∃us:List RV,us.map (·.1)=l∧w.ownsRow rb 157 4 v l.length (GA us)∧∀x∈us,Qi pb w x.2.1 x.1.name∧Qi pb w x.2.2.1 x.1.key∧Qi pb w x.2.2.2 x.1.last
theorem UA(rb pb:Nat)(w:F):ZM rb pb w (J G 0 0) []:=⟨[],rfl,sK _ _ _ _,fun x hx=>by
 simp at hx⟩
theorem ZM.row{rb pb:Nat}{w:F}{v:H}{l:List Rd}(h:ZM rb pb w v l):v.ownBlock=G∨∃g cur fz,v.ownBlock=I g∧rb<=g∧w.heap[g]?=I (S cur 157 fz):=by
 obtain⟨us,_,h,_⟩:=h;rcases h.2with⟨rfl,_⟩|⟨g,cap,cur,rfl,hb,hg,_⟩;·exact .inl rfl
 ·exact .inr ⟨g,cur,_,rfl,hb,hg⟩
theorem ZM.lt{rb pb:Nat}{w:F}{v:H}{l:List Rd}(h:ZM rb pb w v l):∀k,v.ownBlock=I k->rb<=k∧k<w.heap.size:=by
 obtain⟨us,_,h,_⟩:=h;exact sF h
theorem ZM.ne{rb pb:Nat}{w:F}{v:H}{l:List Rd}(h:ZM rb pb w v l){b:Nat}{cs:Array H}{t:tY}{fz:Nat×Nat}(hb:w.heap[b]?=I (S cs t fz))(ht:t≠157):v.ownBlock≠I b:=by
 intro e;rcases h.row with h0|⟨g,cur,fz2,h1,_,h2⟩;·rw[h0]at e;cases e
 ·rw[h1]at e;cases e;rw[hb]at h2;simp only[tA,tX]at h2;exact ht h2.2.1
theorem ZM.kept{rb pb:Nat}{w w':F}{v:H}{l:List Rd}(h:ZM rb pb w v l){row:Option Nat}(hg:L w w' row)(hne:v.ownBlock=G∨v.ownBlock≠row)(hrow:row=G∨∃g cur t fz,row=I g∧pb<=g∧w.heap[g]?=I (S cur t fz)∧t≠5):ZM rb pb w' v l:=by
 obtain⟨us,h1,h2,h3⟩:=h;exact⟨us,h1,tU h2 hg hne,fun x hx=>⟨(h3 x hx).1.keptT hg hrow,(h3 x hx).2.1.keptT hg hrow,(h3 x hx).2.2.keptT hg hrow⟩⟩
theorem ZM.grownNone{rb pb:Nat}{w w':F}{v:H}{l:List Rd}(h:ZM rb pb w v l)(hg:L w w' G):ZM rb pb w' v l:=h.kept hg (by
 cases hv:v.ownBlock with|none=>exact .inl rfl|some k=>exact .inr (by simp)) (.inl rfl)
theorem ZM.setOther{rb pb:Nat}{w:F}{v:H}{l:List Rd}(h:ZM rb pb w v l){b i:Nat}{cs:Array H}{t:tY}{fz:Nat×Nat}(hb:w.heap[b]?=I (S cs t fz))(ht:t≠5)(ht2:t≠157)(hbb:pb<=b)(u:H):ZM rb pb (tD w ⟨b,i,G⟩ u) v l:=h.kept (YX w b i u) (.inr (h.ne hb ht2)) (.inr ⟨b,cs,t,fz,rfl,hbb,hb,ht⟩)
theorem ZM.down{rb pb:Nat}{w:F}{v:H}{l:List Rd}(h:ZM rb pb w v l)(rb':Nat)(hb:rb'<=rb):ZM rb' pb w v l:=by
 obtain⟨us,h1,h2,h3⟩:=h;refine⟨us,h1,⟨h2.1,?_⟩,h3⟩;rcases h2.2with h|⟨g,cap,cur,e,hb2,rest⟩;·exact .inl h
 ·exact .inr ⟨g,cap,cur,e,tQ hb hb2,rest⟩
theorem ZM.shape{rb pb:Nat}{w:F}{v:H}{l:List Rd}(h:ZM rb pb w v l):∃a cap,v=J a l.length cap:=by
 obtain⟨us,_,h,_⟩:=h;rcases h.2with⟨rfl,h0⟩|⟨g,cap,cur,rfl,_⟩;·exact⟨G,0,by rw[h0]⟩
 ·exact⟨_,cap,rfl⟩
theorem Ir{us:List RV}{l:List Rd}(h:us.map (·.1)=l)(i:Nat)(hi:i<l.length):(us.getD i Af).1=l.getD i Zf∧us.getD i Af∈us:=by
 subst h;have hi':i<us.length:=by simpa using hi
 refine⟨by simp[hi'],?_⟩;rw[show us.getD i Af=us[i]by simp[hi']];exact sO hi'
theorem ZM.list{rb pb:Nat}{w:F}{v:H}{l:List Rd}(h:ZM rb pb w v l):Z9 w v l:=by
 obtain⟨us,hl,hr,h3⟩:=h;rcases hr.2with⟨rfl,h0⟩|⟨g,cap,cur,rfl,hb,hg,hn,hm,hs,ht⟩;·have:l=[]:=tJ h0;rw[this];exact Bm w
 ·(have hcell:∀j u,(GA us)[j]?=I u->w.cell? ⟨g,j,G⟩=I u:=by intro j u hj;(have hlt:j<l.length*4:=by have:=(sH.1 hj).1;rw[hr.1]at this;exact this);(have e2:(cur.toList.take (l.length*4))[j]?=(GA us)[j]?:=by rw[ht]);rw[sC,if_pos hlt,hj]at e2;simp[tV,hg];simpa using e2);refine⟨_,cap,rfl,hn,.inr ⟨g,0,rfl,fun i hi=>?_⟩⟩;obtain⟨e1,e2⟩:=Ir hl i hi;(have hlen:us.length=l.length:=by rw[<-hl];simp);obtain⟨c1,c2,c3,c4⟩:=Nz us i (by omega);have hp:=h3 _ e2;rw[e1]at c3 hp;rw[sM];exact⟨_,_,_,hcell _ _ c1,hcell _ _ c2,hcell _ _ c3,hcell _ _ c4,hp.1.1,hp.2.1.1,hp.2.2.1⟩
theorem TU{rb pb:Nat}{w W w1:F}{v:H}{l:List Rd}(h:L w W G)(ho:ZM rb pb W v l)(hb:w.heap.size<=rb)(hg:L W w1 v.ownBlock):L w w1 G:=⟨hg.os.trans h.os,hg.tape.trans h.tape,hg.output.trans h.output,tQ h.size hg.size,fun i hi hn=>(hg.block i (tG hi h.size) (fun e=>by
 have:=(ho.lt i e.symm).1;omega)).trans (h.block i hi hn)⟩
theorem iR:(O.info? 157).map (fun i=>(i.zero,i.size,i.bytes))=I (I (sQ #[J G 0 0,J G 0 0,tP N,J G 0 0]),4,80):=by
 kernel_rfl
def GY(w:F)(v:H)(t:Tx):Prop:=∃vr vw,v=sQ #[Y tB t.start,vr,vw]∧ZM 0 0 w vr t.reads∧Q5 0 0 w vw t.writes
theorem GY.is{w:F}{v:H}{t:Tx}(h:GY w v t):G4 w v t:=by
 obtain⟨vr,vw,rfl,h1,h2⟩:=h;exact⟨vr,vw,rfl,h1.list,h2.list⟩
theorem xM(w:F):GY w (sQ #[Y tB 0,J G 0 0,J G 0 0]) FN:=⟨_,_,rfl,UA 0 0 w,XA 0 0 w⟩
def Dh(w:F)(b o:Nat)(s:uC):Prop:=∃vo,w.cell? ⟨b,o,G⟩=I (Y tB s.bit)∧w.cell? ⟨b,o+1,G⟩=I (tP s.right)∧w.cell? ⟨b,o+2,G⟩=I vo∧Qe w vo s.other
theorem Dh.grown{w w':F}{b o:Nat}{s:uC}(h:Dh w b o s)(hg:L w w' G):Dh w' b o s:=by
 obtain⟨vo,c1,c2,c3,h1⟩:=h;exact⟨vo,hg.cell c1 (by simp),hg.cell c2 (by simp),hg.cell c3 (by simp),h1.grown hg⟩
def Gw(w:F)(v:H)(l:List uC):Prop:=∃a cap,v=J a l.length cap∧l.length<=cap∧((l=[]∧(a=G->cap=0))∨∃b o,a=I ⟨b,o,G⟩∧∀i,i<l.length->Dh w b (o+i*3) (l.getD i Lz))
theorem Bg(w:F):Gw w (J G 0 0) []:=⟨G,0,rfl,sB _,.inl ⟨rfl,fun _=>rfl⟩⟩
theorem Gw.grown{w w':F}{v:H}{l:List uC}(h:Gw w v l)(hg:L w w' G):Gw w' v l:=by
 obtain⟨a,cap,rfl,hc,h⟩:=h;refine⟨a,cap,rfl,hc,?_⟩;rcases h with h|⟨b,o,rfl,h⟩;·exact .inl h
 ·exact .inr ⟨b,o,rfl,fun i hi=>(h i hi).grown hg⟩
theorem Gw.shape{w:F}{v:H}{l:List uC}(h:Gw w v l):∃a cap,v=J a l.length cap:=by
 obtain⟨a,cap,rfl,_⟩:=h;exact⟨a,cap,rfl⟩
def KW(w:F)(v:H)(p:Cm):Prop:=∃vs vk vv,v=sQ #[tP p.empty,vs,vk,vv]∧Gw w vs p.steps∧Qe w vk p.pair.1∧Qe w vv p.pair.2
theorem KW.grown{w w':F}{v:H}{p:Cm}(h:KW w v p)(hg:L w w' G):KW w' v p:=by
 obtain⟨vs,vk,vv,rfl,h0,h1,h2⟩:=h;exact⟨vs,vk,vv,rfl,h0.grown hg,h1.grown hg,h2.grown hg⟩
theorem UM{w:F}{b:Nat}{x y:H}{t:tY}(h:w.heap[b]?=I (S #[x,y] t)):w.cell? ⟨b,0,G⟩=I x∧w.cell? ⟨b,1,G⟩=I y∧w.frozen? ⟨b,0,G⟩=N∧w.frozen? ⟨b,1,G⟩=N:=by
 refine⟨?_,?_,?_,?_⟩<;>simp[tV,rW,h]
theorem dM{w:F}{b:Nat}{x y:H}{t:tY}(h:w.heap[b]?=I (S #[x,y] t))(u v:H):((tD w ⟨b,0,G⟩ u).setCell ⟨b,1,G⟩ v).heap[b]?=I (S #[u,v] t):=by
 have h0:(tD w ⟨b,0,G⟩ u).heap[b]?=I (S #[u,y] t):=by simp only[tD,tW,if_true,h,rN];first|rfl|simp
 rw[tD,tW,if_pos rfl,h0];first|rfl|simp
theorem Gs{w:F}{b:Nat}{x y z:H}{t:tY}(h:w.heap[b]?=I (S #[x,y,z] t)):(w.cell? ⟨b,0,G⟩=I x∧w.cell? ⟨b,1,G⟩=I y∧w.cell? ⟨b,2,G⟩=I z)∧w.frozen? ⟨b,0,G⟩=N∧w.frozen? ⟨b,1,G⟩=N∧w.frozen? ⟨b,2,G⟩=N:=by
 refine⟨⟨?_,?_,?_⟩,?_,?_,?_⟩<;>simp[tV,rW,h]
theorem No{w:F}{b:Nat}{x y z:H}{t:tY}(h:w.heap[b]?=I (S #[x,y,z] t))(x' y' z':H):(((tD w ⟨b,0,G⟩ x').setCell ⟨b,1,G⟩ y').setCell ⟨b,2,G⟩ z').heap[b]?=I (S #[x',y',z'] t):=by
 have h0:(tD w ⟨b,0,G⟩ x').heap[b]?=I (S #[x',y,z] t):=by simp only[tD,tW,if_true,h,rN];first|rfl|simp
 have h1:((tD w ⟨b,0,G⟩ x').setCell ⟨b,1,G⟩ y').heap[b]?=I (S #[x',y',z] t):=by rw[tD,tW,if_pos rfl,h0];first|rfl|simp
 rw[tD,tW,if_pos rfl,h1];first|rfl|simp
theorem Fl{w w1:F}(h:L w w1 G)(b:Nat)(hb:w.heap.size<=b)(x y z:H):L w (((tD w1 ⟨b,0,G⟩ x).setCell ⟨b,1,G⟩ y).setCell ⟨b,2,G⟩ z) G:=Qd (Qd (Qd h _ hb _ _) _ hb _ _) _ hb _ _
def iI(w:F)(b:Nat):Prop:=∃cur t fz,w.heap[b]?=I (S cur t fz)∧(t=5∨∃q,cur[0]?=I (Y r8 q))
def jM(w:F)(b:Nat):Prop:=∃cur t fz,w.heap[b]?=I (S cur t fz)∧t≠5∧∀q,cur[0]?≠I (Y r8 q)
theorem iI.ne{w:F}{a b:Nat}(h:iI w a)(h':jM w b):a≠b:=by
 rintro rfl;obtain⟨cur,t,fz,h1,h2⟩:=h;obtain⟨cur',t',fz',h3,h4,h5⟩:=h';rw[h1]at h3;simp only[tA,tX]at h3;obtain⟨rfl,rfl,_⟩:=h3;rcases h2 with h2|⟨q,h2⟩;·exact h4 h2
 ·exact h5 q h2
theorem jM.grown{w w':F}{b:Nat}(h:jM w b)(hg:L w w' G):jM w' b:=by
 obtain⟨cur,t,fz,h1,h2⟩:=h;exact⟨cur,t,fz,by rw[hg.block b (tI.1 h1).1 (by simp)];exact h1,h2⟩
theorem jM.set{w:F}{c:Nat}(h:jM w c)(i:Nat)(u:H)(hu:∀q,u≠Y r8 q):jM (tD w ⟨c,i,G⟩ u) c:=by
 obtain⟨cur,t,fz,h1,h2,h3⟩:=h;refine⟨cur.setIfInBounds i u,t,fz,?_,h2,fun q hq=>?_⟩;·simp only[tD,tW,if_true,h1,rN];first|rfl|simp
 ·rw[Array.getElem?_setIfInBounds]at hq;split at hq;(·split at hq;(·simp at hq;exact hu q hq);·cases hq);·exact h3 q hq
theorem Dn{w:F}{c:Nat}{x:H}{xs:List H}{t:tY}{fz:Nat×Nat}(h:w.heap[c]?=I (S ⟨x::xs⟩ t fz))(ht:t≠5)(hx:∀q,x≠Y r8 q):jM w c:=⟨_,t,fz,h,ht,fun q hq=>by
 simp at hq;exact hx q hq⟩
def XY(w:F)(v:H)(bs:List UInt8):Prop:=Qe w v bs∧(bs=[]∨∃b,v.ownBlock=I b∧b<w.heap.size∧iI w b)
theorem iZ:(230:Nat)≠5:=by
 decide
theorem UJ(w:F):XY w (J G 0 0) []:=⟨Qx _,.inl rfl⟩
theorem Q9.partS{base':Nat}{w:F}{v:H}{bs:List UInt8}(h:Q9 base' w v bs):XY w v bs:=by
 refine⟨h.slice,?_⟩;rcases h.2with⟨rfl,h0⟩|⟨g,cap,cur,rfl,hb,hg,_⟩;·exact .inl (tJ h0)
 ·exact .inr ⟨g,rfl,(tI.1 hg).1,cur,_,_,hg,.inl rfl⟩
theorem ZI.partS{w:F}{nb:Nat}{bs:List UInt8}(h:ZI w nb bs)(hl:bs.length=32):XY w (J (I ⟨nb,0,G⟩) 32 32) bs:=by
 refine⟨h.slice32 hl,.inr ⟨nb,rfl,VK (h.cell 0 (by omega)),?_⟩⟩;have hc:=h.cell 0 (by omega);obtain⟨t,hb⟩:=h;refine⟨_,t,_,hb,.inr ⟨((bs.getD 0 0).toNat:Int),?_⟩⟩;·simpa[tV,hb]using hc
theorem ER{w:F}{v:H}{bs:List UInt8}(h:XY w v bs):v.oneCell'=M:=by
 obtain⟨⟨a,cap,rfl,_⟩,_⟩:=h;rfl
def lD(w:F)(row:Option Nat):Prop:=row=G∨∃g,row=I g∧jM w g
theorem XY.kept{w w':F}{v:H}{bs:List UInt8}(h:XY w v bs){row:Option Nat}(hg:L w w' row)(hrow:lD w row):XY w' v bs:=by
 obtain⟨hs,ho⟩:=h;rcases ho with rfl|⟨b,hb,hlt,hc⟩;·obtain⟨a,cap,rfl,hc,h⟩:=hs;refine⟨⟨a,cap,rfl,hc,?_⟩,.inl rfl⟩;rcases h with h|⟨b,o,rfl,h⟩;(·exact .inl h);·exact .inr ⟨b,o,rfl,fun i hi=>by simp at hi⟩
 ·(have hne:I b≠row:=by intro e;rcases hrow with rfl|⟨g,rfl,hg'⟩;(·cases e);·cases e;exact hc.ne hg' rfl);have hblk:=hg.block b hlt hne;refine⟨?_,.inr ⟨b,hb,tG hlt hg.size,?_⟩⟩;(·obtain⟨a,cap,rfl,hcp,h⟩:=hs;refine⟨a,cap,rfl,hcp,?_⟩;rcases h with h|⟨b',o,rfl,h⟩;(·exact .inl h);·refine .inr ⟨b',o,rfl,fun i hi=>?_⟩;simp[pH]at hb;subst hb;exact hg.cell (h i hi) (by simpa using hne));·obtain⟨cur,t,fz,hc,hc2⟩:=hc;exact⟨cur,t,fz,by rw[hblk];exact hc,hc2⟩
theorem XY.grown{w w':F}{v:H}{bs:List UInt8}(h:XY w v bs)(hg:L w w' G):XY w' v bs:=h.kept hg (.inl rfl)
theorem XY.set{w:F}{v:H}{bs:List UInt8}(h:XY w v bs){c:Nat}(hc:jM w c)(i:Nat)(u:H):XY (tD w ⟨c,i,G⟩ u) v bs:=h.kept (Qh (Qb _ (I c)) i u) (.inr ⟨c,rfl,hc⟩)
abbrev SV:=uC×H
def Wl:SV:=(Lz,sI)
def Ux(us:List SV):List H:=us.flatMap fun x=>[Y tB x.1.bit,tP x.1.right,x.2]
theorem Dq(a b:List SV):Ux (a++b)=Ux a++Ux b:=by
 simp[Ux]
theorem Mp:∀(us:List SV)(i:Nat),i<us.length->(Ux us)[i*3]?=I (Y tB (us.getD i Wl).1.bit)∧(Ux us)[i*3+1]?=I (tP (us.getD i Wl).1.right)∧(Ux us)[i*3+2]?=I (us.getD i Wl).2|[],i,h=>by simp at h|x::r,0,_=>by simp[Ux]|x::r,i+1,h=>by have:=Mp r i (by simpa using h);rw[show(i+1)*3=i*3+3by omega,show i*3+3+1=(i*3+1)+3by omega,show i*3+3+2=(i*3+2)+3by omega];simpa[Ux]using this
theorem Wu(us:List SV):∀u∈Ux us,(∀x∈us,x.2.oneCell'=M)->u.oneCell'=M:=by
 intro u hu h;obtain⟨x,hx,hu⟩:=List.mem_flatMap.1 hu;simp only[tK,tM,or_false]at hu;rcases hu with rfl|rfl|rfl;·rfl
 ·rfl
 ·exact h x hx
def JX(base:Nat)(w:F)(v:H)(l:List uC):Prop:=∃us:List SV,us.map (·.1)=l∧w.ownsRow base 230 3 v l.length (Ux us)∧(∀x∈us,XY w x.2 x.1.other)∧(l=[]->v=J G 0 0)
theorem uY(base:Nat)(w:F):JX base w (J G 0 0) []:=⟨[],rfl,sK _ _ _ _,fun x hx=>by
 simp at hx,fun _=>rfl⟩
theorem JX.row{base:Nat}{w:F}{v:H}{l:List uC}(h:JX base w v l):lD w v.ownBlock:=by
 obtain⟨us,hm,h,_,h0⟩:=h;cases l with|nil=>rw[h0 rfl];exact .inl rfl|cons x r=>rcases h.2with⟨rfl,_⟩|⟨g,cap,cur,rfl,hb,hg,hn,_,_,ht⟩;(·exact .inl rfl);·refine .inr ⟨g,rfl,cur,_,_,hg,iZ,fun q=>?_⟩;cases us with|nil=>simp at hm|cons u us=>simp only[List.map_cons,List.cons.injEq]at hm;(have e:(cur.toList.take ((x::r).length*3))[0]?=(Ux (u::us))[0]?:=by rw[ht]);rw[sC,if_pos (by simp)]at e;rw[<-r7,e];simp[Ux]
theorem JX.lt{base:Nat}{w:F}{v:H}{l:List uC}(h:JX base w v l):∀k,v.ownBlock=I k->base<=k∧k<w.heap.size:=by
 obtain⟨us,_,h,_⟩:=h;exact sF h
theorem JX.grownNone{base:Nat}{w w':F}{v:H}{l:List uC}(h:JX base w v l)(hg:L w w' G):JX base w' v l:=by
 obtain⟨us,h1,h2,h3,h4⟩:=h;refine⟨us,h1,tU h2 hg ?_,fun x hx=>(h3 x hx).grown hg,h4⟩;cases hv:v.ownBlock with|none=>exact .inl rfl|some k=>exact .inr (by simp)
theorem JX.alloc{base:Nat}{w:F}{v:H}{l:List uC}(h:JX base w v l)(o:Obj):JX base (w.alloc o) v l:=h.grownNone (sL _ _ _)
theorem JX.shape{base:Nat}{w:F}{v:H}{l:List uC}(h:JX base w v l):∃a cap,v=J a l.length cap:=by
 obtain⟨us,_,h,_⟩:=h;rcases h.2with⟨rfl,h0⟩|⟨g,cap,cur,rfl,_⟩;·exact⟨G,0,by rw[h0]⟩
 ·exact⟨_,cap,rfl⟩
theorem JX.cells{base:Nat}{w:F}{g n cap:Nat}{us:List SV}{k:Nat}(hr:w.ownsRow base 230 3 (J (I ⟨g,0,G⟩) n cap) k (Ux us)):∀j u,(Ux us)[j]?=I u->w.cell? ⟨g,j,G⟩=I u:=by
 intro j u hj;rcases hr.2with⟨e,_⟩|⟨g',cap',cur,e,hb,hg,hn,hm,hs,ht⟩;·cases e
 ·simp only[tH,tA,rK]at e;obtain⟨⟨rfl,_⟩,_,_⟩:=e;(have hlt:j<k*3:=by have:=(sH.1 hj).1;rw[hr.1]at this;exact this);(have e2:(cur.toList.take (k*3))[j]?=(Ux us)[j]?:=by rw[ht]);rw[sC,if_pos hlt,hj]at e2;simp[tV,hg];simpa using e2
theorem bD{us:List SV}{l:List uC}(h:us.map (·.1)=l)(i:Nat)(hi:i<l.length):(us.getD i Wl).1=l.getD i Lz∧us.getD i Wl∈us:=by
 subst h;have hi':i<us.length:=by simpa using hi
 constructor;·simp[hi']
 ·rw[show us.getD i Wl=us[i]by simp[hi']];exact sO _
theorem JX.list{base:Nat}{w:F}{v:H}{l:List uC}(h:JX base w v l):Gw w v l:=by
 obtain⟨us,hl,hr,h3,_⟩:=h;have hul:us.length=l.length:=by rw[<-hl];simp
 rcases hr.2with⟨rfl,h0⟩|⟨g,cap,cur,rfl,hb,hg,hn,hm,hs,ht⟩;·have:l=[]:=tJ h0;subst this;exact Bg w
 ·refine⟨_,cap,rfl,hn,.inr ⟨g,0,rfl,fun i hi=>?_⟩⟩;obtain⟨e1,e2⟩:=bD hl i hi;obtain⟨c1,c2,c3⟩:=Mp us i (by omega);have hp:=h3 _ e2;rw[e1]at c1 c2 hp;rw[sM];exact⟨_,JX.cells hr _ _ c1,JX.cells hr _ _ c2,JX.cells hr _ _ c3,hp.1⟩
theorem JX.set{base:Nat}{w:F}{v:H}{l:List uC}(h:JX base w v l){c:Nat}(hc:jM w c)(hne:c<base)(i:Nat)(u:H):JX base (tD w ⟨c,i,G⟩ u) v l:=by
 have hlt:=h.lt;obtain⟨us,h1,h2,h3,h4⟩:=h;refine⟨us,h1,tU h2 (Qh (Qb _ (I c)) i u) ?_,fun x hx=>(h3 x hx).set hc i u,h4⟩;cases hv:v.ownBlock with|none=>exact .inl rfl|some k=>exact .inr (by have:=(hlt k hv).1;simp;omega)
theorem gY:(44:Nat)≠5:=by
 decide
theorem lI:(42:Nat)≠5:=by
 decide
theorem VF{W:F}{pb:Nat}{x y:H}(h:W.heap[pb]?=I (S #[x,y] 42))(hx:∀q,x≠Y r8 q)(ua va:Option rC)(un uc vn vc:Nat){z:H}{bs:List UInt8}(hz:XY W z bs):XY ((tD W ⟨pb,0,G⟩ (J ua un uc)).setCell ⟨pb,1,G⟩ (J va vn vc)) z bs:=have h0:jM W pb:=Dn (xs:=[y]) h lI hx;have h1:=h0.set 0 (J ua un uc) (fun q=>by
 simp);(hz.set h0 0 _).set h1 1 _
theorem XY.quad{w:F}{v:H}{bs:List UInt8}(h:XY w v bs){c:Nat}(hc:jM w c){e:Bool}{sa:Option rC}{sn sc:Nat}{ka va:Option rC}{kn kc vn vc:Nat}:XY ((((tD w ⟨c,0,G⟩ (tP e)).setCell ⟨c,1,G⟩ (J sa sn sc)).setCell ⟨c,2,G⟩ (J ka kn kc)).setCell ⟨c,3,G⟩ (J va vn vc)) v bs:=have h1:=hc.set 0 (tP e) (fun q=>by
 simp);have h2:=h1.set 1 (J sa sn sc) (fun q=>by
 simp);have h3:=h2.set 2 (J ka kn kc) (fun q=>by
 simp);(((h.set hc 0 _).set h1 1 _).set h2 2 _).set h3 3 _
theorem JX.quad{base:Nat}{w:F}{v:H}{l:List uC}(h:JX base w v l){c:Nat}(hc:jM w c)(hne:c<base){e:Bool}{sa:Option rC}{sn sc:Nat}{ka va:Option rC}{kn kc vn vc:Nat}:JX base ((((tD w ⟨c,0,G⟩ (tP e)).setCell ⟨c,1,G⟩ (J sa sn sc)).setCell ⟨c,2,G⟩ (J ka kn kc)).setCell ⟨c,3,G⟩ (J va vn vc)) v l:=have h1:=hc.set 0 (tP e) (fun q=>by
 simp);have h2:=h1.set 1 (J sa sn sc) (fun q=>by
 simp);have h3:=h2.set 2 (J ka kn kc) (fun q=>by
 simp);(((h.set hc hne 0 _).set h1 hne 1 _).set h2 hne 2 _).set h3 hne 3 _
def Zw(n:Nat)(w:F)(v:H)(p:Cm):Prop:=∃base vs vk vv,v=sQ #[tP p.empty,vs,vk,vv]∧n<=base∧base<=w.heap.size∧JX base w vs p.steps∧XY w vk p.pair.1∧XY w vv p.pair.2
theorem Zw.is{n:Nat}{w:F}{v:H}{p:Cm}(h:Zw n w v p):KW w v p:=by
 obtain⟨base,vs,vk,vv,rfl,_,_,h1,h2,h3⟩:=h;exact⟨vs,vk,vv,rfl,h1.list,h2.1,h3.1⟩
theorem Ss{base:Nat}{w W w1:F}{v:H}{l:List uC}(h:L w W G)(ho:JX base W v l)(hb:w.heap.size<=base)(hg:L W w1 v.ownBlock):L w w1 G:=⟨hg.os.trans h.os,hg.tape.trans h.tape,hg.output.trans h.output,tQ h.size hg.size,fun i hi hn=>(hg.block i (tG hi h.size) (fun e=>by
 have:=(ho.lt i e.symm).1;omega)).trans (h.block i hi hn)⟩
theorem OW:(O.info? 230).map (fun i=>(i.zero,i.size,i.bytes))=I (I (sQ #[Y tB 0,tP N,J G 0 0]),3,40):=by
 kernel_rfl
theorem RH{w:F}{o:rG}{a:Act}{K:Act->F->Prop}{Q:Exit->Act->F->Prop}(s x:rD)(ho:o.op=.call {callee:=.builtin .append,args:=#[s,x],argTypes:=#[40,40]})(base:Nat)(v:H)(l:List uC)(hs:a.eval s=v)(hown:JX base w v l)(vo:H)(p:uC)(hk:XY w vo p.other)(nb:Nat)(hb:∀j u,[Y tB p.bit,tP p.right,vo][j]?=I u->w.cell? ⟨nb,j,G⟩=I u)(hx:a.eval x=J (I ⟨nb,0,G⟩) 1 1)(hl:(l.length+1)*40<=140737488355328)(hbase:base<=w.heap.size)(h:∀v' w',JX base w' v' (l++[p])->L w w' v.ownBlock->K (a.put o.dst v') w'):o.wp O a w K Q:=by
 obtain⟨i0,hi,hz0,hz1,hz2⟩:=rV OW;have hrow:=hown.row;obtain⟨us,hul,hr,hp,_⟩:=hown;refine wp_append_own w s x 40 ho base 230 i0 (sQ #[Y tB 0,tP N,J G 0 0]) 3 40 Tryz.underlying40 hi hz0 hz1 hz2 rfl (by decide) v l.length (Ux us) hs hr ⟨nb,0,G⟩ 1 1 (Ux [(p,vo)]) hx rfl ?_ ?_ (by unfold pG;omega) hl hbase ?_;·intro j u hj;rw[Z4,sM];exact hb j u (by simpa[Ux]using hj)
 ·intro u hu;exact Wu _ u hu fun y hy=>by simp at hy;subst hy;exact ER hk
 ·intro v' w' h1 h2 _;refine h _ w' ⟨us++[(p,vo)],by simp[hul],?_,?_,fun e=>by simp at e⟩ h2;(·rw[Dq,tC];exact h1);·intro y hy;rcases tZ.1 hy with hy|hy;(·exact(hp y hy).kept h2 hrow);·simp at hy;subst hy;exact hk.kept h2 hrow
theorem kS{w:F}{ops:Array rG}{rest:List rG}{o:rG}{a:Act}{Q:Exit->Act->F->Prop}(hgd:o.guard=G)(s x:rD)(ho:o.op=.call {callee:=.builtin .append,args:=#[s,x],argTypes:=#[40,40]})(base:Nat)(v:H)(l:List uC)(hs:a.eval s=v)(hown:JX base w v l)(vo:H)(p:uC)(hk:XY w vo p.other)(nb:Nat)(hb:∀j u,[Y tB p.bit,tP p.right,vo][j]?=I u->w.cell? ⟨nb,j,G⟩=I u)(hx:a.eval x=J (I ⟨nb,0,G⟩) 1 1)(hl:(l.length+1)*40<=140737488355328)(hbase:base<=w.heap.size)(h:∀v' w',JX base w' v' (l++[p])->L w w' v.ownBlock->wpList O ops Q rest (a.put o.dst v') w'):wpList O ops Q (o::rest) a w:=wpList_plain hgd fun _ hK=>RH s x ho base v l hs hown vo p hk nb hb hx hl hbase fun v' w' h1 h2=>hK _ _ (h v' w' h1 h2)
theorem Ww{w:F}{nb:Nat}{p:uC}{vo:H}{t:tY}(h:w.heap[nb]?=I (S #[Y tB p.bit,tP p.right,vo] t)):∀j u,[Y tB p.bit,tP p.right,vo][j]?=I u->w.cell? ⟨nb,j,G⟩=I u:=by
 intro j u hj;simp[tV,h];simpa using hj
def gL:H->Nat|J _ n _=>n|_=>0
def Pq(t:tY):Prop:=t=118∨t=46∨t=206∨t=31∨t=3
def LA(B:Nat)(w:F)(i:Nat):Prop:=i<B∨∀cs t fz,w.heap[i]?=I (S cs t fz)->(¬Pq t∨∃q,cs[0]?=I (Y r8 q))
structure Kp (B : Nat) (w w' : F) : Prop where
  os : w'.os = w.os
  tape : w'.tape = w.tape
  output : w'.output = w.output
  size : w.heap.size <= w'.heap.size
  keep : ∀ i, i < w.heap.size -> LA B w i -> w'.heap[i]? = w.heap[i]?
theorem Kp.refl(B:Nat)(w:F):Kp B w w:=⟨rfl,rfl,rfl,sB _,fun _ _ _=>rfl⟩
theorem LA.same{B:Nat}{w w':F}{i:Nat}(h:LA B w i)(e:w'.heap[i]?=w.heap[i]?):LA B w' i:=by
 rcases h with h|h;·exact .inl h
 ·exact .inr fun cs t fz hc=>h cs t fz (by rw[<-e];exact hc)
theorem Kp.trans{B:Nat}{w w1 w2:F}(h:Kp B w w1)(k:Kp B w1 w2):Kp B w w2:=⟨k.os.trans h.os,k.tape.trans h.tape,k.output.trans h.output,tQ h.size k.size,fun i hi hs=>by
 have e:=h.keep i hi hs;exact(k.keep i (tG hi h.size) (hs.same e)).trans e⟩
theorem Kp.grown{B:Nat}{w w':F}(h:L w w' G):Kp B w w':=⟨h.os,h.tape,h.output,h.size,fun i hi _=>h.block i hi (by
 simp)⟩
theorem Kp.turn{B:Nat}{w w':F}{g:Nat}{cs:Array H}{t:tY}{fz:Nat×Nat}(h:L w w' (I g))(hB:B<=g)(hb:w.heap[g]?=I (S cs t fz))(ht:Pq t)(h0:∀q,cs[0]?≠I (Y r8 q)):Kp B w w':=⟨h.os,h.tape,h.output,h.size,fun i hi hs=>by
 refine h.block i hi fun e=>?_;cases e;rcases hs with hs|hs;·omega
 ·rcases hs cs t fz hb with h1|⟨q,h1⟩;(·exact h1 ht);·exact h0 q h1⟩
theorem Kp.low{B:Nat}{w w':F}(h:Kp B w w')(w0:F)(hg:L w0 w G)(hB:w0.heap.size<=B):L w0 w' G:=⟨h.os.trans hg.os,h.tape.trans hg.tape,h.output.trans hg.output,tQ hg.size h.size,fun i hi hn=>(h.keep i (tG hi hg.size) (.inl (by
 omega))).trans (hg.block i hi hn)⟩
def V5(t:tY):Prop:=t=5∨t=42∨t=123∨t=97∨t=157∨t=230
def zW(t:tY):Prop:=¬V5 t
theorem Pq.two{t:tY}(h:Pq t):zW t:=by
 rcases h with rfl|rfl|rfl|rfl|rfl<;>simp[zW,V5]
def M7(B:Nat)(w:F)(i:Nat):Prop:=i<B∨∀cs t fz,w.heap[i]?=I (S cs t fz)->(¬zW t∨∃q,cs[0]?=I (Y r8 q))
structure Ae (B : Nat) (w w' : F) : Prop where
  os : w'.os = w.os
  tape : w'.tape = w.tape
  output : w'.output = w.output
  size : w.heap.size <= w'.heap.size
  keep : ∀ i, i < w.heap.size -> M7 B w i -> w'.heap[i]? = w.heap[i]?
theorem Kp.two{B C:Nat}{w w':F}(h:Kp B w w')(hC:C<=B):Ae C w w':=⟨h.os,h.tape,h.output,h.size,fun i hi hs=>h.keep i hi (by
 rcases hs with hs|hs;·exact .inl (tG hs hC)
 ·exact .inr fun cs t fz hc=>(hs cs t fz hc).imp (fun h1 h2=>h1 h2.two) id)⟩
theorem Ae.refl(B:Nat)(w:F):Ae B w w:=⟨rfl,rfl,rfl,sB _,fun _ _ _=>rfl⟩
theorem M7.same{B:Nat}{w w':F}{i:Nat}(h:M7 B w i)(e:w'.heap[i]?=w.heap[i]?):M7 B w' i:=by
 rcases h with h|h;·exact .inl h
 ·exact .inr fun cs t fz hc=>h cs t fz (by rw[<-e];exact hc)
theorem Ae.trans{B:Nat}{w w1 w2:F}(h:Ae B w w1)(k:Ae B w1 w2):Ae B w w2:=⟨k.os.trans h.os,k.tape.trans h.tape,k.output.trans h.output,tQ h.size k.size,fun i hi hs=>by
 have e:=h.keep i hi hs;exact(k.keep i (tG hi h.size) (hs.same e)).trans e⟩
theorem Ae.grown{B:Nat}{w w':F}(h:L w w' G):Ae B w w':=⟨h.os,h.tape,h.output,h.size,fun i hi _=>h.block i hi (by
 simp)⟩
def LX(w:F)(i:Nat):Prop:=∀cs t fz,w.heap[i]?=I (S cs t fz)->(V5 t∨t=46∨∃q,cs[0]?=I (Y r8 q))
structure KL (w w' : F) : Prop where
  os : w'.os = w.os
  tape : w'.tape = w.tape
  output : w'.output = w.output
  size : w.heap.size <= w'.heap.size
  keep : ∀ i, i < w.heap.size -> LX w i -> w'.heap[i]? = w.heap[i]?
theorem KL.two{w w':F}(h:KL w w'):Ae 0 w w':=⟨h.os,h.tape,h.output,h.size,fun i hi hs=>h.keep i hi fun cs t fz hc=>by
 rcases hs with hs|hs;·omega
 ·rcases hs cs t fz hc with h1|h1;(·exact .inl (sR h1));·exact .inr (.inr h1)⟩
theorem KL.refl(w:F):KL w w:=⟨rfl,rfl,rfl,sB _,fun _ _ _=>rfl⟩
theorem LX.same{w w':F}{i:Nat}(h:LX w i)(e:w'.heap[i]?=w.heap[i]?):LX w' i:=fun cs t fz hc=>h cs t fz (by
 rw[<-e];exact hc)
theorem KL.trans{w w1 w2:F}(h:KL w w1)(k:KL w1 w2):KL w w2:=⟨k.os.trans h.os,k.tape.trans h.tape,k.output.trans h.output,tQ h.size k.size,fun i hi hs=>by
 have e:=h.keep i hi hs;exact(k.keep i (tG hi h.size) (hs.same e)).trans e⟩
theorem KL.grown{w w':F}(h:L w w' G):KL w w':=⟨h.os,h.tape,h.output,h.size,fun i hi _=>h.block i hi (by
 simp)⟩
theorem KL.turn{w w':F}{row:Option Nat}(h:L w w' row)(hr:∀g,row=I g->∃cs t fz,w.heap[g]?=I (S cs t fz)∧¬V5 t∧t≠46∧∀q,cs[0]?≠I (Y r8 q)):KL w w':=⟨h.os,h.tape,h.output,h.size,fun i hi hs=>by
 refine h.block i hi fun e=>?_;obtain⟨cs,t,fz,hb,h1,h2,h3⟩:=hr i e.symm;rcases hs cs t fz hb with h4|h4|⟨q,h4⟩;·exact h1 h4
 ·exact h2 h4
 ·exact h3 q h4⟩
def Jp(w:F)(P:F->Prop):Prop:=∀w',KL w w'->P w'
theorem Jp.now{w:F}{P:F->Prop}(h:Jp w P):P w:=h w (KL.refl w)
theorem Jp.later{w w':F}{P:F->Prop}(h:Jp w P)(k:KL w w'):Jp w' P:=fun w2 k2=>h w2 (k.trans k2)
theorem Jp.grown{w w':F}{P:F->Prop}(h:Jp w P)(k:L w w' G):Jp w' P:=h.later (KL.grown k)
def Jm(w:F)(P:F->Prop):Prop:=∀w',L w w' G->P w'
theorem Jm.now{w:F}{P:F->Prop}(h:Jm w P):P w:=h w (Qb w G)
theorem Jm.grown{w w':F}{P:F->Prop}(h:Jm w P)(k:L w w' G):Jm w' P:=fun w2 k2=>h w2 (Qa k k2)
def Zc(B:Nat)(w:F)(P:F->Prop):Prop:=∀w',Ae B w w'->P w'
theorem Zc.now{B:Nat}{w:F}{P:F->Prop}(h:Zc B w P):P w:=h w (Ae.refl B w)
theorem Zc.later{B C:Nat}{w w':F}{P:F->Prop}(h:Zc C w P)(k:Kp B w w')(hC:C<=B:=by
 first|exact Nat.zero_le _|exact Nat.le_refl _):Zc C w' P:=fun w2 k2=>h w2 ((k.two hC).trans k2)
theorem Zc.later2{C:Nat}{w w':F}{P:F->Prop}(h:Zc C w P)(k:Ae C w w'):Zc C w' P:=fun w2 k2=>h w2 (k.trans k2)
theorem Zc.grown{C:Nat}{w w':F}{P:F->Prop}(h:Zc C w P)(k:L w w' G):Zc C w' P:=h.later2 (Ae.grown k)
theorem Zc.mono{B:Nat}{w:F}{P Q:F->Prop}(h:Zc B w P)(k:∀w',P w'->Q w'):Zc B w Q:=fun w' h'=>k w' (h w' h')
theorem VC{w w':F}{v:H}{bs:List UInt8}(h:Qe w v bs)(hb:bs=[]∨∃b,v.ownBlock=I b∧w'.heap[b]?=w.heap[b]?):Qe w' v bs:=by
 obtain⟨a,cap,rfl,hc,h⟩:=h;refine⟨a,cap,rfl,hc,?_⟩;rcases h with h|⟨b,o,rfl,h⟩;·exact .inl h
 ·refine .inr ⟨b,o,rfl,fun i hi=>?_⟩;rcases hb with rfl|⟨b',e,hb⟩;(·simp at hi);·simp[pH]at e;subst e;rw[sJ hb];exact h i hi
theorem lE:¬zW 5:=by
 simp[zW,V5]
theorem ZX{B:Nat}{w:F}{v:H}{bs:List UInt8}(h:Qi 0 w v bs):Zc B w (fun w=>Qi 0 w v bs):=fun w' k=>by
 obtain⟨h1,h2⟩:=h;rcases h2 with h2|⟨b,e,hl,h2⟩;·exact⟨VC h1 (.inl h2),.inl h2⟩
 ·(obtain⟨cur,fz,h2⟩:∃cur fz,w.heap[b]?=I (S cur 5 fz):=by rcases h2 with h2|h2;(·omega);·exact h2);have hs:w'.heap[b]?=w.heap[b]?:=k.keep b hl (.inr fun cs t f hc=>.inl (by rw[h2]at hc;simp only[tA,tX]at hc;rw[<-hc.2.1];exact lE));exact⟨VC h1 (.inr ⟨b,e,hs⟩),.inr ⟨b,e,tG hl k.size,.inr ⟨cur,fz,by rw[hs];exact h2⟩⟩⟩
theorem GC{B:Nat}{w:F}{v:H}{bs:List UInt8}(h:XY w v bs):Zc B w (fun w=>XY w v bs):=fun w' k=>by
 obtain⟨h1,h2⟩:=h;rcases h2 with h2|⟨b,e,hl,cur,t,fz,h2,h3⟩;·exact⟨VC h1 (.inl h2),.inl h2⟩
 ·have hs:w'.heap[b]?=w.heap[b]?:=k.keep b hl (.inr fun cs t' f hc=>by rw[h2]at hc;simp only[tA,tX]at hc;obtain⟨rfl,rfl,_⟩:=hc;rcases h3 with rfl|h3;(·exact .inl lE);·exact .inr h3);exact⟨VC h1 (.inr ⟨b,e,hs⟩),.inr ⟨b,e,tG hl k.size,cur,t,fz,by rw[hs];exact h2,h3⟩⟩
theorem U4{B base:Nat}{w:F}{t:tY}{n m:Nat}{v:H}{xs:List H}(h:w.ownsRow base t n v m xs)(ht:¬zW t):Zc B w (fun w=>w.ownsRow base t n v m xs):=fun w' k=>by
 refine⟨h.1,?_⟩;rcases h.2with h|⟨g,cap,cur,e,hb,hg,rest⟩;·exact .inl h
 ·refine .inr ⟨g,cap,cur,e,hb,?_,rest⟩;rw[k.keep g (tI.1 hg).1 (.inr fun cs t' f hc=>.inl (by rw[hg]at hc;simp only[tA,tX]at hc;rw[<-hc.2.1];exact ht))];exact hg
theorem Sg{B rb:Nat}{w:F}{v:H}{l:List Rd}(h:ZM rb 0 w v l):Zc B w (fun w=>ZM rb 0 w v l):=fun w' k=>by
 obtain⟨us,h1,h2,h3⟩:=h;exact⟨us,h1,U4 h2 (by simp[zW,V5]) w' k,fun x hx=>⟨ZX (h3 x hx).1 w' k,ZX (h3 x hx).2.1 w' k,ZX (h3 x hx).2.2 w' k⟩⟩
theorem Ay{B rb:Nat}{w:F}{v:H}{l:List Ze}(h:Q5 rb 0 w v l):Zc B w (fun w=>Q5 rb 0 w v l):=fun w' k=>by
 obtain⟨us,h1,h2,h3⟩:=h;exact⟨us,h1,U4 h2 (by simp[zW,V5]) w' k,fun x hx=>⟨ZX (h3 x hx).1 w' k,ZX (h3 x hx).2.1 w' k,ZX (h3 x hx).2.2 w' k⟩⟩
theorem VG{B:Nat}{w:F}{v:H}{l:PL}(h:QN 0 w v l):Zc B w (fun w=>QN 0 w v l):=fun w' k=>by
 obtain⟨a,cap,rfl,hc,h⟩:=h;refine⟨a,cap,rfl,hc,?_⟩;rcases h with h|⟨b,o,rfl,hb,h⟩;·exact .inl h
 ·(obtain⟨cur,fz,hb⟩:∃cur fz,w.heap[b]?=I (S cur 42 fz):=by rcases hb with hb|hb;(·omega);·exact hb);have hs:w'.heap[b]?=w.heap[b]?:=k.keep b (tI.1 hb).1 (.inr fun cs t f hc=>.inl (by rw[hb]at hc;simp only[tA,tX]at hc;rw[<-hc.2.1];simp[zW,V5]));refine .inr ⟨b,o,rfl,.inr ⟨cur,fz,by rw[hs];exact hb⟩,fun i hi=>?_⟩;obtain⟨vk,vv,c1,c2,h1,h2⟩:=h i hi;exact⟨vk,vv,by rw[sJ hs];exact c1,by rw[sJ hs];exact c2,ZX h1 w' k,ZX h2 w' k⟩
theorem AL{B rb:Nat}{w:F}{v:H}{l:FL}(h:Zz rb w v l):Zc B w (fun w=>Zz rb w v l):=fun w' k=>by
 obtain⟨vs,h1,h2,h3⟩:=h;exact⟨vs,h1,U4 h2 (by simp[zW,V5]) w' k,fun i hi=>⟨ZX (h3 i hi).1 w' k,VG (h3 i hi).2 w' k⟩⟩
theorem Eu{B:Nat}{w:F}{v:H}{l:List Ze}(h:Xp 0 w v l):Zc B w (fun w=>Xp 0 w v l):=fun w' k=>by
 obtain⟨a,cap,rfl,hc,h⟩:=h;refine⟨a,cap,rfl,hc,?_⟩;rcases h with h|⟨b,o,rfl,hb,h⟩;·exact .inl h
 ·(obtain⟨cur,fz,hb⟩:∃cur fz,w.heap[b]?=I (S cur 97 fz):=by rcases hb with hb|hb;(·omega);·exact hb);have hs:w'.heap[b]?=w.heap[b]?:=k.keep b (tI.1 hb).1 (.inr fun cs t f hc=>.inl (by rw[hb]at hc;simp only[tA,tX]at hc;rw[<-hc.2.1];simp[zW,V5]));refine .inr ⟨b,o,rfl,.inr ⟨cur,fz,by rw[hs];exact hb⟩,fun i hi=>?_⟩;obtain⟨vn,vk,vv,c1,c2,c3,c4,h1,h2,h3⟩:=h i hi;exact⟨vn,vk,vv,by rw[sJ hs];exact c1,by rw[sJ hs];exact c2,by rw[sJ hs];exact c3,by rw[sJ hs];exact c4,ZX h1 w' k,ZX h2 w' k,ZX h3 w' k⟩
theorem yX{B:Nat}{w:F}{v:H}{t:Tx}(h:GY w v t):Zc B w (fun w=>GY w v t):=fun w' k=>by
 obtain⟨vr,vw,rfl,h1,h2⟩:=h;exact⟨vr,vw,rfl,Sg h1 w' k,Ay h2 w' k⟩
theorem SQ{B base:Nat}{w:F}{v:H}{l:List uC}(h:JX base w v l):Zc B w (fun w=>JX base w v l):=fun w' k=>by
 obtain⟨us,h1,h2,h3,h4⟩:=h;exact⟨us,h1,U4 h2 (by simp[zW,V5]) w' k,fun x hx=>GC (h3 x hx) w' k,h4⟩
theorem yI{B n:Nat}{w:F}{v:H}{p:Cm}(h:Zw n w v p):Zc B w (fun w=>KW w v p):=fun w' k=>by
 obtain⟨base,vs,vk,vv,rfl,_,_,h1,h2,h3⟩:=h;exact⟨vs,vk,vv,rfl,(SQ h1 w' k).list,(GC h2 w' k).1,(GC h3 w' k).1⟩
section
section
variable{α:Type}{T:tY}{k:Nat}{P:F->List H->α->Prop}{B:Nat}{w w':F}{v:H}{l:List α}
def JN(T:tY)(k:Nat)(P:F->List H->α->Prop)(B:Nat)(w:F)(v:H)(l:List α):Prop:=∃us:List (List H×α),us.map (·.2)=l∧w.ownsRow B T k v l.length (us.flatMap (·.1))∧(l=[]->v=J G 0 0)∧∀x∈us,x.1.length=k∧(∀u∈x.1,u.oneCell'=M)∧(∀q,x.1[0]?≠I (Y r8 q))∧Zc 0 w (fun w=>P w x.1 x.2)
theorem vQ(T:tY)(k:Nat)(P:F->List H->α->Prop)(B:Nat)(w:F):JN T k P B w (J G 0 0) []:=⟨[],rfl,sK _ _ _ _,fun _=>rfl,fun x hx=>by
 simp at hx⟩
theorem JN.kept(h:JN T k P B w v l)(hk:Kp B w w')(hs:∀g,v.ownBlock=I g->w'.heap[g]?=w.heap[g]?):JN T k P B w' v l:=by
 obtain⟨us,h1,h2,h3,h4⟩:=h;refine⟨us,h1,⟨h2.1,?_⟩,h3,fun x hx=>⟨(h4 x hx).1,(h4 x hx).2.1,(h4 x hx).2.2.1,(h4 x hx).2.2.2.later hk⟩⟩;rcases h2.2with h|⟨g,cap,cur,rfl,hb,hg,rest⟩;·exact .inl h
 ·exact .inr ⟨g,cap,cur,rfl,hb,by rw[hs g rfl];exact hg,rest⟩
theorem JN.kept2(h:JN T k P B w v l)(hk:Ae 0 w w')(hs:∀g,v.ownBlock=I g->w'.heap[g]?=w.heap[g]?):JN T k P B w' v l:=by
 obtain⟨us,h1,h2,h3,h4⟩:=h;refine⟨us,h1,⟨h2.1,?_⟩,h3,fun x hx=>⟨(h4 x hx).1,(h4 x hx).2.1,(h4 x hx).2.2.1,(h4 x hx).2.2.2.later2 hk⟩⟩;rcases h2.2with h|⟨g,cap,cur,rfl,hb,hg,rest⟩;·exact .inl h
 ·exact .inr ⟨g,cap,cur,rfl,hb,by rw[hs g rfl];exact hg,rest⟩
theorem JN.lt(h:JN T k P B w v l):∀g,v.ownBlock=I g->B<=g∧g<w.heap.size:=by
 obtain⟨us,h1,h2,h3,h4⟩:=h;exact sF h2
theorem JN.grown(h:JN T k P B w v l)(hg:L w w' G):JN T k P B w' v l:=h.kept (Kp.grown hg) fun g e=>hg.block g (h.lt g e).2 (by
 simp)
theorem JN.shape(h:JN T k P B w v l):∃a cap,v=J a l.length cap:=by
 obtain⟨us,_,h,_⟩:=h;rcases h.2with⟨rfl,h0⟩|⟨g,cap,cur,rfl,_⟩;·exact⟨G,0,by rw[h0]⟩
 ·exact⟨_,cap,rfl⟩
theorem LS{k:Nat}:∀(us:List (List H×α))(_:∀x∈us,x.1.length=k)(i:Nat)(hi:i<us.length)(j:Nat),j<k->(us.flatMap (·.1))[i*k+j]?=us[i].1[j]?|[],_,i,hi,_,_=>by simp at hi|x::us,hk,0,_,j,hj=>by have:=hk x (by simp);simp[pJ (show j<x.1.length by omega)]|x::us,hk,i+1,hi,j,hj=>by have hx:=hk x (by simp);have:=LS us (fun y hy=>hk y (by simp[hy])) i (by simpa using hi) j hj;rw[tN,List.getElem?_append_right (by rw[hx,rY];omega),hx,show(i+1)*k+j-k=i*k+j by rw[rY];omega,this];simp
theorem JN.blk(hk0:0<k)(h:JN T k P B w v l):v.ownBlock=G∨∃g cs,v.ownBlock=I g∧B<=g∧w.heap[g]?=I (S cs T (0,0))∧∀q,cs[0]?≠I (Y r8 q):=by
 obtain⟨us,h1,h2,h3,h4⟩:=h;rcases h2.2with⟨rfl,_⟩|⟨g,cap,cur,rfl,hb,hg,hn,_,hcs,ht⟩;·exact .inl rfl
 ·refine .inr ⟨g,cur,rfl,hb,hg,fun q hq=>?_⟩;cases us with|nil=>subst h1;have:=h3 rfl;cases this|cons x us=>(have hl:l.length=us.length+1:=by rw[<-h1];simp);(have e:(cur.toList.take (l.length*k))[0]?=((x::us).flatMap (·.1))[0]?:=by rw[ht]);have hx:=(h4 x (by simp)).1;rw[sC,if_pos (by rw[hl,rY];omega),tN,pJ (by omega),r7,hq]at e;exact(h4 x (by simp)).2.2.1 q e.symm
theorem JN.turn(hk0:0<k)(hT:Pq T)(h:JN T k P B w v l)(hg:L w w' v.ownBlock):Kp B w w':=by
 rcases h.blk hk0 with e|⟨g,cs,e,hb,hc,h0⟩;·rw[e]at hg;exact Kp.grown hg
 ·rw[e]at hg;exact Kp.turn hg hb hc hT h0
theorem JN.other(hk0:0<k)(h:JN T k P B w v l){row:Option Nat}(hk:Kp B w w')(hg:L w w' row)(hr:row=G∨∃g cs t fz,row=I g∧w.heap[g]?=I (S cs t fz)∧t≠T):JN T k P B w' v l:=by
 refine h.kept hk fun g e=>?_;refine hg.block g (h.lt g e).2 fun e2=>?_;rcases hr with rfl|⟨g',cs,t,fz,rfl,hc,ht⟩;·cases e2
 ·cases e2;rcases h.blk hk0 with e3|⟨g2,cs2,e3,_,hc2,_⟩;(·rw[e3]at e;cases e);·rw[e3]at e;cases e;rw[hc]at hc2;simp only[tA,tX]at hc2;exact ht hc2.2.1
theorem JN.at(h:JN T k P B w v l)(d:α)(i:Nat)(hi:i<l.length):∃g cap cs,v=J (I ⟨g,0,G⟩) l.length cap∧cs.length=k∧l.length<=cap∧(∀j,j<k->w.cell? ⟨g,i*k+j,G⟩=cs[j]?)∧Zc 0 w (fun w=>P w cs (l.getD i d)):=by
 obtain⟨us,h1,h2,h3,h4⟩:=h;have hul:us.length=l.length:=by rw[<-h1];simp
 rcases h2.2with⟨rfl,h0⟩|⟨g,cap,cur,rfl,hb,hg,hn,_,hcs,ht⟩;·omega
 ·have hx:=h4 us[i] (sO (by omega));refine⟨g,cap,us[i].1,rfl,hx.1,hn,fun j hj=>?_,?_⟩;(·(have e:(cur.toList.take (l.length*k))[i*k+j]?=(us.flatMap (·.1))[i*k+j]?:=by rw[ht]);(have hlt:i*k+j<l.length*k:=by have:(i+1)*k<=l.length*k:=pB k hi;rw[rY]at this;omega);rw[LS us (fun x hx=>(h4 x hx).1) i (by omega) j hj,sC,if_pos hlt,r7]at e;simp[tV,hg,e]);·(have e:l.getD i d=us[i].2:=by subst h1;simp[List.getD,show i<us.length by omega]);rw[e];exact hx.2.2.2
theorem yH{o:rG}{a:Act}{K:Act->F->Prop}{Q:Exit->Act->F->Prop}(s x:rD)(t:tY)(ho:o.op=.call {callee:=.builtin .append,args:=#[s,x],argTypes:=#[t,t]})(i:TypeInfo)(z:H)(bytes:Nat)(ht:O.underlying t=I (.slice T))(hi:O.info? T=I i)(hz:i.zero=I z)(hsize:i.size=k)(hby:i.bytes=bytes)(hzs:z.cells.size=k)(hsz:0<k)(hT:Pq T)(hs:a.eval s=v)(hown:JN T k P B w v l)(nb:Nat)(cs:List H)(y:α)(hx:a.eval x=J (I ⟨nb,0,G⟩) 1 1)(hcl:cs.length=k)(hc:∀j u,cs[j]?=I u->w.cell? ⟨nb,j,G⟩=I u)(h1:∀u∈cs,u.oneCell'=M)(h0:∀q,cs[0]?≠I (Y r8 q))(hP:Zc 0 w (fun w=>P w cs y))(h63:l.length+1<=pG)(hbytes:(l.length+1)*bytes<=140737488355328)(hbase:B<=w.heap.size)(h:∀v' w',JN T k P B w' v' (l++[y])->Kp B w w'->L w w' v.ownBlock->K (a.put o.dst v') w'):o.wp O a w K Q:=by
 have hown0:=hown;obtain⟨us,e1,h2,h3,h4⟩:=hown;refine wp_append_lies w s x t ho B T i z k bytes ht hi hz hsize hby hzs hsz v l.length (us.flatMap (·.1)) hs h2 ⟨nb,0,G⟩ 1 1 cs hx (by omega) (fun j u hj=>by rw[Z4,sM];exact hc j u hj) h1 (by omega) h63 hbytes hbase _ rfl ?_;intro g cap w' hr hg hgg hlt;have hk:=hown0.turn hsz hT hg;refine h _ w' ⟨us++[(cs,y)],by simp[e1],?_,fun e=>by simp at e,fun x hx=>?_⟩ hk hg;·simpa[List.flatMap_append]using hr
 ·rcases tZ.1 hx with hx|hx;(·exact⟨(h4 x hx).1,(h4 x hx).2.1,(h4 x hx).2.2.1,(h4 x hx).2.2.2.later hk⟩);·(obtain rfl:x=(cs,y):=by simpa using hx);exact⟨hcl,h1,h0,hP.later hk⟩
theorem JN.take(h:JN T k P B w v l){a:Option rC}{n cap:Nat}(hv:v=J a n cap)(m:Nat)(hm:m<=l.length)(h0:0<m):JN T k P B w (J a m cap) (l.take m):=by
 subst hv;obtain⟨us,h1,h2,h3,h4⟩:=h;have hul:us.length=l.length:=by rw[<-h1];simp
 have hlm:(l.take m).length=m:=by simp;omega
 rcases h2.2with⟨e,h0'⟩|⟨g,cp,cur,e,hb,hg,hn,hmx,hcs,ht⟩;·omega
 ·simp only[tH]at e;obtain⟨rfl,rfl,rfl⟩:=e;(have hfl:(us.take m).flatMap (·.1)=(us.flatMap (·.1)).take (m*k):=by(have hk:∀(vs:List (List H×α)),(∀x∈vs,x.1.length=k)->∀m,(vs.take m).flatMap (·.1)=(vs.flatMap (·.1)).take (m*k):=by intro vs;induction vs with|nil=>intro _ m;simp|cons x vs ih=>intro hx m;cases m with|zero=>simp|succ m=>have:=hx x (by simp);rw[rF,tN,tN,ih (fun y hy=>hx y (by simp[hy])) m,List.take_append,this,rY,show m*k+k-k=m*k by omega,List.take_of_length_le (l:=x.1) (by omega)]);exact hk us (fun x hx=>(h4 x hx).1) m);refine⟨us.take m,by rw[<-h1,List.map_take],⟨?_,.inr ⟨g,cap,cur,by rw[hlm],hb,hg,by omega,hmx,hcs,?_⟩⟩,fun e=>?_,fun x hx=>h4 x (List.mem_of_mem_take hx)⟩;(·rw[hfl,rX,h2.1,hlm];have:m*k<=l.length*k:=pB k hm;omega);(·rw[hlm,hfl,<-ht,pZ];have:m*k<=l.length*k:=pB k hm;rw[oC this]);·rw[e]at hlm;simp at hlm;omega
end
end
theorem Fr:(206:Nat)≠5:=by
 decide
theorem jR:(206:Nat)≠97:=by
 decide
def Cp(w:F)(b o:Nat)(c:XI):Prop:=∃vs,w.cell? ⟨b,o,G⟩=I (Y tB c.turn)∧w.cell? ⟨b,o+1,G⟩=I vs∧QQ w vs c.writes
theorem Cp.grown{w w':F}{b o:Nat}{c:XI}(h:Cp w b o c)(hg:L w w' G):Cp w' b o c:=by
 obtain⟨vs,c1,c2,h⟩:=h;exact⟨vs,hg.cell c1 (by simp),hg.cell c2 (by simp),h.grown hg⟩
def Jk(w:F)(v:H)(l:List XI):Prop:=∃a cap,v=J a l.length cap∧l.length<=cap∧((l=[]∧(a=G->cap=0))∨∃b o,a=I ⟨b,o,G⟩∧∀i,i<l.length->Cp w b (o+i*2) (l.getD i Zk))
theorem EI(w:F):Jk w (J G 0 0) []:=⟨G,0,rfl,sB _,.inl ⟨rfl,fun _=>rfl⟩⟩
theorem Jk.shape{w:F}{v:H}{l:List XI}(h:Jk w v l):∃a cap,v=J a l.length cap:=by
 obtain⟨a,cap,rfl,_⟩:=h;exact⟨a,cap,rfl⟩
theorem Jk.grown{w w':F}{v:H}{l:List XI}(h:Jk w v l)(hg:L w w' G):Jk w' v l:=by
 obtain⟨a,cap,rfl,hc,h⟩:=h;refine⟨a,cap,rfl,hc,?_⟩;rcases h with h|⟨b,o,rfl,h⟩;·exact .inl h
 ·exact .inr ⟨b,o,rfl,fun i hi=>(h i hi).grown hg⟩
theorem Jk.at{w:F}{a:Option rC}{n cap:Nat}{l:List XI}(h:Jk w (J a n cap) l)(i:Nat)(hi:i<l.length):∃b o,a=I ⟨b,o,G⟩∧Cp w b (o+i*2) (l.getD i Zk):=by
 obtain⟨a',cap',e,hc,h⟩:=h;simp only[tH]at e;obtain⟨rfl,rfl,rfl⟩:=e;rcases h with⟨rfl,_⟩|⟨b,o,rfl,h⟩;·simp at hi
 ·exact⟨b,o,rfl,h i hi⟩
structure Az (l : List XI) : Prop where
  many : l.length * 32 <= 140737488355328
  each : ∀ i, i < l.length -> N0 (l.getD i Zk)
abbrev CV:=XI×H
def j9(us:List CV):List H:=us.flatMap fun x=>[Y tB x.1.turn,x.2]
theorem Mv(a b:List CV):j9 (a++b)=j9 a++j9 b:=by
 simp[j9]
theorem fN:(O.info? 206).map (fun i=>(i.zero,i.size,i.bytes))=I (I (sQ #[Y tB 0,J G 0 0]),2,32):=by
 kernel_rfl
def Ji(base:Nat)(w:F)(v:H)(l:List XI):Prop:=∃us:List CV,us.map (·.1)=l∧w.ownsRow base 206 2 v l.length (j9 us)∧(l=[]->v=J G 0 0)∧∀x∈us,Xp 0 w x.2 x.1.writes
theorem Ct(base:Nat)(w:F):Ji base w (J G 0 0) []:=⟨[],rfl,sK _ _ _ _,fun _=>rfl,fun x hx=>by
 simp at hx⟩
theorem Ji.row{base:Nat}{w:F}{v:H}{l:List XI}(h:Ji base w v l):v.ownBlock=G∨∃g cur t fz,v.ownBlock=I g∧base<=g∧w.heap[g]?=I (S cur t fz)∧t≠5∧t≠97:=by
 obtain⟨us,_,h,_⟩:=h;rcases h.2with⟨rfl,_⟩|⟨g,cap,cur,rfl,hb,hg,_⟩;·exact .inl rfl
 ·exact .inr ⟨g,cur,_,_,rfl,hb,hg,Fr,jR⟩
theorem Ji.row0{base:Nat}{w:F}{v:H}{l:List XI}(h:Ji base w v l):v.ownBlock=G∨∃g cur t fz,v.ownBlock=I g∧0<=g∧w.heap[g]?=I (S cur t fz)∧t≠5∧t≠97:=by
 rcases h.row with h|⟨g,cur,t,fz,h1,_,h2⟩;·exact .inl h
 ·exact .inr ⟨g,cur,t,fz,h1,tR _,h2⟩
theorem Ji.lt{base:Nat}{w:F}{v:H}{l:List XI}(h:Ji base w v l):∀k,v.ownBlock=I k->base<=k∧k<w.heap.size:=by
 obtain⟨us,_,h,_⟩:=h;exact sF h
theorem Ji.grownNone{base:Nat}{w w':F}{v:H}{l:List XI}(h:Ji base w v l)(hg:L w w' G):Ji base w' v l:=by
 obtain⟨us,h1,h2,h0,h3⟩:=h;refine⟨us,h1,tU h2 hg ?_,h0,fun x hx=>(h3 x hx).kept hg (.inl rfl)⟩;cases hv:v.ownBlock with|none=>exact .inl rfl|some k=>exact .inr (by simp)
theorem Ji.shape{base:Nat}{w:F}{v:H}{l:List XI}(h:Ji base w v l):∃a cap,v=J a l.length cap:=by
 obtain⟨us,_,h,_⟩:=h;rcases h.2with⟨rfl,h0⟩|⟨g,cap,cur,rfl,_⟩;·exact⟨G,0,by rw[h0]⟩
 ·exact⟨_,cap,rfl⟩
theorem AZ{base:Nat}{w W w1:F}{v:H}{l:List XI}(h:L w W G)(ho:Ji base W v l)(hb:w.heap.size<=base)(hg:L W w1 v.ownBlock):L w w1 G:=⟨hg.os.trans h.os,hg.tape.trans h.tape,hg.output.trans h.output,tQ h.size hg.size,fun i hi hn=>(hg.block i (tG hi h.size) (fun e=>by
 have:=(ho.lt i e.symm).1;omega)).trans (h.block i hi hn)⟩
theorem Ef{w:F}{o:rG}{a:Act}{K:Act->F->Prop}{Q:Exit->Act->F->Prop}(s x:rD)(ho:o.op=.call {callee:=.builtin .append,args:=#[s,x],argTypes:=#[113,113]})(base:Nat)(v:H)(l:List XI)(hs:a.eval s=v)(hown:Ji base w v l)(vw:H)(c:XI)(hw:Xp 0 w vw c.writes)(nb:Nat)(hb:w.heap[nb]?=I (S #[Y tB c.turn,vw] 206))(hx:a.eval x=J (I ⟨nb,0,G⟩) 1 1)(hl:(l.length+1)*32<=140737488355328)(hbase:base<=w.heap.size)(h:∀v' w',Ji base w' v' (l++[c])->L w w' v.ownBlock->K (a.put o.dst v') w'):o.wp O a w K Q:=by
 obtain⟨i0,hi,hz0,hz1,hz2⟩:=rV fN;have hrow:=hown.row0;obtain⟨us,hul,hr,_,hp⟩:=hown;refine wp_append_lies w s x 113 ho base 206 i0 (sQ #[Y tB 0,J G 0 0]) 2 32 Tryz.underlying113 hi hz0 hz1 hz2 rfl (by decide) v l.length (j9 us) hs hr ⟨nb,0,G⟩ 1 1 (j9 [(c,vw)]) hx rfl (sY (cs:=#[Y tB c.turn,vw]) hb) ?_ (by omega) (by unfold pG;omega) hl hbase _ rfl ?_;·intro u hu;simp only[j9,tN,rB,tL,tK,tM,or_false]at hu;rcases hu with rfl|rfl;(·rfl);·exact hw.oneCell
 ·intro g cap w' q1 q2 _ _;refine h _ w' ⟨us++[(c,vw)],by simp[hul],?_,fun e=>by simp at e,?_⟩ q2;(·rw[Mv,tC];exact q1);·intro y hy;rcases tZ.1 hy with hy|hy;(·exact(hp y hy).kept q2 hrow);·simp only[tK,tM,or_false]at hy;subst hy;exact hw.kept q2 hrow
theorem kO{w:F}{ops:Array rG}{rest:List rG}{o:rG}{a:Act}{Q:Exit->Act->F->Prop}(hgd:o.guard=G)(s x:rD)(ho:o.op=.call {callee:=.builtin .append,args:=#[s,x],argTypes:=#[113,113]})(base:Nat)(v:H)(l:List XI)(hs:a.eval s=v)(hown:Ji base w v l)(vw:H)(c:XI)(hw:Xp 0 w vw c.writes)(nb:Nat)(hb:w.heap[nb]?=I (S #[Y tB c.turn,vw] 206))(hx:a.eval x=J (I ⟨nb,0,G⟩) 1 1)(hl:(l.length+1)*32<=140737488355328)(hbase:base<=w.heap.size)(h:∀v' w',Ji base w' v' (l++[c])->L w w' v.ownBlock->wpList O ops Q rest (a.put o.dst v') w'):wpList O ops Q (o::rest) a w:=wpList_plain hgd fun _ hK=>Ef s x ho base v l hs hown vw c hw nb hb hx hl hbase fun v' w' h1 h2=>hK _ _ (h v' w' h1 h2)
theorem Ji.ne{base:Nat}{w:F}{v:H}{l:List XI}(h:Ji base w v l){b:Nat}{cs:Array H}{t:tY}{fz:Nat×Nat}(hb:w.heap[b]?=I (S cs t fz))(ht:t≠206):v.ownBlock≠I b:=by
 intro e;obtain⟨us,_,h,_⟩:=h;rcases h.2with⟨rfl,_⟩|⟨g,cap,cur,rfl,_,hg,_⟩;·cases e
 ·cases e;rw[hb]at hg;simp only[tA,tX]at hg;exact ht hg.2.1
theorem Ji.setOther{base:Nat}{w:F}{v:H}{l:List XI}(h:Ji base w v l){b i:Nat}{cs:Array H}{t:tY}{fz:Nat×Nat}(hb:w.heap[b]?=I (S cs t fz))(ht:t≠5)(ht2:t≠97)(ht3:t≠206)(u:H):Ji base (tD w ⟨b,i,G⟩ u) v l:=by
 have hne:=h.ne hb ht3;obtain⟨us,h1,h2,h0,h3⟩:=h;exact⟨us,h1,tU h2 (YX w b i u) (.inr hne),h0,fun x hx=>(h3 x hx).kept (YX w b i u) (.inr ⟨b,cs,t,fz,rfl,tR _,hb,ht,ht2⟩)⟩
theorem Ji.other{base:Nat}{w w':F}{v:H}{l:List XI}(h:Ji base w v l)(hg:L w w' v.ownBlock){b:Nat}{cs:Array H}{t:tY}{fz:Nat×Nat}(hb:w.heap[b]?=I (S cs t fz))(ht:t≠206):w'.heap[b]?=I (S cs t fz):=by
 rw[hg.block b (tI.1 hb).1 (fun e=>h.ne hb ht e.symm)];exact hb
def Iu:Prop:=∀(w:F)(v u:H)(t:Tx)(r:Rd),G4 w v t->xO t->YE w u r->P8 r->sZ O 119 #[v,u] w fun e w'=>∃x,e=tE (sG #[x,Y tB (Xn t r)])∧GY w' x (Yf t r)∧L w w' G
theorem Qf(w:F)(o:Obj):∃W:F,Hid (W=w.alloc o)∧L w W G∧Hid (W.heap[w.heap.size]?=I o):=⟨w.alloc o,rfl,sL _ _ _,oG w o⟩
theorem ZY{x y:Int}(h:x=y):tE (Y tB y)=tE (Y tB x):=by
 rw[h]
theorem YY{x y:Bool}(h:x=y):tE (tP y)=tE (tP x):=by
 rw[h]
theorem XF{W w:F}{b:Nat}{x y z:H}{t:tY}(hg:L W w G)(h:W.heap[b]?=I (S #[x,y,z] t)):w.cell? ⟨b,0,G⟩=I x∧w.cell? ⟨b,1,G⟩=I y∧w.cell? ⟨b,2,G⟩=I z:=by
 have hb:w.heap[b]?=I (S #[x,y,z] t):=by rw[hg.block b (tI.1 h).1 (by simp)];exact h
 refine⟨?_,?_,?_⟩<;>simp[tV,hb]
def MG(p:List Rd)(r:Rd):Int:=if XH r=0then(if p.any (fun q=>XJ q r)=M then 3 else 0)else XH r
def Dr(p:List Ze)(w:Ze):Int:=if QE w=0then(if p.any (fun q=>ZP q w)=M then 3 else 0)else QE w
theorem cJ(l:List Rd)(m:Nat)(h:m<l.length):G2 (l.take m) (l.drop m)=if MG (l.take m) (l.getD m Zf)=0then G2 (l.take (m+1)) (l.drop (m+1))else MG (l.take m) (l.getD m Zf):=by
 rw[sU h,G2,sX h,show l[m]=l.getD m Zf by simp[h]];unfold MG;by_cases h1:XH (l.getD m Zf)=0;·rw[if_pos h1,if_pos h1];by_cases h2:(l.take m).any (fun q=>XJ q (l.getD m Zf))=M;(·rw[if_pos h2,if_pos h2,if_neg (by omega)]);·rw[if_neg h2,if_neg h2,if_pos rfl]
 ·rw[if_neg h1,if_neg h1,if_neg h1]
theorem cV(l:List Ze)(m:Nat)(h:m<l.length):xY (l.take m) (l.drop m)=if Dr (l.take m) (l.getD m Qs)=0then xY (l.take (m+1)) (l.drop (m+1))else Dr (l.take m) (l.getD m Qs):=by
 rw[sU h,xY,sX h,show l[m]=l.getD m Qs by simp[h]];unfold Dr;by_cases h1:QE (l.getD m Qs)=0;·rw[if_pos h1,if_pos h1];by_cases h2:(l.take m).any (fun q=>ZP q (l.getD m Qs))=M;(·rw[if_pos h2,if_pos h2,if_neg (by omega)]);·rw[if_neg h2,if_neg h2,if_pos rfl]
 ·rw[if_neg h1,if_neg h1,if_neg h1]
theorem P7{α:Type}(d:α)(f:α->Bool)(l:List α)(k:Nat)(h:k<l.length):(l.take (k+1)).any f=((l.take k).any f||f (l.getD k d)):=by
 rw[sX h,List.any_append,show l[k]=l.getD k d by simp[h]];simp
theorem E9{α:Type}(d:α)(f:α->Bool)(l:List α)(k m:Nat)(hk:k<m)(hm:m<=l.length)(h:f (l.getD k d)=M):(l.take m).any f=M:=by
 rw[rA];refine⟨l.getD k d,?_,h⟩;rw[show l.getD k d=(l.take m)[k]'(by rw[rX];omega)by rw[List.getElem_take];simp[show k<l.length by omega]];exact sO _
theorem xA{w:F}{a:Option rC}{n cap:Nat}{l:List Rd}(h:Z9 w (J a n cap) l)(i:Nat)(hi:i<l.length):∃b o,a=I ⟨b,o,G⟩∧∃u1 u2 u3 u4 u5 u6,(w.cell? ⟨b,o+i*4,G⟩=I (J u1 (l.getD i Zf).name.length u2)∧w.cell? ⟨b,o+i*4+1,G⟩=I (J u3 (l.getD i Zf).key.length u4)∧w.cell? ⟨b,o+i*4+2,G⟩=I (tP (l.getD i Zf).wide)∧w.cell? ⟨b,o+i*4+3,G⟩=I (J u5 (l.getD i Zf).last.length u6))∧YE w (sQ #[J u1 (l.getD i Zf).name.length u2,J u3 (l.getD i Zf).key.length u4,tP (l.getD i Zf).wide,J u5 (l.getD i Zf).last.length u6]) (l.getD i Zf):=by
 obtain⟨b,o,rfl,hat⟩:=h.at i hi;obtain⟨vn,vk,vl,c1,c2,c3,c4,s1,s2,s3⟩:=hat;obtain⟨u1,u2,rfl⟩:=s1.shape;obtain⟨u3,u4,rfl⟩:=s2.shape;obtain⟨u5,u6,rfl⟩:=s3.shape;exact⟨b,o,rfl,u1,u2,u3,u4,u5,u6,⟨c1,c2,c3,c4⟩,⟨_,_,_,rfl,s1,s2,s3⟩⟩
theorem Yj{w:F}{a:Option rC}{n cap:Nat}{l:List Ze}(h:QQ w (J a n cap) l)(i:Nat)(hi:i<l.length):∃b o,a=I ⟨b,o,G⟩∧∃u1 u2 u3 u4 u5 u6,(w.cell? ⟨b,o+i*4,G⟩=I (J u1 (l.getD i Qs).name.length u2)∧w.cell? ⟨b,o+i*4+1,G⟩=I (J u3 (l.getD i Qs).key.length u4)∧w.cell? ⟨b,o+i*4+2,G⟩=I (tP (l.getD i Qs).gone)∧w.cell? ⟨b,o+i*4+3,G⟩=I (J u5 (l.getD i Qs).value.length u6))∧Xa w (sQ #[J u1 (l.getD i Qs).name.length u2,J u3 (l.getD i Qs).key.length u4,tP (l.getD i Qs).gone,J u5 (l.getD i Qs).value.length u6]) (l.getD i Qs):=by
 obtain⟨b,o,rfl,hat⟩:=h.at i hi;obtain⟨vn,vk,vl,c1,c2,c3,c4,s1,s2,s3⟩:=hat;obtain⟨u1,u2,rfl⟩:=s1.shape;obtain⟨u3,u4,rfl⟩:=s2.shape;obtain⟨u5,u6,rfl⟩:=s3.shape;exact⟨b,o,rfl,u1,u2,u3,u4,u5,u6,⟨c1,c2,c3,c4⟩,⟨_,_,_,rfl,s1,s2,s3⟩⟩
theorem En{x y:Bool}{a b:Int}(h:x=y)(k:a=b):tE (sG #[tP y,Y tB b])=tE (sG #[tP x,Y tB a]):=by
 rw[h,k]
theorem OQ{α:Type}(f:α->Bool)(l:List α)(d:α)(i:Nat)(hi:i<l.length)(h:f (l.getD i d)=M):l.any f=M:=by
 have:=E9 d f l i l.length hi (sB _) h;rw[sD]at this;exact this
theorem zL:(93:Nat)≠5:=by
 decide
theorem kC:(93:Nat)≠157:=by
 decide
theorem G7:(93:Nat)≠97:=by
 decide
theorem ZM.block{rb pb:Nat}{W w':F}{v:H}{l:List Rd}(ho:ZM rb pb W v l)(hg:L W w' v.ownBlock){b:Nat}{cs:Array H}{t:tY}{fz:Nat×Nat}(h:W.heap[b]?=I (S cs t fz))(ht:t≠157):w'.heap[b]?=I (S cs t fz):=by
 rw[hg.block b (tI.1 h).1 (fun e=>ho.ne h ht e.symm)];exact h
theorem Q5.block{rb pb:Nat}{W w':F}{v:H}{l:List Ze}(ho:Q5 rb pb W v l)(hg:L W w' v.ownBlock){b:Nat}{cs:Array H}{t:tY}{fz:Nat×Nat}(h:W.heap[b]?=I (S cs t fz))(ht:t≠97):w'.heap[b]?=I (S cs t fz):=by
 rw[hg.block b (tI.1 h).1 (fun e=>ho.ne h ht e.symm)];exact h
theorem ZM.keptV{rb rb':Nat}{W w':F}{v u:H}{l:List Rd}{k:List Ze}(hR:ZM rb 0 W v l)(hV:Q5 rb' 0 W u k)(hg:L W w' u.ownBlock):ZM rb 0 w' v l:=by
 refine hR.kept hg ?_ ?_;·rcases hR.row with h|⟨g,cur,fz,e,_,h⟩;(·exact .inl h);·refine .inr ?_;rw[e];exact fun e2=>hV.ne h (fun e=>lA e) e2.symm
 ·rcases hV.row with h|⟨g,cur,fz,e,_,h⟩;(·exact .inl h);·exact .inr ⟨g,cur,_,fz,e,tR _,h,uE⟩
theorem QJ{w:F}{b:Nat}{x y z:H}{t:tY}(h:w.heap[b]?=I (S #[x,y,z] t)):(w.cell? ⟨b,0,G⟩=I x∧w.cell? ⟨b,1,G⟩=I y∧w.cell? ⟨b,2,G⟩=I z)∧w.frozen? ⟨b,0,G⟩=N∧w.frozen? ⟨b,1,G⟩=N∧w.frozen? ⟨b,2,G⟩=N:=by
 refine⟨⟨?_,?_,?_⟩,?_,?_,?_⟩<;>simp[tV,rW,h]
theorem U7{rb:Nat}{w wr:F}{RB:Nat}{x y z:H}{st:Int}{va ua:Option rC}{n m vc uc:Nat}{R:List Rd}{V:List Ze}(h:wr.heap[RB]?=I (S #[x,y,z] 93))(hR:ZM rb 0 wr (J va n vc) R)(hV:Q5 rb 0 wr (J ua m uc) V)(hg:L w wr G)(hw:w.heap.size<=RB):((((tD wr ⟨RB,0,G⟩ (Y tB st)).setCell ⟨RB,1,G⟩ (J va n vc)).setCell ⟨RB,2,G⟩ (J ua m uc)).cell? ⟨RB,0,G⟩=I (Y tB st)∧(((tD wr ⟨RB,0,G⟩ (Y tB st)).setCell ⟨RB,1,G⟩ (J va n vc)).setCell ⟨RB,2,G⟩ (J ua m uc)).cell? ⟨RB,1,G⟩=I (J va n vc)∧(((tD wr ⟨RB,0,G⟩ (Y tB st)).setCell ⟨RB,1,G⟩ (J va n vc)).setCell ⟨RB,2,G⟩ (J ua m uc)).cell? ⟨RB,2,G⟩=I (J ua m uc))∧ZM rb 0 (((tD wr ⟨RB,0,G⟩ (Y tB st)).setCell ⟨RB,1,G⟩ (J va n vc)).setCell ⟨RB,2,G⟩ (J ua m uc)) (J va n vc) R∧Q5 rb 0 (((tD wr ⟨RB,0,G⟩ (Y tB st)).setCell ⟨RB,1,G⟩ (J va n vc)).setCell ⟨RB,2,G⟩ (J ua m uc)) (J ua m uc) V∧L w (((tD wr ⟨RB,0,G⟩ (Y tB st)).setCell ⟨RB,1,G⟩ (J va n vc)).setCell ⟨RB,2,G⟩ (J ua m uc)) G:=by
 have b1:=Qk (i:=0) (u:=Y tB st) h;have b2:=Qk (i:=1) (u:=J va n vc) b1;have b3:=Qk (i:=2) (u:=J ua m uc) b2;exact⟨(QJ (x:=Y tB st) (y:=J va n vc) (z:=J ua m uc) b3).1,((hR.setOther h zL kC (tR _) _).setOther b1 zL kC (tR _) _).setOther b2 zL kC (tR _) _,((hV.setOther h zL G7 (tR _) _).setOther b1 zL G7 (tR _) _).setOther b2 zL G7 (tR _) _,Qd (Qd (Qd hg _ hw _ _) _ hw _ _) _ hw _ _⟩
theorem Q5.keptR{rb rb':Nat}{W w':F}{v u:H}{l:List Ze}{k:List Rd}(hV:Q5 rb 0 W v l)(hR:ZM rb' 0 W u k)(hg:L W w' u.ownBlock):Q5 rb 0 w' v l:=by
 refine hV.kept hg ?_ ?_;·rcases hV.row with h|⟨g,cur,fz,e,_,h⟩;(·exact .inl h);·refine .inr ?_;rw[e];exact fun e2=>hR.ne h (fun e=>lA e.symm) e2.symm
 ·rcases hR.row with h|⟨g,cur,fz,e,_,h⟩;(·exact .inl h);·exact .inr ⟨g,cur,_,fz,e,tR _,h,iT⟩
theorem GN{w:F}{v1 v2:H}{st:Int}{R:List Rd}{V:List Ze}{rb:Nat}{t:Tx}(e:t=⟨st,R,V⟩)(h1:ZM rb 0 w v1 R)(h2:Q5 rb 0 w v2 V):GY w (sQ #[Y tB st,v1,v2]) t:=by
 subst e;exact⟨_,_,rfl,h1.down 0 (tR _),h2.down 0 (tR _)⟩
theorem U5{v:H}{a b:Int}(h:a=b):tE (sG #[v,Y tB b])=tE (sG #[v,Y tB a]):=by
 rw[h]
theorem LZ:∀(l:List Ze)(w:Ze)(m:Nat),m<l.length->(l.take m).any (fun q=>ZP q w)=N->ZP (l.getD m Qs) w=M->xD l w=l.set m w|[],_,_,h,_,_=>by simp at h|a::l,w,0,_,_,h=>by have h':ZP a w=M:=h;rw[xD,if_pos h'];rfl|a::l,w,m+1,h0,h1,h2=>by rw[rF,pC,rO]at h1;rw[xD,if_neg (by rw[h1.1];decide),pN,LZ l w m (by simpa using h0) h1.2 (by simpa using h2)]
theorem DM:∀(l:List Ze)(w:Ze),l.any (fun q=>ZP q w)=N->xD l w=l++[w]|[],_,_=>rfl|a::l,w,h=>by rw[pC,rO]at h;rw[xD,if_neg (by rw[h.1];decide),DM l w h.2];rfl
theorem Q5.zero{rb:Nat}{w:F}{b o n cap:Nat}{l:List Ze}(h:Q5 rb 0 w (J (I ⟨b,o,G⟩) n cap) l):o=0:=by
 obtain⟨us,hl,hr,h3⟩:=h;rcases hr.2with⟨e,_⟩|⟨g',cap',cur,e,_⟩;·cases e
 ·simp only[tH,tA,rK]at e;exact e.1.2.1
theorem Q5.frozenT{rb:Nat}{w:F}{g n cap:Nat}{l:List Ze}(h:Q5 rb 0 w (J (I ⟨g,0,G⟩) n cap) l)(j:Nat):w.frozen? ⟨g,j,G⟩=N:=by
 obtain⟨us,hl,hr,h3⟩:=h;rcases hr.2with⟨e,_⟩|⟨g',cap',cur,e,hb,hg,_⟩;·cases e
 ·simp only[tH,tA,rK]at e;obtain⟨⟨rfl,_⟩,_⟩:=e;simp[rW,hg]
theorem Ep:∀(us:List WV)(i:Nat)(x:WV),Jg (us.set i x)=((((Jg us).set (i*4) x.2.1).set (i*4+1) x.2.2.1).set (i*4+2) (tP x.1.gone)).set (i*4+3) x.2.2.2|[],i,x=>by simp[Jg]|y::us,0,x=>by simp[Jg]|y::us,i+1,x=>by have ih:=Ep us i x;(have e:∀us:List WV,Jg (y::us)=y.2.1::y.2.2.1::tP y.1.gone::y.2.2.2::Jg us:=fun us=>by simp[Jg]);rw[pN,e,e,ih,show(i+1)*4=i*4+4by omega];rfl
theorem Q5.setT{rb:Nat}{w:F}{g n cap:Nat}{l:List Ze}(h:Q5 rb 0 w (J (I ⟨g,0,G⟩) n cap) l)(i:Nat)(vn vk vv:H)(p:Ze)(h1:Qi 0 w vn p.name)(h2:Qi 0 w vk p.key)(h3:Qi 0 w vv p.value):Q5 rb 0 ((((tD w ⟨g,i*4,G⟩ vn).setCell ⟨g,i*4+1,G⟩ vk).setCell ⟨g,i*4+2,G⟩ (tP p.gone)).setCell ⟨g,i*4+3,G⟩ vv) (J (I ⟨g,0,G⟩) n cap) (l.set i p):=by
 obtain⟨us,hul,hr,hp⟩:=h;have hgr:L w ((((tD w ⟨g,i*4,G⟩ vn).setCell ⟨g,i*4+1,G⟩ vk).setCell ⟨g,i*4+2,G⟩ (tP p.gone)).setCell ⟨g,i*4+3,G⟩ vv) (I g):=Qh (Qh (Qh (Qh (Qb _ _) _ _) _ _) _ _) _ _;rcases hr.2with⟨e,_⟩|⟨g',cap',cur,e,hb,hg,hn,hm,hs,ht⟩;·cases e
 ·simp only[tH,tA,rK]at e;obtain⟨⟨rfl,_⟩,rfl,rfl⟩:=e;have hrow:(I g:Option Nat)=G∨∃g' cur t fz,(I g:Option Nat)=I g'∧0<=g'∧w.heap[g']?=I (S cur t fz)∧t≠5:=.inr ⟨g,cur,_,_,rfl,tR _,hg,uE⟩;(have hus:us.length=l.length:=by rw[<-hul];simp);refine⟨us.set i (p,vn,vk,vv),by rw[List.map_set,hul],⟨by rw[Wp,rP,rP,hus],.inr ⟨g,cap,_,by rw[rP],hb,Qk (Qk (Qk (Qk hg))),by rw[rP];exact hn,hm,by simpa using hs,?_⟩⟩,?_⟩;(·rw[Ep,rP];simp only[Array.toList_setIfInBounds];rw[pD,pD,pD,pD,ht]);·intro x hx;rcases List.mem_or_eq_of_mem_set hx with hx|rfl;(·exact⟨(hp x hx).1.keptT hgr hrow,(hp x hx).2.1.keptT hgr hrow,(hp x hx).2.2.keptT hgr hrow⟩);·exact⟨h1.keptT hgr hrow,h2.keptT hgr hrow,h3.keptT hgr hrow⟩
def Uo(n k:List UInt8)(q:Ze):Bool:=tS (q.name=n)&&tS (q.key=k)
theorem BD{α:Type}(p:α->Bool)(d:α):∀(l:List α)(m:Nat),m<l.length->(l.take m).any p=N->p (l.getD m d)=M->l.find? p=I (l.getD m d)|[],_,h,_,_=>by simp at h|a::l,0,_,_,h=>by have h':p a=M:=h;rw[List.find?_cons_of_pos h'];rfl|a::l,m+1,h0,h1,h2=>by rw[rF,pC,rO]at h1;rw[List.find?_cons_of_neg (by rw[h1.1];decide),BD p d l m (by simpa using h0) h1.2 (by simpa using h2)];simp
theorem Hc{α:Type}(p:α->Bool)(l:List α)(h:l.any p=N):l.find? p=G:=by
 rw[List.find?_eq_none];intro x hx hp;rw[List.any_eq_false]at h;exact h x hx hp
theorem iB{l:List Ze}{n k:List UInt8}{m:Nat}(h:m<l.length)(h1:(l.take m).any (Uo n k)=N)(h2:Uo n k (l.getD m Qs)=M):iV l n k=I (l.getD m Qs):=BD (Uo n k) Qs l m h h1 h2
theorem dX{l:List Ze}{n k:List UInt8}(h:l.any (Uo n k)=N):iV l n k=G:=Hc (Uo n k) l h
theorem Ou{l:FL}{t:Tx}{n k:List UInt8}(h:KO l t n k≠0):VV l t n k=N∧Vn l t n k=N∧Vb l t n k=[]:=by
 rw[VV,Vn,Vb,if_neg h,if_neg h,if_neg h];exact⟨rfl,rfl,rfl⟩
theorem eX{l:FL}{t:Tx}{n k:List UInt8}(h:zV l t≠0):KO l t n k=zV l t:=by
 rw[KO,if_neg h]
theorem DV{l:FL}{t:Tx}(h:zV l t=0):Xq l∧qO t:=by
 unfold zV at h;by_cases hf:Q8 l=0;·rw[if_pos hf]at h;exact⟨(Yc l).1 hf,(uA t).1 h⟩
 ·rw[if_neg hf]at h;exact absurd h hf
theorem bY{l:FL}{t:Tx}{n k:List UInt8}(h:zV l t=0){m:Nat}(hm:m<t.writes.length)(h1:(t.writes.take m).any (Uo n k)=N)(h2:Uo n k (t.writes.getD m Qs)=M):KO l t n k=0∧VV l t n k=M∧Vn l t n k=!(t.writes.getD m Qs).gone∧Vb l t n k=(t.writes.getD m Qs).value:=by
 obtain⟨hf,ht⟩:=DV h;have ha:=iB hm h1 h2;have hs:=OM ha;have hw:=(XO _).1 (ht.wrs _ hs.1);rw[hs.2.1,hs.2.2]at hw;have h0:=Lj hf ht hw.1 hw.2.1;refine⟨h0,?_,?_,?_⟩;·rw[VV,if_pos h0,ha];rfl
 ·rw[Vn,if_pos h0,ha]
 ·rw[Vb,if_pos h0,ha]
theorem bV{l:FL}{t:Tx}{n k:List UInt8}(h:zV l t=0)(h1:t.writes.any (Uo n k)=N):KO l t n k=VQ l n k∧VV l t n k=N∧Vn l t n k=Vl l n k∧Vb l t n k=Vm l n k:=by
 obtain⟨hf,ht⟩:=DV h;have ha:=dX h1;have hfo:=(Yc l).2 hf;have hE:KO l t n k=VQ l n k:=by rw[KO,if_pos h,VQ,qK,if_pos hfo];by_cases hn:Qt n.length=0;(·rw[if_pos hn,if_pos hn,Xb,if_pos ((Y0 _).2 (Ur hf n))]);·rw[if_neg hn,if_neg hn]
 refine⟨hE,?_,?_,?_⟩;·rw[VV,ha];by_cases h0:KO l t n k=0;(·rw[if_pos h0];rfl);·rw[if_neg h0]
 ·rw[Vn,ha];by_cases h0:KO l t n k=0;(·rw[if_pos h0]);·rw[if_neg h0];rw[hE]at h0;rw[Vl];by_cases hn:qK l n=0;(·rw[VQ,if_pos hn]at h0;rw[if_pos hn,Ev];simp[h0]);·rw[if_neg hn]
 ·rw[Vb,ha];by_cases h0:KO l t n k=0;(·rw[if_pos h0]);·rw[if_neg h0];rw[hE]at h0;rw[Vm];by_cases hn:qK l n=0;(·rw[VQ,if_pos hn]at h0;rw[if_pos hn,Ey,if_neg h0]);·rw[if_neg hn]
theorem IS{X:PL}(h:ZA X)(k:List UInt8):ZA (kK X k):=⟨tQ (Lo X k) h.room,fun p hp=>h.pairs p (pX.1 hp).1,NW X k h.rises⟩
theorem DN{X:PL}(h:ZA X)(f u:List UInt8):ZA (Vq X f u):=⟨tQ (Ib X f u) h.room,fun p hp=>h.pairs p (pX.1 hp).1,Bs X f u h.rises⟩
theorem Hn{X:PL}(h:ZA X){p:Pr}(hp:(1<=p.1.length∧p.1.length<=16)∧p.2.length<=32)(hl:(Km X p).length<=60):ZA (Km X p):=⟨hl,Ni X p h.pairs hp,Po X p h.rises⟩
theorem kD(n a b:List UInt8)(w:Ze):XU ⟨n,a,M,b⟩ w=M↔w.name=n∧lC a b w.key=M:=by
 show(tS (n=w.name)&&lC a b w.key)=M↔_;rw[rM,decide_eq_true_iff];exact⟨fun h=>⟨h.1.symm,h.2⟩,fun h=>⟨h.1.symm,h.2⟩⟩
theorem Od{n a b:List UInt8}{w:Ze}(h:XU ⟨n,a,M,b⟩ w=N)(X:PL):KI n a b X w=X:=by
 rw[KI,if_neg];intro e;rw[(kD n a b w).2 e]at h;cases h
theorem aX{n a b:List UInt8}{w:Ze}(h:XU ⟨n,a,M,b⟩ w=M)(hg:w.gone=M){X:PL}(hX:ZA X)(hw:QE w=0):Xb X w.key=0∧z8 X w.key=KI n a b X w∧ZA (KI n a b X w):=by
 have hk:=((XO w).1 hw).2.1;have h0:=Pc hX hk;have e:KI n a b X w=kK X w.key:=by rw[KI,if_pos ((kD n a b w).1 h),if_pos hg]
 refine⟨h0,by rw[e,z8,if_pos h0],by rw[e];exact IS hX _⟩
theorem bS{n a b:List UInt8}{w:Ze}(h:XU ⟨n,a,M,b⟩ w=M)(hg:w.gone=N){X:PL}(hX:ZA X)(hw:QE w=0):KI n a b X w=Km X (w.key,w.value)∧(60<(KI n a b X w).length->Ku X (w.key,w.value)=11)∧(¬60<(KI n a b X w).length->Ku X (w.key,w.value)=0∧Vz X (w.key,w.value)=KI n a b X w∧ZA (KI n a b X w)):=by
 have hk:=(XO w).1 hw;have hv:w.value.length<=32:=by have:=hk.2.2;rw[hg,if_neg (by decide)]at this;exact this
 have e:KI n a b X w=Km X (w.key,w.value):=by rw[KI,if_pos ((kD n a b w).1 h),hg,if_neg (by decide)]
 have h0:Gb X (w.key,w.value)=0:=by rw[Gb,if_pos ((Y0 X).2 hX)];exact(JM _).2 ⟨hk.2.1,hv⟩
 refine⟨e,fun hl=>?_,fun hl=>?_⟩;·rw[e]at hl;rw[Ku,if_pos h0,if_pos hl]
 ·rw[e]at hl;(have h1:Ku X (w.key,w.value)=0:=by rw[Ku,if_pos h0,if_neg hl]);refine⟨h1,by rw[e,Vz,if_pos h1],?_⟩;rw[e];exact Hn hX ⟨hk.2.1,hv⟩ (by omega)
def Jz(n a b:List UInt8)(X:PL)(ws:List Ze):Int×PL:=(zH n a b X ws,if zH n a b X ws=0then Dd n a b X ws else[])
theorem Lb(n a b:List UInt8)(X:PL):Jz n a b X []=(0,X):=rfl
theorem Py{n a b:List UInt8}{X:PL}{ws:List Ze}{m:Nat}(hm:m<ws.length)(h:¬60<(KI n a b X (ws.getD m Qs)).length):Jz n a b X (ws.drop m)=Jz n a b (KI n a b X (ws.getD m Qs)) (ws.drop (m+1)):=by
 rw[sU hm,show ws[m]=ws.getD m Qs by simp[hm]];rw[Jz,Jz,zH,if_neg h];rfl
theorem Cu{n a b:List UInt8}{X:PL}{ws:List Ze}{m:Nat}(hm:m<ws.length)(h:60<(KI n a b X (ws.getD m Qs)).length):Jz n a b X (ws.drop m)=(11,[]):=by
 rw[sU hm,show ws[m]=ws.getD m Qs by simp[hm]];rw[Jz,zH,if_pos h,if_neg (by decide)]
theorem Lp{l:FL}{t:Tx}{n a b:List UInt8}(h:zV l t≠0):KD l t n a b=zV l t∧Vx l t n a b=[]:=by
 have e:KD l t n a b=zV l t:=by rw[KD,if_neg h]
 exact⟨e,by rw[Vx,e,if_neg h]⟩
theorem RK{l:FL}{t:Tx}{n a b:List UInt8}(h:zV l t=0)(h1:X8 l n a b≠0):KD l t n a b=X8 l n a b∧Vx l t n a b=[]:=by
 obtain⟨hf,ht⟩:=DV h;have hfo:=(Yc l).2 hf;have e:KD l t n a b=X8 l n a b:=by(have hE:X8 l n a b=if Qt n.length=0then(if Qq a.length=0then Qq b.length else Qq a.length)else Qt n.length:=by rw[X8,qK,if_pos hfo];by_cases hn:Qt n.length=0;(·rw[if_pos hn,if_pos hn,YL,Xb,if_pos ((Y0 _).2 (Ur hf n))]);·rw[if_neg hn,if_neg hn]);rw[KD,if_pos h,hE];by_cases hn:Qt n.length=0;(·rw[if_pos hn,if_pos hn];by_cases ha:Qq a.length=0;(·rw[if_pos ha,if_pos ha];by_cases hb:Qq b.length=0;(·rw[hE,if_pos hn,if_pos ha]at h1;exact absurd hb h1);·rw[if_neg hb]);·rw[if_neg ha,if_neg ha]);·rw[if_neg hn,if_neg hn]
 exact⟨e,by rw[Vx,e,if_neg h1]⟩
theorem TZ{l:FL}{t:Tx}{n a b:List UInt8}(h:zV l t=0)(h1:X8 l n a b=0):Jz n a b (Kw l n a b) t.writes=(KD l t n a b,Vx l t n a b)∧ZA (Kw l n a b):=by
 obtain⟨hf,ht⟩:=DV h;have hfo:=(Yc l).2 hf;have hn:qK l n=0:=by by_cases hn:qK l n=0;(·exact hn);·rw[X8,if_neg hn]at h1;exact absurd h1 hn
 have hr:YL (Jr l n) a b=0:=by rw[X8,if_pos hn]at h1;exact h1
 have hg:=Ak hr;have hb:Qq b.length=0:=by rw[YL,if_pos hg]at hr;exact hr
 have ha:Qq a.length=0:=(Zu _).2 (O9 hg);have hnn:Qt n.length=0:=(Zy _).2 (zA hn).2;have e:Kw l n a b=Vq (Jr l n) a b:=by rw[Kw,if_pos hn,K3,if_pos hr]
 have eE:KD l t n a b=zH n a b (Vq (Jr l n) a b) t.writes:=by rw[KD,if_pos h,if_pos hnn,if_pos ha,if_pos hb]
 refine⟨?_,by rw[e];exact DN (Ur hf n) a b⟩;rw[e,Jz,Vx,eE]
def Ia:Prop:=∀(w:F)(v:H)(t:Tx),G4 w v t->xO t->sZ O 46 #[v] w fun e w'=>e=tE (Y tB (Gt t))∧L w w' G
def I7:Prop:=∀(w:F)(v:H)(l:PL),Qr w v l->uF l->sZ O 58 #[v] w fun e w'=>e=tE (Y tB (QC l))∧L w w' G
theorem FX{w:F}{o:rG}{a:Act}{K:Act->F->Prop}{Q:Exit->Act->F->Prop}(s x:rD)(ho:o.op=.call {callee:=.builtin .append,args:=#[s,x],argTypes:=#[39,39]})(rb base:Nat)(hrb:base<=rb)(v:H)(l:PL)(hs:a.eval s=v)(hown:KG rb base w v l)(vk vv:H)(p:Pr)(hk:Qi base w vk p.1)(hv:Qi base w vv p.2)(nb:Nat)(hb:w.heap[nb]?=I (S #[vk,vv] 42))(hx:a.eval x=J (I ⟨nb,0,G⟩) 1 1)(hl:(l.length+1)*48<=140737488355328)(hbase:rb<=w.heap.size)(h:∀v' w',KG rb base w' v' (l++[p])->L w w' v.ownBlock->K (a.put o.dst v') w'):o.wp O a w K Q:=by
 obtain⟨i0,hi,hz0,hz1,hz2⟩:=rV CQ;have hrow:=hown.row hrb;obtain⟨vs,hvl,hr,hp⟩:=hown;refine wp_append_lies w s x 39 ho rb 42 i0 (sQ #[J G 0 0,J G 0 0]) 2 48 Tryz.underlying39 hi hz0 hz1 hz2 rfl (by decide) v l.length (flat vs) hs hr ⟨nb,0,G⟩ 1 1 (flat [(vk,vv)]) hx rfl (sY (cs:=#[vk,vv]) hb) ?_ (by omega) (by unfold pG;omega) hl hbase _ rfl ?_;·intro u hu;simp only[flat,tN,rB,tL,tK,tM,or_false]at hu;rcases hu with rfl|rfl;(·exact Zv hk);·exact Zv hv
 ·intro g cap w' h1 h2 _ _;refine h _ w' ⟨vs++[(vk,vv)],by simp[hvl],?_,?_⟩ h2;(·rw[J7,tC];exact h1);·intro i hi;rw[Ju,Ju,hvl];by_cases hil:i<l.length;(·rw[if_pos hil,if_pos hil];exact⟨(hp i hil).1.kept h2 hrow,(hp i hil).2.kept h2 hrow⟩);·rw[if_neg hil,if_neg hil];(obtain rfl:i=l.length:=by simp at hi;omega);rw[oF];exact⟨hk.kept h2 hrow,hv.kept h2 hrow⟩
theorem Gp{w:F}{ops:Array rG}{o:rG}{a:Act}{K:Act->F->Prop}{Q:Exit->Act->F->Prop}{E:Prop}(hgd:o.guard=G)(s x:rD)(ho:o.op=.call {callee:=.builtin .append,args:=#[s,x],argTypes:=#[39,39]})(rb base:Nat)(hrb:base<=rb)(v:H)(l:PL)(hs:a.eval s=v)(hown:KG rb base w v l)(vk vv:H)(p:Pr)(hk:Qi base w vk p.1)(hv:Qi base w vv p.2)(nb:Nat)(hb:w.heap[nb]?=I (S #[vk,vv] 42))(hx:a.eval x=J (I ⟨nb,0,G⟩) 1 1)(hl:(l.length+1)*48<=140737488355328)(hbase:rb<=w.heap.size)(h:∀v' w',KG rb base w' v' (l++[p])->L w w' v.ownBlock->K (a.put o.dst v') w'):if sE o (pA ops a.tmps)=M then Oper.wp O o a w K Q else E:=by
 have hw:sE o (pA ops a.tmps)=M:=by simp[sE,hgd]
 rw[if_pos hw];exact FX s x ho rb base hrb v l hs hown vk vv p hk hv nb hb hx hl hbase h
theorem RZ(w:F):(sizeOf (O.elem 39)).run O w=.ok 2 w:=by
 kernel_rfl
theorem Qr.sliced{w:F}{a:Option rC}{cap:Nat}{l:PL}(h:Qr w (J a l.length cap) l)(i j:Nat)(hij:i<=j)(hj:j<=l.length):Qr w (sP a i j cap 2) ((l.take j).drop i):=by
 obtain⟨a',cap',e,hc,h⟩:=h;simp only[tH,true_and]at e;obtain⟨rfl,rfl⟩:=e;have hlen:((l.take j).drop i).length=j-i:=by simp;omega
 refine⟨if cap=i then a else a.map (·.add (i*2)),cap-i,by rw[hlen];rfl,by rw[hlen];omega,?_⟩;by_cases hci:cap=i;·left;exact⟨tJ (by rw[hlen];omega),fun _=>by omega⟩
 ·rw[if_neg hci];rcases h with⟨rfl,h⟩|⟨b,o,rfl,h⟩;(·left;refine⟨by simp,fun e=>?_⟩;cases a with|none=>have:=h rfl;simp at hj;omega|some x=>cases e);·right;refine⟨b,o+i*2,by simp[Z4],fun k hk=>?_⟩;rw[hlen]at hk;have:=h (i+k) (by omega);(have e:((l.take j).drop i).getD k ([],[])=l.getD (i+k) ([],[]):=by simp[show i+k<j by omega]);rw[e,show o+i*2+k*2=o+(i+k)*2by omega];exact this
theorem vR(a:Option rC)(cap:Nat)(l:PL)(n:Nat)(hn:n<=l.length)(hc:l.length<=cap):∃a1 c1,(∀W,(rT 39 (J a l.length cap) G (I (Y tB (n:Int))) G).run O W=.ok (J a1 n c1) W)∧∀W,Qr W (J a l.length cap) l->Qr W (J a1 n c1) (l.take n):=by
 refine⟨if cap=0then a else a.map (·.add (0*2)),cap-0,fun W=>?_,fun W h=>?_⟩;·rw[run_slice_h _ _ _ _ _ (by kernel_rfl) _ _ (by omega) (by omega),RZ];simp only[rJ,sP,sW,pE]
 ·have:=h.sliced 0 n (by omega) hn;simpa only[sP,oE,pE]using this
theorem Pd(a:Option rC)(cap:Nat)(l:PL)(n:Nat)(hn:n<=l.length):∃a1 c1,(∀W,(rT 39 (J a l.length cap) (I (Y tB (n:Int))) G G).run O W=.ok (J a1 (l.length-n) c1) W)∧∀W,Qr W (J a l.length cap) l->Qr W (J a1 (l.length-n) c1) (l.drop n):=by
 refine⟨if cap=n then a else a.map (·.add (n*2)),cap-n,fun W=>?_,fun W h=>?_⟩;·rw[run_slice_l _ _ _ _ _ (by kernel_rfl) _ _ (by omega) (by omega),RZ];simp only[rJ,sP,sW]
 ·have:=h.sliced n l.length hn (sB _);simpa only[sP,sD]using this
theorem Mi(a:Option rC)(cap:Nat)(l:PL)(i j:Nat)(hij:i<=j)(hj:j<=l.length)(hc:l.length<=cap):∃a1 c1,(∀W,(rT 39 (J a l.length cap) (I (Y tB (i:Int))) (I (Y tB (j:Int))) G).run O W=.ok (J a1 (j-i) c1) W)∧∀W,Qr W (J a l.length cap) l->Qr W (J a1 (j-i) c1) ((l.take j).drop i):=by
 refine⟨if cap=i then a else a.map (·.add (i*2)),cap-i,fun W=>?_,fun W h=>?_⟩;·rw[run_slice_lh _ _ _ _ _ (by kernel_rfl) _ _ _ _ (by omega) (by omega) (by omega),RZ];simp only[rJ,sP,sW]
 ·have:=h.sliced i j hij hj;simpa only[sP]using this
theorem Qr.cap{w:F}{a:Option rC}{n cap:Nat}{l:PL}(h:Qr w (J a n cap) l):l.length<=cap:=by
 obtain⟨a',cap',e,hc,_⟩:=h;simp only[tH]at e;obtain⟨_,_,rfl⟩:=e;exact hc
def bO:Prop:=∀(w:F)(v:H)(l:FL),Zx w v l->UI l->sZ O 43 #[v] w fun e w'=>e=tE (Y tB (Q8 l))∧L w w' G
def DW:Prop:=∀(w:F)(v u:H)(l:FL)(ws:List Ze),Zx w v l->QQ w u ws->UI l->uJ ws->sZ O 26 #[v,u] w fun e w'=>∃x,e=tE (sG #[x,Y tB (Q4 l ws)])∧Zx w' x (Xy l ws)∧L w w' G
theorem Zz.down{base:Nat}{w:F}{v:H}{l:FL}(h:Zz base w v l)(b2:Nat)(hb:b2<=base):Zz b2 w v l:=by
 obtain⟨vs,h1,h2,h3⟩:=h;refine⟨vs,h1,⟨h2.1,?_⟩,h3⟩;rcases h2.2with h|⟨g,cap,cur,e,hb2,rest⟩;·exact .inl h
 ·exact .inr ⟨g,cap,cur,e,tQ hb hb2,rest⟩
def yJ:Prop:=∀(w:F)(v u:H)(l:FL)(ws:List Ze),Zx w v l->QQ w u ws->UI l->uJ ws->sZ O 26 #[v,u] w fun e w'=>∃x,e=tE (sG #[x,Y tB (Q4 l ws)])∧Zz w.heap.size w' x (Xy l ws)∧L w w' G
theorem yJ.ok(h:yJ):DW:=fun w v u l ws h1 h2 h3 h4=>(h w v u l ws h1 h2 h3 h4).mono (by
 rintro e w'⟨x,rfl,hx,hg⟩;exact⟨x,rfl,hx.list,hg⟩)
theorem zG(w:F)(b i:Nat)(u:H):∃W:F,Hid (W=tD w ⟨b,i,G⟩ u)∧L w W (I b):=⟨_,rfl,YX w b i u⟩
theorem zP{w:F}{ops:Array rG}{o:rG}{a:Act}{K:Act->F->Prop}{Q:Exit->Act->F->Prop}{E:Prop}(hgd:o.guard=G)(s x:rD)(ho:o.op=.call {callee:=.builtin .append,args:=#[s,x],argTypes:=#[56,56]})(rb:Nat)(v:H)(l:List Ze)(hs:a.eval s=v)(hown:Q5 rb 0 w v l)(vn vk vv:H)(p:Ze)(h1:Qi 0 w vn p.name)(h2:Qi 0 w vk p.key)(h3:Qi 0 w vv p.value)(nb:Nat)(hb:w.heap[nb]?=I (S #[vn,vk,tP p.gone,vv] 97))(hx:a.eval x=J (I ⟨nb,0,G⟩) 1 1)(hl:(l.length+1)*80<=140737488355328)(hbase:rb<=w.heap.size)(h:∀v' w',Q5 rb 0 w' v' (l++[p])->L w w' v.ownBlock->K (a.put o.dst v') w'):if sE o (pA ops a.tmps)=M then Oper.wp O o a w K Q else E:=by
 have hw:sE o (pA ops a.tmps)=M:=by simp[sE,hgd]
 rw[if_pos hw];obtain⟨i0,hi,hz0,hz1,hz2⟩:=rV cR;have hrow:v.ownBlock=G∨∃g cur t fz,v.ownBlock=I g∧0<=g∧w.heap[g]?=I (S cur t fz)∧t≠5:=by rcases hown.row with h|⟨g,cur,fz,e,_,h⟩;(·exact .inl h);·exact .inr ⟨g,cur,_,fz,e,tR _,h,uE⟩
 obtain⟨us,hul,hr,hp⟩:=hown;refine wp_append_lies w s x 56 ho rb 97 i0 (sQ #[J G 0 0,J G 0 0,tP N,J G 0 0]) 4 80 Tryz.underlying56 hi hz0 hz1 hz2 rfl (by decide) v l.length (Jg us) hs hr ⟨nb,0,G⟩ 1 1 (Jg [(p,vn,vk,vv)]) hx rfl (sY (cs:=#[vn,vk,tP p.gone,vv]) hb) ?_ (by omega) (by unfold pG;omega) hl hbase _ rfl ?_;·intro u hu;simp only[Jg,tN,rB,tL,tK,tM,or_false]at hu;rcases hu with rfl|rfl|rfl|rfl;(·exact Zv h1);(·exact Zv h2);(·rfl);·exact Zv h3
 ·intro g cap w' q1 q2 _ _;refine h _ w' ⟨us++[(p,vn,vk,vv)],by simp[hul],?_,?_⟩ q2;(·rw[uR,tC];exact q1);·intro y hy;rcases tZ.1 hy with hy|hy;(·exact⟨(hp y hy).1.keptT q2 hrow,(hp y hy).2.1.keptT q2 hrow,(hp y hy).2.2.keptT q2 hrow⟩);·simp only[tK,tM,or_false]at hy;subst hy;exact⟨h1.keptT q2 hrow,h2.keptT q2 hrow,h3.keptT q2 hrow⟩
theorem xZ{w:F}{ops:Array rG}{o:rG}{a:Act}{K:Act->F->Prop}{Q:Exit->Act->F->Prop}{E:Prop}(hgd:o.guard=G)(s x:rD)(ho:o.op=.call {callee:=.builtin .append,args:=#[s,x],argTypes:=#[91,91]})(rb:Nat)(v:H)(l:List Rd)(hs:a.eval s=v)(hown:ZM rb 0 w v l)(vn vk vv:H)(p:Rd)(h1:Qi 0 w vn p.name)(h2:Qi 0 w vk p.key)(h3:Qi 0 w vv p.last)(nb:Nat)(hb:w.heap[nb]?=I (S #[vn,vk,tP p.wide,vv] 157))(hx:a.eval x=J (I ⟨nb,0,G⟩) 1 1)(hl:(l.length+1)*80<=140737488355328)(hbase:rb<=w.heap.size)(h:∀v' w',ZM rb 0 w' v' (l++[p])->L w w' v.ownBlock->K (a.put o.dst v') w'):if sE o (pA ops a.tmps)=M then Oper.wp O o a w K Q else E:=by
 have hw:sE o (pA ops a.tmps)=M:=by simp[sE,hgd]
 rw[if_pos hw];obtain⟨i0,hi,hz0,hz1,hz2⟩:=rV iR;have hrow:v.ownBlock=G∨∃g cur t fz,v.ownBlock=I g∧0<=g∧w.heap[g]?=I (S cur t fz)∧t≠5:=by rcases hown.row with h|⟨g,cur,fz,e,_,h⟩;(·exact .inl h);·exact .inr ⟨g,cur,_,fz,e,tR _,h,iT⟩
 obtain⟨us,hul,hr,hp⟩:=hown;refine wp_append_lies w s x 91 ho rb 157 i0 (sQ #[J G 0 0,J G 0 0,tP N,J G 0 0]) 4 80 Tryz.underlying91 hi hz0 hz1 hz2 rfl (by decide) v l.length (GA us) hs hr ⟨nb,0,G⟩ 1 1 (GA [(p,vn,vk,vv)]) hx rfl (sY (cs:=#[vn,vk,tP p.wide,vv]) hb) ?_ (by omega) (by unfold pG;omega) hl hbase _ rfl ?_;·intro u hu;simp only[GA,tN,rB,tL,tK,tM,or_false]at hu;rcases hu with rfl|rfl|rfl|rfl;(·exact Zv h1);(·exact Zv h2);(·rfl);·exact Zv h3
 ·intro g cap w' q1 q2 _ _;refine h _ w' ⟨us++[(p,vn,vk,vv)],by simp[hul],?_,?_⟩ q2;(·rw[Ms,tC];exact q1);·intro y hy;rcases tZ.1 hy with hy|hy;(·exact⟨(hp y hy).1.keptT q2 hrow,(hp y hy).2.1.keptT q2 hrow,(hp y hy).2.2.keptT q2 hrow⟩);·simp only[tK,tM,or_false]at hy;subst hy;exact⟨h1.keptT q2 hrow,h2.keptT q2 hrow,h3.keptT q2 hrow⟩
def cK:Prop:=∀(w:F)(v:H)(r:Rq),UL w->Xu w v r->yN r->sZ O 118 #[v] w fun e w'=>∃x,e=tE (sG #[x,Y tB (Uv r)])∧YE w' x (Zs r)∧L w w' G
def ZW(K:Int)(n q l v:Nat):Nat->Bool|0=>N|1=>!QS K 0&&tS (0<n)|2=>(!QS K 0&&tS (0<n))||(!QS K 1&&tS (0<q))|3=>((!QS K 0&&tS (0<n))||(!QS K 1&&tS (0<q)))||(!QS K 2&&tS (0<l))|_=>(((!QS K 0&&tS (0<n))||(!QS K 1&&tS (0<q)))||(!QS K 2&&tS (0<l)))||(!QS K 3&&tS (0<v))
def lV(K:Int)(n q l v:Nat):Int:=if(tS (Qt n≠0)&&QS K 0)=M then Qt n else if(tS (Qq q≠0)&&QS K 1)=M then Qq q else if(tS (Qq l≠0)&&QS K 2)=M then Qq l else if 32<v then 1 else if ZW K n q l v 4=M then 4 else 0
theorem iQ(r:Rq)(hk:1<=r.kind∧r.kind<=8):Yn r=lV r.kind r.name.length r.key.length r.last.length r.value.length:=by
 rw[Yn,if_pos hk];have hf:Em r=if ZW r.kind r.name.length r.key.length r.last.length r.value.length 4=M then 4 else 0:=by unfold Em;by_cases h1:QW r.kind=N∧0<r.name.length+r.key.length;(·rw[if_pos h1,if_pos];by_cases h2:0<r.name.length;(·simp[ZW,QS,h1.1,h2]);·(have h3:0<r.key.length:=by omega);simp[ZW,QS,h1.1,h3]);·rw[if_neg h1];by_cases h2:(r.kind≠3∧0<r.last.length)∨(r.kind≠4∧0<r.value.length);(·rw[if_pos h2,if_pos];rcases h2 with⟨h2,h3⟩|⟨h2,h3⟩;(·simp[ZW,QS,h2,h3]);·simp[ZW,QS,h2,h3]);·rw[if_neg h2,if_neg];intro hb;simp only[ZW,QS,Bool.or_eq_true,rM,Bool.not_eq_true',decide_eq_true_iff,decide_eq_false_iff_not]at hb;rcases hb with((hb|hb)|hb)|hb;(·exact h1 ⟨hb.1,by omega⟩);(·exact h1 ⟨hb.1,by omega⟩);(·exact h2 (.inl hb));·exact h2 (.inr hb)
 rw[hf];unfold yW lV;generalize ZW r.kind r.name.length r.key.length r.last.length r.value.length 4=B;show _=if(tS (Qt r.name.length≠0)&&QW r.kind)=M then _ else if(tS (Qq r.key.length≠0)&&QW r.kind)=M then _ else if(tS (Qq r.last.length≠0)&&tS (r.kind=3))=M then _ else _;have h3:r.kind=3->QW r.kind=M:=fun h=>by rw[h];decide
 generalize Qt r.name.length=A at*;generalize Qq r.key.length=C at*;generalize Qq r.last.length=D at*;cases hN:QW r.kind with|false=>(have h3':¬r.kind=3:=fun h=>by rw[h3 h]at hN;cases hN);simp[h3']|true=>by_cases hA:A=0;(·by_cases hC:C=0;(·by_cases h4:r.kind=3;(·by_cases hD:D=0;(·simp[hA,hC,h4,hD]);·simp[hA,hC,h4,hD]);·simp[hA,hC,h4]);·simp[hA,hC]);·simp[hA]
theorem iF(r:Rq)(hk:¬(1<=r.kind∧r.kind<=8)):Yn r=5:=by
 rw[Yn,if_neg hk]
def Hk:Prop:=∀(w:F)(v u a b:H)(l:FL)(t:Tx)(n k:List UInt8),Zx w v l->UI l->G4 w u t->xO t->Qe w a n->Qe w b k->n.length<=140737488355328->k.length<=140737488355328->sZ O 108 #[v,u,a,b] w fun e w'=>∃x,e=tE (sG #[sQ #[tP (Vn l t n k),x],tP (VV l t n k),Y tB (KO l t n k)])∧Qi 0 w' x (Vb l t n k)∧L w w' G
theorem XQ{w:F}{b:Nat}{x y:H}{t:tY}(h:w.heap[b]?=I (S #[x,y] t)):w.cell? ⟨b,0,G⟩=I x∧w.cell? ⟨b,1,G⟩=I y∧w.frozen? ⟨b,0,G⟩=N∧w.frozen? ⟨b,1,G⟩=N:=by
 refine⟨?_,?_,?_,?_⟩<;>simp[tV,rW,h]
section
structure L3 (v u : Sv) : Prop extends Same v u where
  begun : u.begun = v.begun
  txns : ∀ s, v.begun s = M -> u.txns s = v.txns s
def RG(v u v' u':Sv):Prop:=L3 v' u'∧∃rs,v'.out=v.out++rs∧u'.out=u.out++rs
variable{D:List UInt8->List UInt8}{v u:Sv}
theorem Ki(h:L3 v u)(r:Rp):RG v u (ZJ v r) (ZJ u r):=⟨⟨⟨h.up,h.tape,h.commits,h.synced,h.waits,h.queue⟩,h.begun,h.txns⟩,[r],rfl,rfl⟩
theorem G3(h:L3 v u)(s:Nat)(r:Rp):RG v u (ZJ (Xr v s) r) (ZJ (Xr u s) r):=⟨⟨⟨h.up,h.tape,h.commits,h.synced,h.waits,h.queue⟩,by
 show Kx u.begun s N=Kx v.begun s N;rw[h.begun],fun j hj=>h.txns j (yS hj).2⟩,[r],rfl,rfl⟩
theorem Cy(h:L3 v u)(s:Nat)(t:Tx)(r:Rp):RG v u (ZJ {v with txns:=Kx v.txns s t} r) (ZJ {u with txns:=Kx u.txns s t} r):=⟨⟨⟨h.up,h.tape,h.commits,h.synced,h.waits,h.queue⟩,h.begun,fun j hj=>by
 show Kx u.txns s t j=Kx v.txns s t j;by_cases e:j=s;·rw[e,ZC,ZC]
 ·rw[QT _ _ e,QT _ _ e];exact h.txns j hj⟩,[r],rfl,rfl⟩
theorem Mf(h:L3 v u){s:Nat}(hb:v.begun s=M)(x:Rd)(o:Rp):RG v u (KM v s x o) (KM u s x o):=by
 unfold KM;rw[h.txns s hb];split;·exact Cy h s _ _
 ·exact Ki h _
theorem Ab(h:L3 v u){s:Nat}(hb:v.begun s=M)(w:Ze):RG v u (Ua v s w) (Ua u s w):=by
 unfold Ua;rw[h.txns s hb];split;·exact Cy h s _ _
 ·exact Ki h _
theorem vX(h:L3 v u)(n:Nat):QH u n=QH v n:=by
 unfold QH;rw[h.commits]
theorem Wk(h:L3 v u){s:Nat}(hb:v.begun s=M)(r:Rq):RG v u (Gv v s r) (Gv u s r):=by
 unfold Gv;split;·exact Ab h hb _
 ·split;(·unfold Et;rw[h.txns s hb,vX h];split;(·exact Ki h _);·exact Mf h hb _ _);·unfold jV;rw[h.txns s hb,vX h];split;(·exact Mf h hb _ _);·exact Ki h _
theorem Bn(h:L3 v u){s:Nat}(hb:v.begun s=M):RG v u (YN D v s) (YN D u s):=by
 have e:Y8 u s=Y8 v s:=by unfold Y8;rw[h.commits,h.txns s hb]
 unfold YN;rw[e,h.txns s hb,h.commits,h.queue,h.tape,vX h];split;·exact G3 h s _
 ·split;(·exact Ki h _);·split;(·exact G3 h s _);·split;(·exact G3 h s _);·split;(·exact G3 h s _);·refine⟨⟨⟨h.up,rfl,rfl,h.synced,?_,rfl⟩,?_,fun j hj=>h.txns j (yS hj).2⟩,[],by rw[tL];rfl,by rw[tL];rfl⟩;(·show Kx u.waits s M=Kx v.waits s M;rw[h.waits]);·show Kx u.begun s N=Kx v.begun s N;rw[h.begun]
theorem Oy(h:L3 v u)(s:Nat)(r:Rq):RG v u (Jh D v s r) (Jh D u s r):=by
 have es:QI u s r=QI v s r:=by unfold QI;rw[h.waits,h.begun]
 unfold Jh;by_cases h1:r.kind=8;·rw[if_pos h1,if_pos h1];unfold NH;rw[vX h,h.synced];exact Ki h _
 ·rw[if_neg h1,if_neg h1,es];by_cases h2:QI v s r=M;(·rw[if_pos h2,if_pos h2];exact Ki h _);·rw[if_neg h2,if_neg h2];by_cases h3:r.kind=1;(·rw[if_pos h3,if_pos h3,h.synced];refine⟨⟨⟨h.up,h.tape,h.commits,rfl,h.waits,h.queue⟩,?_,fun j hj=>?_⟩,[_],rfl,rfl⟩;(·show Kx u.begun s M=Kx v.begun s M;rw[h.begun]);·show Kx u.txns s _ j=Kx v.txns s _ j;by_cases e:j=s;(·rw[e,ZC,ZC]);·rw[QT _ _ e,QT _ _ e];exact h.txns j (by have:Kx v.begun s M j=M:=hj;rwa[QT _ _ e]at this));·rw[if_neg h3,if_neg h3];(have hb:v.begun s=M:=by unfold QI at h2;rw[if_neg h3]at h2;cases hw:v.waits s<;>cases hv:v.begun s<;>simp[hw,hv]at h2⊢);by_cases h4:r.kind=7;(·rw[if_pos h4,if_pos h4];exact G3 h s _);·rw[if_neg h4,if_neg h4,h.synced,h.txns s hb];by_cases h5:ZK (v.synced:Int) (v.txns s).start=N;(·rw[if_pos h5,if_pos h5];exact G3 h s _);·rw[if_neg h5,if_neg h5];by_cases h6:r.kind=6;(·rw[if_pos h6,if_pos h6];exact Bn h hb);·rw[if_neg h6,if_neg h6];exact Wk h hb r
theorem cN(h:L3 v u)(s:Nat)(d:List UInt8):RG v u (Z5 D v s d) (Z5 D u s d):=by
 unfold Z5;rw[h.up];split;·exact Ki h _
 ·split;(·exact Oy h s _);·exact Ki h _
theorem bQ(h:L3 v u)(a:Ac):RG v u (YQ D v a) (YQ D u a):=by
 unfold YQ;split;·exact cN h _ _
 ·split;(·rw[h.up];split;(·refine⟨⟨⟨h.up,?_,h.commits,?_,?_,rfl⟩,h.begun,h.txns⟩,KR v.synced v.queue,rfl,?_⟩;(·show JT u.tape=JT v.tape;rw[h.tape]);(·show u.synced+u.queue.length=v.synced+v.queue.length;rw[h.synced,h.queue]);(·show Uy u.waits u.queue=Uy v.waits v.queue;rw[h.waits,h.queue]);·show u.out++KR u.synced u.queue=u.out++KR v.synced v.queue;rw[h.synced,h.queue]);·exact⟨h,[],by rw[tL],by rw[tL]⟩);·split;(·rw[h.up];split;(·unfold K9;rw[h.tape];exact⟨⟨⟨rfl,rfl,rfl,rfl,rfl,rfl⟩,rfl,fun _ _=>rfl⟩,[],by rw[tL];rfl,by rw[tL];rfl⟩);·exact⟨h,[],by rw[tL],by rw[tL]⟩);·exact⟨⟨⟨rfl,h.tape,h.commits,h.synced,h.waits,h.queue⟩,h.begun,h.txns⟩,[],by rw[tL],by rw[tL]⟩
theorem Na:∀(l:List Ac){v u:Sv},L3 v u->RG v u (l.foldl (YQ D) v) (l.foldl (YQ D) u)|[],_,_,h=>⟨h,[],by rw[tL];rfl,by rw[tL];rfl⟩|a::l,v,u,h=>by obtain⟨h1,r1,e1,e2⟩:=bQ (D:=D) h a;obtain⟨h2,r2,f1,f2⟩:=Na l h1;exact⟨h2,r1++r2,by rw[pY,f1,e1,pF],by rw[pY,f2,e2,pF]⟩
theorem Fd(hD:∀x,(D x).length=4)(h:Zg D v)(hs:v.synced=v.commits.length){k:Int}(hk:0<=k):K9 D v k=Gi N v.tape v.commits v.out:=by
 obtain⟨j,h1,h2,h3,_⟩:=qR hD h hk;obtain rfl:j=v.commits.length:=by omega
 rw[h3,sD];have hm:=h.mark;rw[hs,sD]at hm;have:(⟨Q6 D v.commits,((Q6 D v.commits).length:Int)⟩:Gg)=v.tape:=by rw[<-hm,<-h.data]
 rw[this]
end
section
variable{D:List UInt8->List UInt8}{v:Sv}
def Lr(s:Nat)(r:Rq):Ac:=⟨1,(s:Int),0,KN r⟩
def Xj:Ac:=⟨2,0,0,[]⟩
def JV(k:Int):Ac:=⟨3,0,k,[]⟩
def Z8:Ac:=⟨4,0,0,[]⟩
def Hl(k:Int):Rq:=⟨k,[],[],[],[]⟩
theorem cH{s:Nat}(hs:s<=7){r:Rq}(hr:YS r):Xt (Lr s r):=⟨⟨(by
 decide:(1:Int)<=1),(by
 decide:(1:Int)<=4)⟩,fun _=>⟨Int.natCast_nonneg _,by
 show(s:Int)<=7;omega⟩,(fun h=>by
 cases h),(by
 have:=(uH hr).1;show(KN r).length<=4000;omega),(fun h=>absurd rfl h),(fun _=>rfl),(fun h=>absurd rfl h)⟩
theorem Pp:Xt Xj:=⟨⟨by
 decide,by
 decide⟩,(fun h=>by
 cases h),(fun h=>by
 cases h),(by
 decide),(fun _=>rfl),(fun _=>rfl),(fun _=>rfl)⟩
theorem Rt:Xt Z8:=⟨⟨by
 decide,by
 decide⟩,(fun h=>by
 cases h),(fun h=>by
 cases h),(by
 decide),(fun _=>rfl),(fun _=>rfl),(fun _=>rfl)⟩
theorem SO{k:Int}(h0:0<=k)(h1:k<=200000):Xt (JV k):=⟨⟨(by
 decide:(1:Int)<=3),(by
 decide:(3:Int)<=4)⟩,(fun h=>by
 cases h),(fun _=>⟨h0,h1⟩),(by
 decide:(0:Nat)<=4000),(fun _=>rfl),(fun h=>absurd rfl h),(fun _=>rfl)⟩
theorem dF(v:Sv)(s:Nat){r:Rq}(hr:YS r):YQ D v (Lr s r)=if v.up=N then ZJ v (U2 s 13)else Jh D v s r:=by
 show(if(1:Int)=1then Z5 D v (s:Int).toNat (KN r)else _)=_;rw[if_pos rfl,sW,Z5,(C9 hr).1,(C9 hr).2,if_pos rfl]
theorem aN(v:Sv):YQ D v Xj=if v.up=M then Vt v else v:=by
 show(if(2:Int)=1then _ else if(2:Int)=2then _ else _)=_;rw[if_neg (by decide),if_pos rfl]
theorem Hr(v:Sv)(k:Int):YQ D v (JV k)=if v.up=M then K9 D v k else v:=by
 show(if(3:Int)=1then _ else if(3:Int)=2then _ else if(3:Int)=3then _ else _)=_;rw[if_neg (by decide),if_neg (by decide),if_pos rfl];rfl
theorem Mo(v:Sv):YQ D v Z8={v with up:=M}:=by
 show(if(4:Int)=1then _ else if(4:Int)=2then _ else if(4:Int)=3then _ else _)=_;rw[if_neg (by decide),if_neg (by decide),if_neg (by decide)]
theorem CJ{v u:Sv}(h:Same v u):(Ga u).up=(Ga v).up∧(Ga u).turn=(Ga v).turn∧(Ga u).pending=(Ga v).pending∧(Ga u).forest=(Ga v).forest:=by
 unfold Ga QH;rw[h.up,h.synced,h.queue,h.commits];exact⟨rfl,rfl,rfl,rfl⟩
theorem dB{k:Int}(h:k=1∨k=6∨k=7):YS (Hl k):=by
 have hn:QW k=N:=by rcases h with h|h|h<;>subst h<;>decide
 exact⟨by rcases h with h|h|h<;>subst h<;>decide,(fun e=>by rw[show(Hl k).kind=k from rfl,hn]at e;cases e),(fun e=>by rw[show(Hl k).kind=k from rfl,hn]at e;cases e),(fun e=>by have:k=3:=e;omega),(by decide:(0:Nat)<=32),fun _=>rfl,fun _=>rfl,fun _=>rfl,fun _=>rfl⟩
theorem Zg.nowait(h:Zg D v)(hq:v.queue=[])(s:Nat):v.waits s=N:=by
 cases e:v.waits s with|false=>rfl|true=>have:=(h.wait s).mp e;rw[hq]at this;cases this
end
section
structure Se where
  begun : Bool
  start : Int
  writes : List Ze
structure Md where
  ses : Nat -> Se
  states : List FL
variable{D:List UInt8->List UInt8}{v:Sv}{m:Md}
theorem GF(v:Sv)(n:Nat):Xq (QH v n):=qX _ _ VU
end
section
variable{D:List UInt8->List UInt8}{v:Sv}{m:Md}
theorem Cr{r:Rq}(hr:YS r)(hk:r.kind=2∨r.kind=3):(1<=r.name.length∧r.name.length<=8)∧(1<=r.key.length∧r.key.length<=16):=by
 have:QW r.kind=M:=by rcases hk with e|e<;>rw[e]<;>decide
 exact⟨hr.name this,hr.key this⟩
end
def Ie:Prop:=∀(w:F)(v u:H)(t:Tx)(l:List XI),G4 w v t->xO t->Jk w u l->Az l->sZ O 122 #[v,u] w fun e w'=>e=tE (sG #[tP (UR t l),Y tB (TG t)])∧L w w' G
def fQ:Prop:=∀(w:F)(v:H)(c:XI),Kc w v c->N0 c->sZ O 134 #[v] w fun e w'=>∃x,e=tE (sG #[x,Y tB (Za c)])∧Qe w' x (TP c)∧L w w' G
def Hj:Prop:=∀(w:F)(v:H)(c:XI),Kc w v c->N0 c->sZ O 139 #[v] w fun e w'=>e=tE (Y tB (Za c))∧L w w' G
theorem Tt(w:F):(sizeOf (O.elem 25)).run O w=.ok 1 w:=by
 kernel_rfl
theorem Qe.cap{w:F}{a:Option rC}{n cap:Nat}{bs:List UInt8}(h:Qe w (J a n cap) bs):bs.length<=cap∧n=bs.length:=by
 obtain⟨a',cap',e,hc,_⟩:=h;simp only[tH]at e;obtain⟨_,rfl,rfl⟩:=e;exact⟨hc,rfl⟩
theorem Qe.byte{w:F}{a:Option rC}{n cap:Nat}{bs:List UInt8}(h:Qe w (J a n cap) bs)(i:Nat)(hi:i<bs.length):∃b o,a=I ⟨b,o,G⟩∧KY w b o bs:=by
 obtain⟨a',cap',e,hc,h⟩:=h;simp only[tH]at e;obtain⟨rfl,rfl,rfl⟩:=e;rcases h with⟨rfl,_⟩|⟨b,o,rfl,h⟩;·simp at hi
 ·exact⟨b,o,rfl,h⟩
theorem Qe.sliced{w:F}{a:Option rC}{cap:Nat}{l:List UInt8}(h:Qe w (J a l.length cap) l)(i j:Nat)(hij:i<=j)(hj:j<=l.length):Qe w (sP a i j cap 1) ((l.take j).drop i):=by
 obtain⟨a',cap',e,hc,h⟩:=h;simp only[tH,true_and]at e;obtain⟨rfl,rfl⟩:=e;have hlen:((l.take j).drop i).length=j-i:=by simp;omega
 refine⟨if cap=i then a else a.map (·.add (i*1)),cap-i,by rw[hlen];rfl,by rw[hlen];omega,?_⟩;by_cases hci:cap=i;·left;exact⟨tJ (by rw[hlen];omega),fun _=>by omega⟩
 ·rw[if_neg hci];rcases h with⟨rfl,h⟩|⟨b,o,rfl,h⟩;(·left;refine⟨by simp,fun e=>?_⟩;cases a with|none=>have:=h rfl;simp at hj;omega|some x=>cases e);·right;refine⟨b,o+i,by simp[Z4],fun k hk=>?_⟩;rw[hlen]at hk;have:=h (i+k) (by omega);(have e:((l.take j).drop i).getD k 0=l.getD (i+k) 0:=by simp[show i+k<j by omega]);rw[e,show o+i+k=o+(i+k)by omega];exact this
theorem xH(a:Option rC)(cap:Nat)(l:List UInt8)(n:Nat)(hn:n<=l.length)(hc:l.length<=cap):∃a1 c1,(∀W,(rT 25 (J a l.length cap) G (I (Y tB (n:Int))) G).run O W=.ok (J a1 n c1) W)∧∀W,Qe W (J a l.length cap) l->Qe W (J a1 n c1) (l.take n):=by
 refine⟨if cap=0then a else a.map (·.add (0*1)),cap-0,fun W=>?_,fun W h=>?_⟩;·rw[run_slice_h _ _ _ _ _ (by kernel_rfl) _ _ (by omega) (by omega),Tt];simp only[rJ,sP,sW,pE]
 ·have:=h.sliced 0 n (by omega) hn;simpa only[sP,oE,pE]using this
theorem GW(a:Option rC)(cap:Nat)(l:List UInt8)(i j:Nat)(hij:i<=j)(hj:j<=l.length)(hc:l.length<=cap):∃a1 c1,(∀W,(rT 25 (J a l.length cap) (I (Y tB (i:Int))) (I (Y tB (j:Int))) G).run O W=.ok (J a1 (j-i) c1) W)∧∀W,Qe W (J a l.length cap) l->Qe W (J a1 (j-i) c1) ((l.take j).drop i):=by
 refine⟨if cap=i then a else a.map (·.add (i*1)),cap-i,fun W=>?_,fun W h=>?_⟩;·rw[run_slice_lh _ _ _ _ _ (by kernel_rfl) _ _ _ _ (by omega) (by omega) (by omega),Tt];simp only[rJ,sP,sW]
 ·have:=h.sliced i j hij hj;simpa only[sP]using this
theorem V3(a:Option rC)(cap:Nat)(l:List UInt8)(n:Nat)(hn:n<=l.length):∃a1 c1,(∀W,(rT 25 (J a l.length cap) (I (Y tB (n:Int))) G G).run O W=.ok (J a1 (l.length-n) c1) W)∧∀W,Qe W (J a l.length cap) l->Qe W (J a1 (l.length-n) c1) (l.drop n):=by
 refine⟨if cap=n then a else a.map (·.add (n*1)),cap-n,fun W=>?_,fun W h=>?_⟩;·rw[run_slice_l _ _ _ _ _ (by kernel_rfl) _ _ (by omega) (by omega),Tt];simp only[rJ,sP,sW]
 ·have:=h.sliced n l.length hn (sB _);simpa only[sP,sD]using this
theorem Cs{ws:List Ze}(hn:ws.length<=1000)(h:∀w∈ws,QE w=0):uJ ws:=⟨by
 omega,fun j hj=>by
 have h0:=h ws[j] (sO hj);rw[show ws[j]=ws.getD j Qs by simp[hj]]at h0;have h2:=(XO _).1 h0;have h3:(ws.getD j Qs).value.length<=32:=by have:=h2.2.2;split at this;(·rw[this];simp);·exact this
 exact⟨by omega,by omega,by omega⟩⟩
theorem DH{c:XI}(h:Za c=0):N0 c:=by
 obtain⟨h1,h2,h3⟩:=(K6 c).1 h;exact⟨by omega,Cs (by omega) h3⟩
def Iw:Prop:=∀(w:F)(v u a b c:H)(l:FL)(t:Tx)(n k m:List UInt8),Zx w v l->UI l->G4 w u t->xO t->Qe w a n->Qe w b k->Qe w c m->n.length<=140737488355328->k.length<=140737488355328->m.length<=140737488355328->sZ O 110 #[v,u,a,b,c] w fun e w'=>∃x,e=tE (sG #[x,Y tB (KD l t n k m)])∧QN 0 w' x (Vx l t n k m)∧L w w' G
def I0:Prop:=∀(w:F)(v u x:H)(l:PL)(f t:List UInt8),Qr w v l->Qe w u f->Qe w x t->uF l->f.length<=140737488355328->t.length<=140737488355328->sZ O 35 #[v,u,x] w fun e w'=>∃y,e=tE (sG #[y,Y tB (YL l f t)])∧QN 0 w' y (K3 l f t)∧L w w' G
def Ix:Prop:=∀(w:F)(v r u t:H)(l:FL)(n k m:List UInt8),Zx w v l->Qe w r n->Qe w u k->Qe w t m->UI l->n.length<=140737488355328->k.length<=140737488355328->m.length<=140737488355328->sZ O 21 #[v,r,u,t] w fun e w'=>∃x,e=tE (sG #[x,Y tB (X8 l n k m)])∧QN 0 w' x (Kw l n k m)∧L w w' G
def Mm:Prop:=∀(w:F)(v:H)(bs:List UInt8)(i:Int),Qe w v bs->sZ O 146 #[v,Y tB i] w fun e w'=>e=tE (sG #[tP (AQ bs i).1,Y tB (AQ bs i).2])∧L w w' G
theorem Mm.of(hB:Mm)(w:F)(v:H)(k:List UInt8)(i:Nat)(hv:Qe w v k)(hk:1<=k.length∧k.length<=16)(hi:i<145):sZ O 146 #[v,Y tB (i:Int)] w fun e w'=>e=tE (sG #[tP (ZQ k i),Y tB 0])∧L w w' G:=by
 have:=hB w v k i hv;rw[eI k i hk hi]at this;exact this
def Ee:Prop:=∀(w:F)(v u:H)(a b:List UInt8),Qe w v a->Qe w u b->sZ O 153 #[v,u] w fun e w'=>e=tE (sG #[Y tB (Tg a b).1,Y tB (Tg a b).2])∧L w w' G
theorem Ee.of(hP:Ee)(w:F)(v u:H)(a b:List UInt8)(hv:Qe w v a)(hu:Qe w u b)(ha:1<=a.length∧a.length<=16)(hb:1<=b.length∧b.length<=16):sZ O 153 #[v,u] w fun e w'=>e=tE (sG #[Y tB (JU a b),Y tB 0])∧L w w' G:=by
 have:=hP w v u a b hv hu;rw[aR a b ha hb]at this;exact this
def S4:Prop:=∀(w:F)(v u:H)(t:Tx)(r:Ze),G4 w v t->xO t->Xa w u r->Y1 r->sZ O 27 #[v,u] w fun e w'=>∃x,e=tE (sG #[x,Y tB (Xh t r)])∧GY w' x (Yl t r)∧L w w' G
def Hu:Prop:=∀(w:F)(v:H)(r:Rq),UL w->Xu w v r->yN r->sZ O 111 #[v] w fun e w'=>∃x,e=tE (sG #[x,Y tB (Jj r)])∧Xa w' x (Xi r)∧L w w' G
def aS:Prop:=∀(w:F)(n t:Int),-9223372036854775808<=n->n<=9223372036854775807->-9223372036854775808<=t->t<=9223372036854775807->sZ O 107 #[Y tB n,Y tB t] w fun e w'=>e=tE (tP (ZK n t))∧L w w' G
def dS:Prop:=∀(w:F)(v:H)(b:List UInt8),UL w->Qe w v b->b.length<=140737488355328->sZ O 19 #[v] w fun e w'=>∃x,e=tE (sG #[x,Y tB (QK b)])∧Xu w' x (Qu b)∧L w w' G
theorem ID(b:List UInt8)(n:Nat)(h:n<b.length):Zt (b.drop n)=if n+1+(b.getD n 0).toNat<=b.length then I ((b.take (n+1+(b.getD n 0).toNat)).drop (n+1),b.drop (n+1+(b.getD n 0).toNat))else G:=by
 rw[sU h,Zt,show b[n]=b.getD n 0 by simp[h],pR];by_cases hc:n+1+(b.getD n 0).toNat<=b.length;·rw[if_pos (by omega),if_pos hc,List.drop_take,List.drop_drop,Nat.add_sub_cancel_left]
 ·rw[if_neg (by omega),if_neg hc]
def RS(ws:List Ze):Prop:=∀p∈ws,p.name.length<=255∧p.key.length<=255∧p.value.length<=255
theorem Bq{ws:List Ze}{p:Ze}(h:RS ws)(hp:p.name.length<=255∧p.key.length<=255∧p.value.length<=255):RS (ws++[p]):=fun q hq=>by
 rcases tZ.1 hq with hq|hq;·exact h q hq
 ·simp only[tK,tM,or_false]at hq;rw[hq];exact hp
theorem WX{b:List UInt8}(h:4000<b.length):YU b=1∧JP b=Zk:=by
 have:YU b=1:=by rw[YU,if_pos h]
 exact⟨this,by rw[JP,this,if_neg (by decide)]⟩
theorem SU{b:List UInt8}(h:b.length<4):YU b=14∧JP b=Zk:=by
 have:YU b=14:=by rw[YU,if_neg (by omega),if_pos h]
 exact⟨this,by rw[JP,this,if_neg (by decide)]⟩
theorem Hw{b:List UInt8}(h1:¬4000<b.length)(h2:¬b.length<4)(h:G8 b=G):YU b=14∧JP b=Zk:=by
 have:YU b=14:=by rw[YU,if_neg h1,if_neg h2,h]
 exact⟨this,by rw[JP,this,if_neg (by decide)]⟩
theorem Hh{b r:List UInt8}{ws:List Ze}(h1:¬4000<b.length)(h2:¬b.length<4)(h:G8 b=I (ws,r))(hr:r.length≠0):YU b=4∧JP b=Zk:=by
 have:YU b=4:=by rw[YU,if_neg h1,if_neg h2,h];show(if r.length=0then _ else(4:Int))=4;rw[if_neg hr]
 exact⟨this,by rw[JP,this,if_neg (by decide)]⟩
theorem Im{b r:List UInt8}{ws:List Ze}(h1:¬4000<b.length)(h2:¬b.length<4)(h:G8 b=I (ws,r))(hr:r.length=0):YU b=Za ⟨(Gk b:Int),ws⟩∧(YU b=0->JP b=⟨(Gk b:Int),ws⟩)∧(YU b≠0->JP b=Zk):=by
 have:YU b=Za ⟨(Gk b:Int),ws⟩:=by rw[YU,if_neg h1,if_neg h2,h];show(if r.length=0then _ else(4:Int))=_;rw[if_pos hr]
 refine⟨this,fun h0=>?_,fun h0=>?_⟩;·rw[JP,if_pos h0,h]
 ·rw[JP,if_neg h0]
def Xg(k:Int)(m:Nat)(p0 p1 p2 p3 r:List UInt8):Option (Rq×List UInt8):=match m with|0=>Yi k r|1=>Vu k p0 r|2=>Vw k p0 p1 r|3=>Vv k p0 p1 p2 r|_=>I (⟨k,p0,p1,p2,p3⟩,r)
theorem Kb(r:List UInt8):Jt M r=Zt r:=rfl
theorem yY(r:List UInt8)(h:r.length=0):Zt r=G:=by
 rw[tJ h];rfl
theorem uM(r:List UInt8)(h:0<r.length):Zt r=if 1+(r.getD 0 0).toNat<=r.length then I ((r.take (1+(r.getD 0 0).toNat)).drop 1,r.drop (1+(r.getD 0 0).toNat))else G:=by
 have:=ID r 0 h;rw[sM]at this;exact this
theorem qL(k:Int)(p0 p1 p2 p3 r:List UInt8):(QS k 0=N->Xg k 0 p0 p1 p2 p3 r=Xg k 1 [] p1 p2 p3 r)∧(QS k 1=N->Xg k 1 p0 p1 p2 p3 r=Xg k 2 p0 [] p2 p3 r)∧(QS k 2=N->Xg k 2 p0 p1 p2 p3 r=Xg k 3 p0 p1 [] p3 r)∧(QS k 3=N->Xg k 3 p0 p1 p2 p3 r=Xg k 4 p0 p1 p2 [] r):=by
 refine⟨fun h=>?_,fun h=>?_,fun h=>?_,fun h=>?_⟩;·show Yi k r=Vu k [] r;rw[Yi,show QW k=N from h];rfl
 ·show Vu k p0 r=Vw k p0 [] r;rw[Vu,show QW k=N from h];rfl
 ·show Vw k p0 p1 r=Vv k p0 p1 [] r;rw[Vw,show tS (k=3)=N from h];rfl
 ·show Vv k p0 p1 p2 r=I (⟨k,p0,p1,p2,[]⟩,r);rw[Vv,show tS (k=4)=N from h];rfl
theorem Gm(k:Int)(p0 p1 p2 p3 r:List UInt8)(h0:Zt r=G)(m:Nat)(hm:m<4)(h:QS k m=M):Xg k m p0 p1 p2 p3 r=G:=by
 match m,hm with|0,_=>show Yi k r=G;rw[Yi,show QW k=M from h,Kb,h0]|1,_=>show Vu k p0 r=G;rw[Vu,show QW k=M from h,Kb,h0]|2,_=>show Vw k p0 p1 r=G;rw[Vw,show tS (k=3)=M from h,Kb,h0]|3,_=>show Vv k p0 p1 p2 r=G;rw[Vv,show tS (k=4)=M from h,Kb,h0]
theorem Gn(k:Int)(p0 p1 p2 p3 r p r2:List UInt8)(h0:Zt r=I (p,r2)):(QS k 0=M->Xg k 0 p0 p1 p2 p3 r=Xg k 1 p p1 p2 p3 r2)∧(QS k 1=M->Xg k 1 p0 p1 p2 p3 r=Xg k 2 p0 p p2 p3 r2)∧(QS k 2=M->Xg k 2 p0 p1 p2 p3 r=Xg k 3 p0 p1 p p3 r2)∧(QS k 3=M->Xg k 3 p0 p1 p2 p3 r=Xg k 4 p0 p1 p2 p r2):=by
 refine⟨fun h=>?_,fun h=>?_,fun h=>?_,fun h=>?_⟩;·show Yi k r=Vu k p r2;rw[Yi,show QW k=M from h,Kb,h0]
 ·show Vu k p0 r=Vw k p0 p r2;rw[Vu,show QW k=M from h,Kb,h0]
 ·show Vw k p0 p1 r=Vv k p0 p1 p r2;rw[Vw,show tS (k=3)=M from h,Kb,h0]
 ·show Vv k p0 p1 p2 r=I (⟨k,p0,p1,p2,p⟩,r2);rw[Vv,show tS (k=4)=M from h,Kb,h0]
def W9(k:Int)(b:List UInt8):Int:=match Yi k b with|none=>14|I (_,x)=>if x.length=0then 0 else 4
def TQ(k:Int)(b:List UInt8):Rq:=match Yi k b with|none=>Gh|I (r,x)=>if x.length=0then r else Gh
theorem F3{k:Int}{b:List UInt8}(h:Yi k b=G):W9 k b=14∧TQ k b=Gh:=by
 unfold W9 TQ;rw[h];exact⟨rfl,rfl⟩
theorem F8{k:Int}{b x:List UInt8}{r:Rq}(h:Yi k b=I (r,x))(hx:0<x.length):W9 k b=4∧TQ k b=Gh:=by
 unfold W9 TQ;rw[h];exact⟨if_neg (by omega),if_neg (by omega)⟩
theorem F2{k:Int}{b x:List UInt8}{r:Rq}(h:Yi k b=I (r,x))(hx:x.length=0):W9 k b=0∧TQ k b=r:=by
 unfold W9 TQ;rw[h];exact⟨if_pos hx,if_pos hx⟩
theorem eV{k:Int}{b:List UInt8}(h:W9 k b=0):(TQ k b).kind=k:=by
 match hD:Yi k b with|none=>rw[(F3 hD).1]at h;cases h|I (r,x)=>by_cases hx:x.length=0;(·rw[(F2 hD hx).2];exact(TO hD).2);·rw[(F8 hD (by omega)).1]at h;cases h
theorem eO{b:List UInt8}(h1:¬4000<b.length)(h2:¬b.length=0)(hk:1<=UE b∧UE b<=8):QK b=(if W9 (UE b) (b.drop 1)=0then Yn (TQ (UE b) (b.drop 1))else W9 (UE b) (b.drop 1))∧(QK b=0->Qu b=TQ (UE b) (b.drop 1)):=by
 match hD:Yi (UE b) (b.drop 1)with|none=>obtain⟨e1,e2⟩:=F3 hD;(have:QK b=14:=by rw[QK,if_neg h1,if_neg h2,if_pos hk,hD]);rw[e1,this];exact⟨rfl,fun h=>by cases h⟩|I (r,x)=>(have hw:QK b=if x.length=0then Yn r else 4:=by rw[QK,if_neg h1,if_neg h2,if_pos hk,hD]);by_cases hx:x.length=0;(·obtain⟨e1,e2⟩:=F2 hD hx;rw[if_pos hx]at hw;rw[e1,e2,if_pos rfl];exact⟨hw,fun h=>by rw[Qu,if_pos h,hD]⟩);·obtain⟨e1,e2⟩:=F8 hD (by omega);rw[if_neg hx]at hw;rw[e1,hw];exact⟨rfl,fun h=>by cases h⟩
theorem dR{k:Int}{b:List UInt8}(hb:b.length<=4000):(TQ k b).name.length<=4000∧(TQ k b).key.length<=4000∧(TQ k b).last.length<=4000∧(TQ k b).value.length<=4000:=by
 match hD:Yi k b with|none=>rw[(F3 hD).2];simp[Gh]|I (r,x)=>by_cases hx:x.length=0;(·rw[(F2 hD hx).2];obtain⟨_,r1,r2,r3,h1,h2,h3,h4⟩:=kZ hD;(have key:∀{c:Bool}{r p r2:List UInt8},Jt c r=I (p,r2)->p.length<=r.length∧r2.length<=r.length:=by intro c r p r2 h;have hf:=V1 h;cases c with|false=>have:=Ij h rfl;subst this;rw[hf];exact⟨tR _,by simp[Xo]⟩|true=>rw[hf];simp[Xo,XP];omega);have a1:=key h1;have a2:=key h2;have a3:=key h3;have a4:=key h4;omega);·rw[(F8 hD (by omega)).2];simp[Gh]
theorem MP{w:F}{o:rG}{a:Act}{K:Act->F->Prop}{Q:Exit->Act->F->Prop}(s x:rD)(ho:o.op=.call {callee:=.builtin .append,args:=#[s,x],argTypes:=#[23,23]})(rb:Nat)(v:H)(l:List Ac)(hs:a.eval s=v)(hown:Kf rb w v l)(vd:H)(r:Ac)(h1:Qi 0 w vd r.data)(nb:Nat)(hb:w.heap[nb]?=I (S #[Y tB r.kind,Y tB r.sess,Y tB r.keep,vd] 27))(hx:a.eval x=J (I ⟨nb,0,G⟩) 1 1)(hl:(l.length+1)*48<=140737488355328)(hbase:rb<=w.heap.size)(h:∀v' w',Kf rb w' v' (l++[r])->L w w' v.ownBlock->K (a.put o.dst v') w'):o.wp O a w K Q:=by
 obtain⟨i0,hi,hz0,hz1,hz2⟩:=rV Db;have hrow:v.ownBlock=G∨∃g cur t fz,v.ownBlock=I g∧0<=g∧w.heap[g]?=I (S cur t fz)∧t≠5:=by rcases hown.row with h|⟨g,cur,fz,e,_,h⟩;(·exact .inl h);·exact .inr ⟨g,cur,_,fz,e,tR _,h,aU⟩
 obtain⟨us,hul,hr,hp⟩:=hown;refine wp_append_lies w s x 23 ho rb 27 i0 (sQ #[Y tB 0,Y tB 0,Y tB 0,J G 0 0]) 4 48 Tryz.underlying23 hi hz0 hz1 hz2 rfl (by decide) v l.length (Y9 us) hs hr ⟨nb,0,G⟩ 1 1 (Y9 [(r,vd)]) hx rfl (sY (cs:=#[Y tB r.kind,Y tB r.sess,Y tB r.keep,vd]) hb) ?_ (by omega) (by unfold pG;omega) hl hbase _ rfl ?_;·intro u hu;simp only[Y9,tN,rB,tL,tK,tM,or_false]at hu;rcases hu with rfl|rfl|rfl|rfl;(·rfl);(·rfl);(·rfl);·exact Zv h1
 ·intro g cap w' q1 q2 _ _;refine h _ w' ⟨us++[(r,vd)],by simp[hul],?_,?_⟩ q2;(·rw[vK,tC];exact q1);·intro y hy;rcases tZ.1 hy with hy|hy;(·exact(hp y hy).keptT q2 hrow);·simp only[tK,tM,or_false]at hy;subst hy;exact h1.keptT q2 hrow
theorem Ph{w:F}{ops:Array rG}{rest:List rG}{o:rG}{a:Act}{Q:Exit->Act->F->Prop}(hgd:o.guard=G)(s x:rD)(ho:o.op=.call {callee:=.builtin .append,args:=#[s,x],argTypes:=#[23,23]})(rb:Nat)(v:H)(l:List Ac)(hs:a.eval s=v)(hown:Kf rb w v l)(vd:H)(r:Ac)(h1:Qi 0 w vd r.data)(nb:Nat)(hb:w.heap[nb]?=I (S #[Y tB r.kind,Y tB r.sess,Y tB r.keep,vd] 27))(hx:a.eval x=J (I ⟨nb,0,G⟩) 1 1)(hl:(l.length+1)*48<=140737488355328)(hbase:rb<=w.heap.size)(h:∀v' w',Kf rb w' v' (l++[r])->L w w' v.ownBlock->wpList O ops Q rest (a.put o.dst v') w'):wpList O ops Q (o::rest) a w:=wpList_plain hgd fun _ hK=>MP s x ho rb v l hs hown vd r h1 nb hb hx hl hbase fun v' w' h1 h2=>hK _ _ (h v' w' h1 h2)
structure VB where
  rest : List UInt8
  short : Bool
def FM(r:VB)(n:Nat):List UInt8:=if r.short=M∨r.rest.length<n then[]else r.rest.take n
def Ad(r:VB)(n:Nat):VB:=if r.short=M∨r.rest.length<n then⟨r.rest,M⟩else⟨r.rest.drop n,N⟩
theorem Tf{r:VB}{n:Nat}(h:r.short=M∨r.rest.length<n):FM r n=[]∧Ad r n=⟨r.rest,M⟩:=⟨if_pos h,if_pos h⟩
theorem vP{r:VB}{n:Nat}(h:¬(r.short=M∨r.rest.length<n)):FM r n=r.rest.take n∧Ad r n=⟨r.rest.drop n,N⟩:=⟨if_neg h,if_neg h⟩
theorem dK(r:VB)(n:Nat):(FM r n).length<=n:=by
 unfold FM;split;·simp
 ·rw[rX];omega
def Xf(r:VB):VB:=Ad r 1
def JQ(r:VB):Nat:=if(Xf r).short=M then 0 else((FM r 1).getD 0 0).toNat
theorem Yv(r:VB):JQ r<256:=by
 unfold JQ;split;·omega
 ·exact((FM r 1).getD 0 0).toNat_lt
theorem Ja(x:UInt8)(l:List UInt8):Xf ⟨x::l,N⟩=⟨l,N⟩∧JQ ⟨x::l,N⟩=x.toNat:=by
 have h:¬((⟨x::l,N⟩:VB).short=M∨(⟨x::l,N⟩:VB).rest.length<1):=by simp
 obtain⟨h1,h2⟩:=vP h;have h3:Xf ⟨x::l,N⟩=⟨l,N⟩:=h2;refine⟨h3,?_⟩;rw[JQ,h3,h1,if_neg (by simp)];rfl
theorem Pk{r:VB}(h:r.short=M)(n:Nat):(Ad r n).short=M:=by
 rw[(Tf (.inl h)).2]
theorem Kt{r:VB}(h:r.short=M):(Xf r).short=M:=Pk h 1
theorem yQ:(Xf ⟨[],N⟩).short=M:=rfl
def Ly(r:VB):List UInt8:=FM (Xf r) (JQ r)
def KX(r:VB):VB:=Ad (Xf r) (JQ r)
theorem VN{r:VB}(h:r.short=M):(KX r).short=M:=Pk (Kt h) _
theorem vZ{l p l2:List UInt8}(h:Zt l=I (p,l2)):Ly ⟨l,N⟩=p∧KX ⟨l,N⟩=⟨l2,N⟩:=by
 cases l with|nil=>cases h|cons x l=>rw[Zt]at h;obtain⟨h1,h2⟩:=Ja x l;unfold Ly KX;rw[h1,h2];by_cases hx:x.toNat<=l.length;(·rw[if_pos hx]at h;simp only[tA,rU]at h;obtain⟨rfl,rfl⟩:=h;exact vP (by simp;omega));·rw[if_neg hx]at h;cases h
theorem F4{l:List UInt8}(h:Zt l=G):(KX ⟨l,N⟩).short=M:=by
 cases l with|nil=>exact Pk yQ _|cons x l=>rw[Zt]at h;obtain⟨h1,h2⟩:=Ja x l;unfold KX;rw[h1,h2];by_cases hx:x.toNat<=l.length;(·rw[if_pos hx]at h;cases h);·rw[(Tf (.inr (by show l.length<x.toNat;omega))).2]
theorem Rz(r:VB):(Ly r).length<=255:=tQ (dK _ _) (pS (Yv r))
def Th(r:VB):Ze:=if JQ (KX (KX r))=255then⟨Ly r,Ly (KX r),[],M⟩else⟨Ly r,Ly (KX r),Ly (KX (KX r)),N⟩
def BN(r:VB):VB:=if JQ (KX (KX r))=255then Xf (KX (KX r))else KX (KX (KX r))
theorem CO{r:VB}(h:r.short=M):(BN r).short=M:=by
 unfold BN;split;·exact Kt (VN (VN h))
 ·exact VN (VN (VN h))
theorem Ro{r:VB}(h:(KX (KX r)).short=M):(BN r).short=M:=by
 unfold BN;split;·exact Kt h
 ·exact VN h
theorem eQ{l l2:List UInt8}{p:Ze}(h:Jl l=I (p,l2)):Th ⟨l,N⟩=p∧BN ⟨l,N⟩=⟨l2,N⟩:=by
 unfold Jl at h;cases h1:Zt l with|none=>rw[h1]at h;cases h|some q=>obtain⟨n,la⟩:=q;rw[h1]at h;have h:M6 n la=I (p,l2):=h;unfold M6 at h;obtain⟨a1,a2⟩:=vZ h1;cases h2:Zt la with|none=>rw[h2]at h;cases h|some q=>obtain⟨k,lb⟩:=q;rw[h2]at h;have h:uZ n k lb=I (p,l2):=h;unfold uZ at h;obtain⟨b1,b2⟩:=vZ h2;unfold Th BN;rw[a1,a2,b1,b2];cases lb with|nil=>cases h|cons x lb=>obtain⟨c1,c2⟩:=Ja x lb;by_cases hx:(x::lb).head?=I 255;(·rw[if_pos hx]at h;simp only[tA,rU]at h;obtain⟨rfl,rfl⟩:=h;have:x=255:=oH hx;subst this;rw[c2,c1,if_pos (by rfl),if_pos (by rfl)];exact⟨rfl,rfl⟩);·rw[if_neg hx]at h;have hne:¬x.toNat=255:=fun e=>hx (by rw[show x=255from pT.1 e];rfl);rw[c2,if_neg hne,if_neg hne];cases h3:Zt (x::lb)with|none=>rw[h3]at h;cases h|some q=>obtain⟨v,lc⟩:=q;rw[h3]at h;simp only[tA,rU]at h;obtain⟨rfl,rfl⟩:=h;obtain⟨d1,d2⟩:=vZ h3;rw[d1,d2];exact⟨rfl,rfl⟩
theorem dW{l:List UInt8}(h:Jl l=G):(BN ⟨l,N⟩).short=M:=by
 unfold Jl at h;cases h1:Zt l with|none=>exact Ro (VN (F4 h1))|some q=>obtain⟨n,la⟩:=q;rw[h1]at h;have h:M6 n la=G:=h;unfold M6 at h;obtain⟨a1,a2⟩:=vZ h1;cases h2:Zt la with|none=>exact Ro (by rw[a2];exact F4 h2)|some q=>obtain⟨k,lb⟩:=q;rw[h2]at h;have h:uZ n k lb=G:=h;unfold uZ at h;obtain⟨b1,b2⟩:=vZ h2;unfold BN;rw[a2,b2];cases lb with|nil=>split;(·exact yQ);·exact F4 rfl|cons x lb=>obtain⟨c1,c2⟩:=Ja x lb;by_cases hx:(x::lb).head?=I 255;(·rw[if_pos hx]at h;cases h);·rw[if_neg hx]at h;have hne:¬x.toNat=255:=fun e=>hx (by rw[show x=255from pT.1 e];rfl);rw[c2,if_neg hne];cases h3:Zt (x::lb)with|none=>exact F4 h3|some q=>obtain⟨v,lc⟩:=q;rw[h3]at h;cases h
theorem OL(r:VB):(Th r).name.length<=255∧(Th r).key.length<=255∧(Th r).value.length<=255:=by
 unfold Th;split;·exact⟨Rz _,Rz _,by simp⟩
 ·exact⟨Rz _,Rz _,Rz _⟩
def UO:Nat->VB->VB|0,r=>r|n+1,r=>BN (UO n r)
def UH:Nat->VB->List Ze|0,_=>[]|n+1,r=>UH n r++[Th (UO n r)]
theorem Dk:∀(n:Nat)(r:VB),(UH n r).length=n|0,_=>rfl|n+1,r=>by rw[UH,tC,Dk n r];rfl
theorem Nw:∀(n:Nat)(r:VB),RS (UH n r)|0,_=>fun p hp=>by simp[UH]at hp|n+1,r=>Bq (Nw n r) (OL _)
theorem Nq:∀(n:Nat){r:VB},r.short=M->(UO n r).short=M|0,_,h=>h|n+1,_,h=>CO (Nq n h)
theorem vN:∀(n:Nat){l l2:List UInt8}{ws:List Ze},ZS n l=I (ws,l2)->UH n ⟨l,N⟩=ws∧UO n ⟨l,N⟩=⟨l2,N⟩|0,l,l2,ws,h=>by rw[ZS]at h;simp only[tA,rU]at h;obtain⟨rfl,rfl⟩:=h;exact⟨rfl,rfl⟩|n+1,l,l2,ws,h=>by rw[xJ]at h;cases h1:ZS n l with|none=>rw[h1]at h;cases h|some q=>obtain⟨ws1,l1⟩:=q;rw[h1]at h;have h:(match Jl l1 with|I (w,r2)=>I (ws1++[w],r2)|none=>G)=I (ws,l2):=h;obtain⟨e1,e2⟩:=vN n h1;cases h2:Jl l1 with|none=>rw[h2]at h;cases h|some q=>obtain⟨p,l3⟩:=q;rw[h2]at h;simp only[tA,rU]at h;obtain⟨rfl,rfl⟩:=h;obtain⟨d1,d2⟩:=eQ h2;rw[UH,UO,e1,e2,d1,d2];exact⟨rfl,rfl⟩
theorem Cw:∀(n:Nat){l:List UInt8},ZS n l=G->(UO n ⟨l,N⟩).short=M|0,l,h=>by rw[ZS]at h;cases h|n+1,l,h=>by rw[xJ]at h;cases h1:ZS n l with|none=>exact CO (Cw n h1)|some q=>obtain⟨ws1,l1⟩:=q;rw[h1]at h;have h:(match Jl l1 with|I (w,r2)=>I (ws1++[w],r2)|none=>G)=G:=h;obtain⟨e1,e2⟩:=vN n h1;cases h2:Jl l1 with|none=>rw[UO,e2];exact dW h2|some q=>obtain⟨p,l3⟩:=q;rw[h2]at h;cases h
def EU(r:VB):VB:=UO (JQ (Xf (Xf (Xf r)))) (Xf (Xf (Xf (Xf r))))
def E8(r:VB):XI:=⟨((65536*JQ r+256*JQ (Xf r)+JQ (Xf (Xf r)):Nat):Int),UH (JQ (Xf (Xf (Xf r)))) (Xf (Xf (Xf (Xf r))))⟩
theorem D8(r:VB):RS (E8 r).writes∧(E8 r).writes.length<=255:=⟨Nw _ _,by
 show(UH _ _).length<=255;rw[Dk];exact pS (Yv _)⟩
theorem L7(b:List UInt8)(h:¬b.length<4):JQ ⟨b,N⟩=(b.getD 0 0).toNat∧JQ (Xf ⟨b,N⟩)=(b.getD 1 0).toNat∧JQ (Xf (Xf ⟨b,N⟩))=(b.getD 2 0).toNat∧JQ (Xf (Xf (Xf ⟨b,N⟩)))=(b.getD 3 0).toNat∧Xf (Xf (Xf (Xf ⟨b,N⟩)))=⟨b.drop 4,N⟩:=by
 match b,h with|[],h=>exact absurd (by simp) h|[_],h=>exact absurd (by simp) h|[_,_],h=>exact absurd (by simp) h|[_,_,_],h=>exact absurd (by simp) h|x0::x1::x2::x3::b,_=>obtain⟨a1,a2⟩:=Ja x0 (x1::x2::x3::b);obtain⟨b1,b2⟩:=Ja x1 (x2::x3::b);obtain⟨c1,c2⟩:=Ja x2 (x3::b);obtain⟨d1,d2⟩:=Ja x3 b;rw[a1,b1,c1,d1];exact⟨a2,b2,c2,d2,rfl⟩
theorem iM(b:List UInt8)(h:b.length<4):(EU ⟨b,N⟩).short=M:=by
 unfold EU;refine Nq _ ?_;match b,h with|[],_=>exact Kt (Kt (Kt yQ))|[x],_=>rw[(Ja x []).1];exact Kt (Kt yQ)|[x,y],_=>rw[(Ja x [y]).1,(Ja y []).1];exact Kt yQ|[x,y,z],_=>rw[(Ja x [y,z]).1,(Ja y [z]).1,(Ja z []).1];exact yQ|_::_::_::_::_,h=>exact absurd h (by simp only[sN];omega)
theorem OF{b:List UInt8}(h0:¬4000<b.length)(h:(EU ⟨b,N⟩).short=M):YU b=14∧JP b=Zk:=by
 by_cases h4:b.length<4;·exact SU h4
 ·obtain⟨_,_,_,e3,e4⟩:=L7 b h4;cases hb:G8 b with|none=>exact Hw h0 h4 hb|some q=>obtain⟨ws,l⟩:=q;obtain⟨_,e5⟩:=vN _ hb;unfold EU at h;rw[e3,e4,e5]at h;cases h
theorem DX{b:List UInt8}(h:(EU ⟨b,N⟩).short=N):¬b.length<4∧G8 b=I ((E8 ⟨b,N⟩).writes,(EU ⟨b,N⟩).rest)∧(Gk b:Int)=(E8 ⟨b,N⟩).turn:=by
 by_cases h4:b.length<4;·rw[iM b h4]at h;cases h
 ·obtain⟨e0,e1,e2,e3,e4⟩:=L7 b h4;refine⟨h4,?_,?_⟩;(·cases hb:G8 b with|none=>have:=Cw _ hb;unfold EU at h;rw[e3,e4,this]at h;cases h|some q=>obtain⟨ws,l⟩:=q;obtain⟨e5,e6⟩:=vN _ hb;unfold EU E8;rw[e3,e4,e5,e6]);·unfold E8;rw[e0,e1,e2];rfl
theorem fW{b:List UInt8}(h0:¬4000<b.length)(h:(EU ⟨b,N⟩).short=N)(hr:(EU ⟨b,N⟩).rest.length≠0):YU b=4∧JP b=Zk:=by
 obtain⟨h4,hb,_⟩:=DX h;exact Hh h0 h4 hb hr
theorem fM{b:List UInt8}(h0:¬4000<b.length)(h:(EU ⟨b,N⟩).short=N)(hr:(EU ⟨b,N⟩).rest.length=0):YU b=Za (E8 ⟨b,N⟩)∧(YU b=0->JP b=E8 ⟨b,N⟩)∧(YU b≠0->JP b=Zk):=by
 obtain⟨h4,hb,ht⟩:=DX h;have:=Im h0 h4 hb hr;rw[ht]at this;exact this
theorem ZG(w:F)(o:Obj):∃W:F,Hid (W=w.alloc o)∧L w W G∧Hid (W.heap[w.heap.size]?=I o):=⟨w.alloc o,rfl,sL _ _ _,oG w o⟩
theorem kH(w:F)(b i:Nat)(u:H):∃W:F,Hid (W=tD w ⟨b,i,G⟩ u)∧L w W (I b):=⟨_,rfl,YX w b i u⟩
theorem lW:(234:Nat)≠5:=by
 decide
theorem gF:(234:Nat)≠97:=by
 decide
theorem Qe.rdr{w w':F}{b:Nat}{a0:Option rC}{n0 c0:Nat}{s:Bool}{t:tY}{v:H}{bs:List UInt8}(h:Qe w v bs)(hb:w.heap[b]?=I (S #[J a0 n0 c0,tP s] t))(hg:L w w' (I b)):Qe w' v bs:=by
 obtain⟨a,cap,rfl,hc,h⟩:=h;refine⟨a,cap,rfl,hc,?_⟩;rcases h with h|⟨pb,o,rfl,h⟩;·exact .inl h
 ·by_cases h0:bs=[];(·exact .inl ⟨h0,fun e=>by cases e⟩);·refine .inr ⟨pb,o,rfl,h.grown hg ?_⟩;intro e;cases e;have hc0:=h 0 (rS.2 h0);simp only[tV,hb,Nat.add_zero]at hc0;match o,hc0 with|0,hc0=>simp at hc0|1,hc0=>simp at hc0|o+2,hc0=>simp at hc0
structure Zd (w0 w : F) (b : Nat) (r : VB) : Prop where
  at_ : ∃ a cap, w.heap[b]? = I (S #[J a r.rest.length cap, tP r.short] 234) ∧ Qe w0 (J a r.rest.length cap) r.rest
  old : ∃ a n c s, w0.heap[b]? = I (S #[J a n c, tP s] 234)
  grown : L w0 w (I b)
theorem Zd.lt{w0 w:F}{b:Nat}{r:VB}(h:Zd w0 w b r):b<w.heap.size:=by
 obtain⟨a,cap,h,_⟩:=h.at_;exact(tI.1 h).1
theorem Zd.now{w0 w:F}{b:Nat}{r:VB}(h:Zd w0 w b r){v:H}{bs:List UInt8}(hv:Qe w0 v bs):Qe w v bs:=by
 obtain⟨a,n,c,s,h0⟩:=h.old;exact hv.rdr h0 h.grown
theorem Zd.row{w0 w:F}{b:Nat}{r:VB}(h:Zd w0 w b r):I b=G∨∃g cur t fz,I b=I g∧0<=g∧w.heap[g]?=I (S cur t fz)∧t≠5:=by
 obtain⟨a,cap,h,_⟩:=h.at_;exact .inr ⟨b,_,_,_,rfl,tR _,h,lW⟩
theorem Qi.rdr{w0 w w':F}{b:Nat}{r:VB}{v:H}{bs:List UInt8}(h:Qi 0 w v bs)(hb:Zd w0 w b r)(hg:L w w' (I b)):Qi 0 w' v bs:=h.keptT hg hb.row
theorem Xs{w w':F}(hg:L w w' G)(r:Option Nat):L w w' r:=⟨hg.os,hg.tape,hg.output,hg.size,fun i hi _=>hg.block i hi (by
 simp)⟩
theorem Zd.kept{w0 w w':F}{b:Nat}{r:VB}(h:Zd w0 w b r)(hg:L w w' G):Zd w0 w' b r:=by
 have hl:=h.lt;obtain⟨a,cap,h1,hs⟩:=h.at_;exact⟨⟨a,cap,by rw[hg.block b hl (by simp)];exact h1,hs⟩,h.old,Qa h.grown (Xs hg _)⟩
theorem Xc{w w':F}{b:Nat}(hg:L w w' (I b)){c:Nat}{o:Obj}(hc:w.heap[c]?=I o)(hne:c≠b):w'.heap[c]?=I o:=by
 rw[hg.block c (tI.1 hc).1 (by simpa using hne)];exact hc
theorem Zd.apart{w0 w w':F}{b:Nat}{r:VB}(h:Zd w0 w b r){c:Nat}(hne:b≠c)(hc:w0.heap.size<=c)(hg:L w w' (I c)):Zd w0 w' b r:=by
 have hl:=h.lt;obtain⟨a,cap,h1,hs⟩:=h.at_;exact⟨⟨a,cap,by rw[hg.block b hl (by simpa using hne)];exact h1,hs⟩,h.old,JK h.grown hc hg⟩
theorem Q5.rdr{rb:Nat}{w0 w w':F}{b:Nat}{r:VB}{v:H}{l:List Ze}(h:Q5 rb 0 w v l)(hb:Zd w0 w b r)(hg:L w w' (I b)):Q5 rb 0 w' v l:=by
 obtain⟨a,cap,h0,_⟩:=hb.at_;exact h.kept hg (.inr (h.ne h0 gF)) hb.row
theorem Zd.ownV{rb:Nat}{w0 w w':F}{b:Nat}{r:VB}{v:H}{l:List Ze}(h:Zd w0 w b r)(ho:Q5 rb 0 w v l)(hb:w0.heap.size<=rb)(hg:L w w' v.ownBlock):Zd w0 w' b r:=by
 obtain⟨a,cap,h1,hs⟩:=h.at_;have hne:=ho.ne h1 gF;cases hv:v.ownBlock with|none=>rw[hv]at hg;exact h.kept hg|some g=>rw[hv]at hg hne;exact h.apart (c:=g) (fun e=>hne (by rw[e])) (tQ hb (ho.lt g hv).1) hg
section
open Go.ChangeShapes Go.WideShapes Go.ChangeAt Go.RowKit
theorem own:ownKnob O.godebug=G:=by
 kernel_rfl
theorem Lt:laidOutB O=M:=by
 kernel_rfl
theorem V8{n:Int}(h:(Lit.int tB n).wf=M):-9223372036854775808<=n∧n<=9223372036854775807:=bounds_i64 h
theorem aP{w w':F}(h:L w w' G):Below w.heap.size w w':=⟨h.os,h.tape,h.output,h.size,fun k hk=>h.block k hk (by
 simp)⟩
end
structure Ty(g:Gr):Prop where kind:-9223372036854775808<=g.kind∧g.kind<=9223372036854775807sess:-9223372036854775808<=g.sess∧g.sess<=9223372036854775807name:-9223372036854775808<=g.name∧g.name<=9223372036854775807key:-9223372036854775808<=g.key∧g.key<=9223372036854775807value:-9223372036854775808<=g.value∧g.value<=9223372036854775807
def dD(w:F)(b o:Nat)(g:Gr):Prop:=w.cell? ⟨b,o,G⟩=I (Y tB g.kind)∧w.cell? ⟨b,o+1,G⟩=I (Y tB g.sess)∧w.cell? ⟨b,o+2,G⟩=I (Y tB g.name)∧w.cell? ⟨b,o+3,G⟩=I (Y tB g.key)∧w.cell? ⟨b,o+4,G⟩=I (Y tB g.value)
theorem dD.grown{w w':F}{b o:Nat}{g:Gr}(h:dD w b o g)(hg:L w w' G):dD w' b o g:=⟨hg.cell h.1 (by
 simp),hg.cell h.2.1 (by
 simp),hg.cell h.2.2.1 (by
 simp),hg.cell h.2.2.2.1 (by
 simp),hg.cell h.2.2.2.2 (by
 simp)⟩
def Kr(w:F)(v:H)(l:List Gr):Prop:=∃a cap,v=J a l.length cap∧l.length<=cap∧(l=[]∨∃b o,a=I ⟨b,o,G⟩∧∀i,i<l.length->dD w b (o+i*5) (l.getD i kT))
theorem Kr.shape{w:F}{v:H}{l:List Gr}(h:Kr w v l):∃a cap,v=J a l.length cap:=by
 obtain⟨a,cap,rfl,_⟩:=h;exact⟨a,cap,rfl⟩
theorem Kr.grown{w w':F}{v:H}{l:List Gr}(h:Kr w v l)(hg:L w w' G):Kr w' v l:=by
 obtain⟨a,cap,rfl,hc,h⟩:=h;refine⟨a,cap,rfl,hc,?_⟩;rcases h with h|⟨b,o,rfl,h⟩;·exact .inl h
 ·exact .inr ⟨b,o,rfl,fun i hi=>(h i hi).grown hg⟩
theorem Kr.at{w:F}{a:Option rC}{n cap:Nat}{l:List Gr}(h:Kr w (J a n cap) l)(i:Nat)(hi:i<l.length):∃b o,a=I ⟨b,o,G⟩∧dD w b (o+i*5) (l.getD i kT):=by
 obtain⟨a',cap',e,_,h⟩:=h;simp only[tH]at e;obtain⟨rfl,_,_⟩:=e;rcases h with rfl|⟨b,o,rfl,h⟩;·simp at hi
 ·exact⟨b,o,rfl,h i hi⟩
def Eh(l:List Gr):Prop:=∀g∈l,Ty g
theorem Di{l:List Gr}{m:Nat}(h:m<l.length):Yo l (m+1)=Yo l m++[EB (l.getD m kT)]:=by
 unfold Yo;rw[List.take_add_one,List.map_append];simp[h]
theorem Bu(l:List Gr)(m:Nat):(Yo l m).length=min m l.length:=by
 simp[Yo]
def IQ:Prop:=∀(w:F)(v:H)(t:Gg),K8 w v t->yD t->sZ O 82 #[v] w fun e w'=>∃x,e=tE (sG #[x,Y tB (RJ t)])∧YI w' x (JT t)∧L w w' G
def AO:Prop:=∀(w:F)(v:H)(t:Gg)(keep:Int),K8 w v t->yD t->-9223372036854775808<=keep->keep<=9223372036854775807->sZ O 102 #[v,Y tB keep] w fun e w'=>∃x,e=tE (sG #[x,Y tB (UB t keep)])∧YI w' x (Xv t keep)∧L w w' G
theorem E6:(112:Nat)≠5:=by
 decide
theorem LU:(112:Nat)≠97:=by
 decide
theorem EW:(112:Nat)≠206:=by
 decide
def IG:Prop:=∀(w:F)(v:H)(a:Ac),Wn w v a->Si a->sZ O 38 #[v] w fun e w'=>e=tE (Y tB (Jc a))∧L w w' G
theorem OG(s q:Int)(d:List UInt8):Jc ⟨1,s,q,d⟩=if 0<=s∧s<=7then(if 4000<d.length then 1 else if q=0then 0 else 4)else 2:=by
 unfold Jc;rw[if_pos (by show(1:Int)<=1∧(1:Int)<=4;omega)];by_cases h1:0<=s∧s<=7;·rw[if_pos h1,if_neg (by rintro(⟨_,h⟩|⟨h,_⟩);exact h h1;cases h)];by_cases h2:4000<d.length;(·rw[if_pos h2,if_pos h2]);·rw[if_neg h2,if_neg h2];by_cases h3:q=0;(·rw[if_pos h3,if_neg];rintro(⟨h,_⟩|⟨_,h⟩|⟨h,_⟩);(·exact h rfl);(·exact h h3);·exact h rfl);·rw[if_neg h3,if_pos (.inr (.inl ⟨by show(1:Int)≠3;decide,h3⟩))]
 ·rw[if_neg h1,if_pos (.inl ⟨rfl,h1⟩)]
theorem SH(s q:Int)(d:List UInt8):Jc ⟨3,s,q,d⟩=if 0<=q∧q<=200000then(if 4000<d.length then 1 else if s=0then(if 0<d.length then 4 else 0)else 4)else 2:=by
 unfold Jc;rw[if_pos (by show(1:Int)<=3∧(3:Int)<=4;omega)];by_cases h1:0<=q∧q<=200000;·rw[if_pos h1,if_neg (by rintro(⟨h,_⟩|⟨_,h⟩);cases h;exact h h1)];by_cases h2:4000<d.length;(·rw[if_pos h2,if_pos h2]);·rw[if_neg h2,if_neg h2];by_cases h3:s=0;(·rw[if_pos h3];by_cases h4:0<d.length;(·rw[if_pos h4,if_pos (.inr (.inr ⟨by show(3:Int)≠1;decide,h4⟩))]);·rw[if_neg h4,if_neg];rintro(⟨_,h⟩|⟨h,_⟩|⟨_,h⟩);(·exact h h3);(·exact h rfl);·exact h4 h);·rw[if_neg h3,if_pos (.inl ⟨by show(3:Int)≠1;decide,h3⟩)]
 ·rw[if_neg h1,if_pos (.inr ⟨rfl,h1⟩)]
theorem BE(k s q:Int)(d:List UInt8)(hk:k=2∨k=4):Jc ⟨k,s,q,d⟩=if 4000<d.length then 1 else if s=0then(if q=0then(if 0<d.length then 4 else 0)else 4)else 4:=by
 unfold Jc;have k1:¬k=1:=by omega
 have k3:¬k=3:=by omega
 rw[if_pos (by show 1<=k∧k<=4;omega),if_neg (by rintro(⟨h,_⟩|⟨h,_⟩);exact k1 h;exact k3 h)];by_cases h2:4000<d.length;·rw[if_pos h2,if_pos h2]
 ·rw[if_neg h2,if_neg h2];by_cases h3:s=0;(·rw[if_pos h3];by_cases h5:q=0;(·rw[if_pos h5];by_cases h4:0<d.length;(·rw[if_pos h4,if_pos (.inr (.inr ⟨k1,h4⟩))]);·rw[if_neg h4,if_neg];rintro(⟨_,h⟩|⟨_,h⟩|⟨_,h⟩);(·exact h h3);(·exact h h5);·exact h4 h);·rw[if_neg h5,if_pos (.inr (.inl ⟨k3,h5⟩))]);·rw[if_neg h3,if_pos (.inl ⟨k1,h3⟩)]
def XV(r:Rq):Nat->List UInt8|0=>[sS r.kind.toNat]|1=>[sS r.kind.toNat]++Xo (QS r.kind 0) r.name|2=>[sS r.kind.toNat]++Xo (QS r.kind 0) r.name++Xo (QS r.kind 1) r.key|3=>[sS r.kind.toNat]++Xo (QS r.kind 0) r.name++Xo (QS r.kind 1) r.key++Xo (QS r.kind 2) r.last|_=>[sS r.kind.toNat]++Xo (QS r.kind 0) r.name++Xo (QS r.kind 1) r.key++Xo (QS r.kind 2) r.last++Xo (QS r.kind 3) r.value
theorem WS(r:Rq):XV r 4=KN r:=by
 show[sS r.kind.toNat]++Xo (QW r.kind) r.name++Xo (QW r.kind) r.key++Xo (tS (r.kind=3)) r.last++Xo (tS (r.kind=4)) r.value=_;rw[KN,zU];simp[pF]
theorem Wb{r:Rq}(h:YS r)(m:Nat):(XV r m).length<=200:=by
 have k1:r.name.length<=8:=by by_cases e:QW r.kind=M;(·exact(h.name e).2);·rw[h.noName (by simpa using e)];simp
 have k2:r.key.length<=16:=by by_cases e:QW r.kind=M;(·exact(h.key e).2);·rw[h.noKey (by simpa using e)];simp
 have k3:r.last.length<=16:=by by_cases e:r.kind=3;(·exact(h.last e).2);·rw[h.noLast e];simp
 have k4:=h.value;have l1:=Ud (QS r.kind 0) r.name;have l2:=Ud (QS r.kind 1) r.key;have l3:=Ud (QS r.kind 2) r.last;have l4:=Ud (QS r.kind 3) r.value;match m with|0=>simp[XV]|1=>simp only[XV,tC,sA];omega|2=>simp only[XV,tC,sA];omega|3=>simp only[XV,tC,sA];omega|m+4=>simp only[XV,tC,sA];omega
end Go.Proofs.YteohkbehnmjliaaGreatDoor
